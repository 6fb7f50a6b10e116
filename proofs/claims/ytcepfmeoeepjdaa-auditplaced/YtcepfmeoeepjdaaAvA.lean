import Derived.Test.YtcepfmeoeepjdaaAuZ
import Derived.Test.YtcepfmeoeepjdaaAuT
namespace Go.Proofs.Ytcepfmeoeepjdaa
namespace Au
open Go.RowKit
set_option linter.unusedVariables false
set_option maxRecDepth 8000
abbrev S57 (sb pb rb sg v n sn sc : Nat) (s0 c0 : Int) (w : World) : Prop := w.cell? ⟨sb, 0, none⟩ = some (.slice (some ⟨sg, 0, none⟩) sn sc) ∧ w.cell? ⟨pb, 2, none⟩ = some (.slice (some ⟨rb, n, none⟩) n n) ∧ w.cell? ⟨sg, v * 8, none⟩ = some (.int .u64 s0) ∧ w.cell? ⟨rb, n + v, none⟩ = some (.int .u64 c0)
set_option maxHeartbeats 4000000 in
theorem rule57 (n m rb pb qb sb sg sn sc : Nat) (D C : Nat → Int) (S : Nat → Nat → Int) (v : Nat) (hv : v < n) (hs : n ≤ sn) (hm : 2 * n ≤ m) (hn : n ≤ 5000) (w : World) (hR : Pr w rb n m D C) (hb : Pb w pb qb rb n) (hsb : Boxed w sb 23 (.slice (some ⟨sg, 0, none⟩) sn sc)) (hS : SR w sg sn S) :
    Calls Try.prog 57 #[.int .u32 (v : Int), .pointer (some ⟨sb, 0, none⟩), .pointer (some ⟨pb, 0, none⟩)] w fun e w' => e = .returned (.bool (S v 0 != C v)) ∧ w' = w.drew := by
  have HS : Hid (S57 sb pb rb sg v n sn sc (S v 0) (C v) w.drew) := ⟨hsb.cell, hb.k.2.2, hS.c v (by omega) 0 (by omega), hR.c hm v hv⟩
  have hsn : v < sn := by omega
  clear hR hb hsb hS
  go_enter Try.func57, Try.ntmps57
  go_wp2_with (fail)
  go_region_held3 (S57 sb pb rb sg v n sn sc (S v 0) (C v)) ((with_reducible exact HS.out)) ((fail))
  clear HS
  go_wp2
  all_goals go_ret
  all_goals exact ⟨rfl, rfl⟩
theorem enters57 (A : Array Value) (W : World) : (callFunc 57 A).run Try.prog W = .ok (.enter 57 A) W := enters_of Try.func57 (by kernel_rfl) rfl A W
theorem enters55 (A : Array Value) (W : World) : (callFunc 55 A).run Try.prog W = .ok (.enter 55 A) W := enters_of Try.func55 (by kernel_rfl) rfl A W
/-- What a look at core numbers ends with. -/
def AC (n : Nat) (L : List T3) (S : Nat → Nat → Int) (o : Vd) : Prop := ∃ t, an (lb (it n L t).1) n = false ∧ Lm (fun a b => b = 1 ∧ a < n ∧ (S a 0 != (it n L t).1 a) = true) o
def RC (n m rb : Nat) (L : List T3) (f : Int) (S : Nat → Nat → Int) (E : Int) (o : Vd) (W : World) : Prop := E = fa n 0 L f ∧ (E = 0 → AC n L S o) ∧ ∃ D C, Pr W rb n m D C
abbrev S55 (nb n : Nat) (w : World) : Prop := w.cell? ⟨nb, 0, none⟩ = some (.int .u32 (n : Int))
set_option maxHeartbeats 4000000 in
theorem look55 (n m rb sb nb sg sn sc qb Bt Bf g : Nat) (L : List T3) (f : Int) (S : Nat → Nat → Int) (D C : Nat → Int) (hs : n ≤ sn) (hm : 2 * n ≤ m) (hn0 : 0 < n) (hn : n ≤ 5000) (hlen : L.length ≤ 140737488351232) (w : World)
    (hQ : Iq w qb n 0 (fe Bt Bf) (.slice (some ⟨sg, 0, none⟩) sn sc) none) (hP : Pr w rb n m D C) (hF : Fd w g Bt Bf L f) (hsb : Boxed w sb 23 (.slice (some ⟨sg, 0, none⟩) sn sc)) (hnb : Boxed w nb 22 (.int .u32 (n : Int))) (hS : SR w sg sn S)
    (r1 : rb ≠ g) (r2 : rb ≠ Bt) (r3 : rb ≠ Bf) (r4 : rb ≠ sb) (r5 : rb ≠ sg) (r6 : rb ≠ qb) (q4 : qb ≠ sb) (q5 : qb ≠ sg) :
    Calls Try.prog 55 #[.pointer (some ⟨qb, 0, none⟩), .slice (some ⟨rb, 0, none⟩) (2 * n) (2 * n), .pointer (some ⟨nb, 0, none⟩), .pointer (some ⟨sb, 0, none⟩)] w fun e w' =>
      ∃ E o, e = .returned (.int .i64 E) ∧ Iq w' qb n 0 (fe Bt Bf) (.slice (some ⟨sg, 0, none⟩) sn sc) o ∧ RC n m rb L f S E o w' ∧ Ch (fun k => k = rb ∨ k = qb) w w' := by
  have hPl := hP.lt
  have hQl := hQ.lt
  obtain ⟨w1, hw1⟩ : ∃ w1, (w.alloc (.cells (pv qb rb n) 91)).drew = w1 := ⟨_, rfl⟩
  have hB1 : Below w.heap.size w w1 := by rw [← hw1]; exact belowD (b1 _ _ _)
  have hb1 : Pb w1 w.heap.size qb rb n := by rw [← hw1]; exact at0 _ _
  have hC1 : Ch (fun _ => False) w w1 := Ch.of hB1
  have HS : Hid (S55 nb n w.drew) := hnb.cell
  have HSa : Hid (∀ o, S55 nb n (w.alloc o).drew) := fun o => (hnb.alloc o).cell
  have h2n : 2 * n - n = n := by omega
  have hle : n ≤ 2 * n := by omega
  have hne2 : ¬ 2 * n = n := by omega
  have hI0 : (0 : Int) ≤ (n : Int) := by omega
  have hI1 : (n : Int) ≤ ((2 * n : Nat) : Int) := by omega
  have hI2 : (n : Int) ≤ 2 * (n : Int) := by omega
  have hI3 : ¬ (n : Int) < 0 := by omega
  have HS1 : Hid (S55 nb n w1) := (by show _ = _; rw [← hw1]; exact (hnb.alloc _).cell)
  have hP1 : Pr w1 rb n m D C := hP.of (hB1.block _ hPl)
  have hQ1 := hQ.on hC1 (fun h => h)
  have hF1 := hF.on hC1 (fun h => h) (fun h => h) (fun h => h)
  have hsb1 : Boxed w1 sb 23 (.slice (some ⟨sg, 0, none⟩) sn sc) := (hB1.block _ hsb.lt).trans hsb
  have hS1 := hS.on hC1 (fun h => h)
  have HPl := hide (peel_any n m rb qb Bt Bf g D C L f _ none hm hn0 hn hlen w1 hP1 hQ1 hF1 r1 r2 r3 r6)
  obtain ⟨k0, k1, k2⟩ := hb1.k
  have HQ1 := hide hQ1
  have HSB1 := hide hsb1
  have HS9 := hide hS1
  have HPB := hide hb1
  have HC1 : Hid (Ch (fun k => k = rb ∨ k = qb) w w1) := Ch.of hB1
  obtain ⟨pb, hpb⟩ : ∃ pb, pb = w.heap.size := ⟨_, rfl⟩
  have HPBn : Hid (rb ≠ pb ∧ qb ≠ pb) := ⟨by omega, by omega⟩
  rw [← hpb] at HPB
  clear hnb hQ hP hF hsb hS hP1 hQ1 hF1 hsb1 hS1 hb1 hB1 hC1
  go_enter Try.func55, Try.ntmps55
  go_wp2_with (fail)
  apply wp_cut (fun w' => w' = w1)
  case h =>
    go_region_held3 (S55 nb n) ((first | with_reducible exact HS.out | with_reducible exact HS1.out | with_reducible exact HSa.out _)) ((fail))
    all_goals exact ⟨rfl, by first | rfl | trivial | exact hw1⟩
  case hq =>
    rintro w9 rfl
    have HW1 := hide hw1
    clear hw1
    go_wp2_with (fail)
    refine HPl.out.mono ?_
    rintro e2 w2 ⟨E, rfl, hE, hC2, hT, hX⟩
    obtain ⟨D2, C2, hP2, hT2⟩ : ∃ D2 C2, Pr w2 rb n m D2 C2 ∧ (E = 0 → ∃ t, an (lb (it n L t).1) n = false ∧ C2 = (it n L t).1) := by
      by_cases h0 : E = 0
      · obtain ⟨t, D', a, b⟩ := hT h0
        exact ⟨D', _, b, fun _ => ⟨t, a, rfl⟩⟩
      · obtain ⟨D', C', b⟩ := hX
        exact ⟨D', C', b, fun h => absurd h h0⟩
    have hQ2 := HQ1.out.on hC2 (fun e => r6 e.symm)
    have hPB2 : Pb w2 pb qb rb n := (hC2.block _ HPB.out.lt (fun e => HPBn.out.1 e.symm)).trans HPB.out
    have hSB2 : Boxed w2 sb 23 (.slice (some ⟨sg, 0, none⟩) sn sc) := (hC2.block _ HSB1.out.lt (fun e => r4 e.symm)).trans HSB1.out
    have hS2 := HS9.out.on hC2 (fun e => r5 e.symm)
    have HR := hide (rule_any qb n 1 57 0 (fe Bt Bf) (.slice (some ⟨sg, 0, none⟩) sn sc) none #[.pointer (some ⟨sb, 0, none⟩), .pointer (some ⟨pb, 0, none⟩)] (fun v => S v 0 != C2 v) (fun _ _ => False) (fun k => False) (fun W => Pr W rb n m D2 C2 ∧ Pb W pb qb rb n ∧ Boxed W sb 23 (.slice (some ⟨sg, 0, none⟩) sn sc) ∧ SR W sg sn S) (by omega) w2 enters57 hQ2 ⟨hP2, hPB2, hSB2, hS2⟩ (fun h => h)
      (fun W W' h hC => by
        obtain ⟨a, b, c, d⟩ := h
        exact ⟨a.of (hC.block rb a.lt r6), (hC.block pb b.lt (fun e => HPBn.out.2 e.symm)).trans b, (hC.block sb c.lt (fun e => q4 e.symm)).trans c, d.on hC (fun e => q5 e.symm)⟩)
      (fun _ _ h => h)
      (fun v W hv h hI => by
        obtain ⟨a, b, c, d⟩ := h
        refine (rule57 n m rb pb qb sb sg sn sc D2 C2 S v hv hs hm hn W a b c d).mono ?_
        rintro e3 w3 ⟨rfl, rfl⟩
        exact ⟨rfl, ⟨a.of rfl, b, c, d.of rfl⟩, (Ch.refl _ _).drew⟩))
    have HC2 : Hid (Ch (fun k => k = rb ∨ k = qb) w w2) := HC1.out.trans (hC2.mono (fun k _ h => Or.inl h))
    have HE := hide hE
    have HT := hide hT2
    clear hE hC2 hT hX hP2 hT2 hQ2 hPB2 hSB2 hS2 HPl HC1 HQ1 HSB1 HS9 HPB k0 k1 k2
    go_wp2_with (fail)
    rw [← hpb]
    refine HR.out.mono ?_
    rintro e3 w3 ⟨⟨v3, rfl⟩, o', hL, hI3, hJ3, hC3⟩
    have HEnd : Hid (Iq w3 qb n 0 (fe Bt Bf) (.slice (some ⟨sg, 0, none⟩) sn sc) o' ∧ RC n m rb L f S E o' w3 ∧ Ch (fun k => k = rb ∨ k = qb) w w3) := ⟨hI3, ⟨HE.out, fun h0 => by
      obtain ⟨t, a, b⟩ := HT.out h0
      exact ⟨t, a, hL.ext (fun v r => by rw [b]; simp)⟩, D2, C2, hJ3.1⟩, HC2.out.trans (hC3.mono (fun k _ h => Or.inr (h.resolve_left (fun x => x))))⟩
    clear hL hI3 hJ3 hC3 HR HC2 HE HT
    go_wp2
    all_goals go_ret
    all_goals exact ⟨E, o', rfl, HEnd.out⟩
end Au
end Go.Proofs.Ytcepfmeoeepjdaa
