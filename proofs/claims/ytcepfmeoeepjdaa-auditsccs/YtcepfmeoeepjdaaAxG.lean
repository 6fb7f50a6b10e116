import Derived.Test.YtcepfmeoeepjdaaAxF
namespace Go.Proofs.Ytcepfmeoeepjdaa
namespace Au
open Go.RowKit
set_option linter.unusedVariables false
set_option maxRecDepth 8000
def RS (n m rb : Nat) (L : List T3) (f : Int) (S : Nat → Nat → Int) (E : Int) (o : Vd) (W : World) : Prop := E = fa n 0 L f ∧ (E = 0 → AS S n L o) ∧ ∃ D C, Pr W rb n m D C
theorem enters81 (A : Array Value) (W : World) : (callFunc 81 A).run Try.prog W = .ok (.enter 81 A) W := enters_of Try.func81 (by kernel_rfl) rfl A W
set_option maxHeartbeats 8000000 in
theorem look81 (n m rb nb sg sn sc qb Bt Bf g : Nat) (L : List T3) (f : Int) (S : Nat → Nat → Int) (D C : Nat → Int) (hs : n ≤ sn) (hsr : ∀ v, v < n → 0 ≤ S v 0) (hm : 2 * n ≤ m) (hn0 : 0 < n) (hn : n ≤ 5000) (hlen : L.length ≤ 140737488351232) (w : World)
    (hQ : Iq w qb n 0 (fe Bt Bf) (.slice (some ⟨sg, 0, none⟩) sn sc) none) (hP : Pr w rb n m D C) (hF : Fd w g Bt Bf L f) (hnb : Boxed w nb 22 (.int .u32 (n : Int))) (hS : SR w sg sn S)
    (r1 : rb ≠ g) (r2 : rb ≠ Bt) (r3 : rb ≠ Bf) (r5 : rb ≠ sg) (r6 : rb ≠ qb) (q1 : qb ≠ g) (q2 : qb ≠ Bt) (q3 : qb ≠ Bf) (q5 : qb ≠ sg) :
    Calls Try.prog 81 #[.pointer (some ⟨qb, 0, none⟩), .slice (some ⟨rb, 0, none⟩) (2 * n) (2 * n), .pointer (some ⟨nb, 0, none⟩)] w fun e w' =>
      ∃ E o, e = .returned (.int .i64 E) ∧ Iq w' qb n 0 (fe Bt Bf) (.slice (some ⟨sg, 0, none⟩) sn sc) o ∧ RS n m rb L f S E o w' ∧ Ch (fun k => k = rb ∨ k = qb) w w' := by
  have hPl := hP.lt
  have hQl := hQ.lt
  obtain ⟨w1, hw1⟩ : ∃ w1, (w.alloc (.cells (pv qb rb n) 109)).drew = w1 := ⟨_, rfl⟩
  have hB1 : Below w.heap.size w w1 := by rw [← hw1]; exact belowD (b1 _ _ _)
  have hb1 : Kb w1 w.heap.size qb rb n := by rw [← hw1]; exact at0 _ _
  have hC1 : Ch (fun _ => False) w w1 := Ch.of hB1
  have HS : Hid (S55 nb n w.drew) := hnb.cell
  have HSa : Hid (∀ o, S55 nb n (w.alloc o).drew) := fun o => (hnb.alloc o).cell
  have h2n : 2 * n - n = n := by omega
  have hle : n ≤ 2 * n := by omega
  have hne2 : ¬ 2 * n = n := by omega
  have hI0 : (0 : Int) ≤ (n : Int) := by omega
  have hI1 : (n : Int) ≤ ((2 * n : Nat) : Int) := by omega
  have hI2 : (n : Int) ≤ 2 * (n : Int) := by omega
  have hI3 : ¬ (n : Int) < 0 := by omega
  have HS1 : Hid (S55 nb n w1) := (by show _ = _; rw [← hw1]; exact (hnb.alloc _).cell)
  have hP1 : Pr w1 rb n m D C := hP.of (hB1.block _ hPl)
  have hQ1 := hQ.on hC1 (fun h => h)
  have hF1 := hF.on hC1 (fun h => h) (fun h => h) (fun h => h)
  have hS1 := hS.on hC1 (fun h => h)
  have HWi := hide (within_any n m rb sg sn sc qb Bt Bf g L f S D C hs hsr hm hn0 hn hlen w1 hQ1 hP1 hF1 hS1 r1 r2 r3 r5 r6 q5)
  have HKr : Hid (∀ W, Ch (fun k => k = rb ∨ k = qb) w1 W → Kb W w.heap.size qb rb n ∧ Fd W g Bt Bf L f ∧ SR W sg sn S ∧ Ch (fun k => k = rb ∨ k = qb) w W) := fun W h => ⟨(h.block _ hb1.lt (by omega)).trans hb1, hF1.on h (by omega) (by omega) (by omega), hS1.on h (by omega), (Ch.of hB1).trans h⟩
  obtain ⟨k0, k1, k2⟩ := hb1.k
  have HSR := hide hsr
  clear hnb hQ hP hF hS hP1 hQ1 hF1 hS1 hb1 hB1 hC1 hsr
  go_enter Try.func81, Try.ntmps81
  go_wp2_with (fail)
  apply wp_cut (fun w' => w' = w1)
  case h =>
    go_region_held3 (S55 nb n) ((first | with_reducible exact HS.out | with_reducible exact HS1.out | with_reducible exact HSa.out _)) ((fail))
    all_goals exact ⟨rfl, by first | rfl | trivial | exact hw1⟩
  case hq =>
    rintro w9 rfl
    have HW1 := hide hw1
    clear hw1
    go_wp2_with (fail)
    refine HWi.out.mono ?_
    rintro e2 w2 ⟨E, rfl, ⟨hE, hPx, o, hI2, hA⟩, hC2⟩
    obtain ⟨hK2, hF2, hS2, hCw⟩ := HKr.out _ hC2
    have v0 := hI2.c.2.2.2.2.1
    by_cases hE0 : E = 0
    · have hEb : (E != 0) = false := by simpa using hE0
      obtain ⟨H, K, a1, a2, a3⟩ := hA hE0
      obtain ⟨D2, C2, hP2⟩ := hPx
      cases o with
      | some p =>
        have v1 : w2.cell? ⟨qb, 4, none⟩ = some (.bool false) := v0
        have HEnd : Hid (Iq w2 qb n 0 (fe Bt Bf) (.slice (some ⟨sg, 0, none⟩) sn sc) (some p) ∧ RS n m rb L f S E (some p) w2 ∧ Ch (fun k => k = rb ∨ k = qb) w w2) := ⟨hI2, ⟨hE, fun _ => ⟨H, K, a1, a2, .inl ⟨by simp, a3⟩⟩, ⟨_, _, hP2⟩⟩, hCw⟩
        clear hE hA hC2 hK2 hF2 hS2 hCw v0 a1 a2 a3 hP2 hI2 hE0 HWi HKr
        go_wp2
        all_goals go_ret
        all_goals exact ⟨E, some p, rfl, HEnd.out⟩
      | none =>
        have v1 : w2.cell? ⟨qb, 4, none⟩ = some (.bool true) := v0
        have HBe := hide (between_any n m rb sg sn sc qb Bt Bf g (P12 S n H K) L f S D2 C2 a3 (gl_of HSR.out a3) hs hm hn0 hn hlen w2 hI2 hP2 hF2 hS2 r1 r2 r3 r5 r6 q5)
        obtain ⟨x0, x1, x2⟩ := hK2.k
        have HA := hide (And.intro a1 (And.intro a2 a3))
        have HCw := hide hCw
        clear hE hA hC2 hK2 hF2 hS2 hCw v0 a1 a2 a3 hP2 hI2 hE0 HWi HKr
        go_wp2_with (fail)
        refine HBe.out.mono ?_
        rintro e3 w3 ⟨E3, rfl, ⟨hE3, hPy, o3, hI3, hA3⟩, hC3⟩
        have HEnd : Hid (Iq w3 qb n 0 (fe Bt Bf) (.slice (some ⟨sg, 0, none⟩) sn sc) o3 ∧ RS n m rb L f S E3 o3 w3 ∧ Ch (fun k => k = rb ∨ k = qb) w w3) := ⟨hI3, ⟨hE3, fun h0 => ⟨H, K, HA.out.1, HA.out.2.1, .inr ⟨HA.out.2.2, hA3 h0⟩⟩, hPy⟩, HCw.out.trans hC3⟩
        clear hE3 hPy hI3 hA3 hC3 HBe HA HCw
        go_wp2
        all_goals go_ret
        all_goals exact ⟨E3, o3, rfl, HEnd.out⟩
    · have hEb : (E != 0) = true := by simpa using hE0
      have HEnd : Hid (Iq w2 qb n 0 (fe Bt Bf) (.slice (some ⟨sg, 0, none⟩) sn sc) o ∧ RS n m rb L f S E o w2 ∧ Ch (fun k => k = rb ∨ k = qb) w w2) := ⟨hI2, ⟨hE, fun h => absurd h hE0, hPx⟩, hCw⟩
      clear hE hA hC2 hK2 hF2 hS2 hCw v0 hPx hI2 hE0 HWi HKr
      go_wp2
      all_goals go_ret
      all_goals exact ⟨E, o, rfl, HEnd.out⟩
end Au
end Go.Proofs.Ytcepfmeoeepjdaa
