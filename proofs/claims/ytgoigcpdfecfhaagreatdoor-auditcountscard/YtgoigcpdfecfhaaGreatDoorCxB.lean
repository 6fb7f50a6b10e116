import Derived.Test.YtgoigcpdfecfhaaGreatDoorCxA
namespace Go.Proofs.YtgoigcpdfecfhaaGreatDoor
namespace Au
open Go.RowKit
set_option linter.unusedVariables false
set_option maxRecDepth 8000
theorem entersX36 (A : Array Value) (W : World) : (callFunc 36 A).run Tryz.prog W = .ok (.enter 36 A) W := enters_of Tryz.func36 (by kernel_rfl) rfl A W
theorem entersX39 (A : Array Value) (W : World) : (callFunc 39 A).run Tryz.prog W = .ok (.enter 39 A) W := enters_of Tryz.func39 (by kernel_rfl) rfl A W
theorem entersX34 (A : Array Value) (W : World) : (callFunc 34 A).run Tryz.prog W = .ok (.enter 34 A) W := enters_of Tryz.func34 (by kernel_rfl) rfl A W
/-- What a look at crossings ends with. -/
def AX (n : Nat) (L : List T3) (s : Int) (S : Nat → Nat → Int) (o : Vd) : Prop := Lm (fun a b => b = 1 ∧ a < n ∧ (S a 0 != crn (ins s) L a) = true) o
def RX (n m rb : Nat) (L : List T3) (f s : Int) (S : Nat → Nat → Int) (E : Int) (o : Vd) (W : World) : Prop := E = fa n 0 L f ∧ (E = 0 → AX n L s S o) ∧ ∃ P, Cg W rb n m P
set_option maxHeartbeats 4000000 in
theorem look34 (n m rb eb sb sg sn sc qb Bt Bf g : Nat) (L : List T3) (f s : Int) (S : Nat → Nat → Int) (P0 : Nat → Int) (hs : n ≤ sn) (hnm : n ≤ m) (hn0 : 0 < n) (hn : n ≤ 10000) (s0 : 0 ≤ s) (s1 : s < 18446744073709551616) (hlen : L.length ≤ 140737488351232) (w : World)
    (hQ : Iq w qb n 0 (fe Bt Bf) (.slice (some ⟨sg, 0, none⟩) sn sc) none) (hG : Cg w rb n m P0) (hF : Fd w g Bt Bf L f) (hsb : Boxed w sb 23 (.slice (some ⟨sg, 0, none⟩) sn sc)) (heb : Boxed w eb 28 (.int .u64 s)) (hS : SR w sg sn S) (hT : Tb w)
    (r1 : rb ≠ g) (r2 : rb ≠ Bt) (r3 : rb ≠ Bf) (r4 : rb ≠ sb) (r5 : rb ≠ sg) (r6 : rb ≠ qb) (r7 : rb ≠ eb) (r8 : 2 ≤ rb) (q4 : qb ≠ sb) (q5 : qb ≠ sg) (q7 : qb ≠ eb) (q8 : 2 ≤ qb) :
    Calls Tryz.prog 34 #[.pointer (some ⟨qb, 0, none⟩), .slice (some ⟨rb, 0, none⟩) n n, .pointer (some ⟨eb, 0, none⟩), .pointer (some ⟨sb, 0, none⟩)] w fun e w' =>
      ∃ E o, e = .returned (.int .i64 E) ∧ Iq w' qb n 0 (fe Bt Bf) (.slice (some ⟨sg, 0, none⟩) sn sc) o ∧ RX n m rb L f s S E o w' ∧ Ch (fun k => k = rb ∨ k = qb) w w' := by
  obtain ⟨fb, hfb⟩ : ∃ fb, fb = w.heap.size := ⟨_, rfl⟩
  obtain ⟨w0, hw0⟩ : ∃ w0, (w.alloc (.cells #[.slice (some ⟨rb, 0, none⟩) n n] 32)) = w0 := ⟨_, rfl⟩
  have hB0 : Below w.heap.size w w0 := by rw [← hw0]; exact b1 _ _ _
  have hbx : Boxed w0 fb 32 (.slice (some ⟨rb, 0, none⟩) n n) := by rw [← hw0, hfb]; exact Boxed.new w _ _
  have hGl := hG.lt
  have hFl := hF.lt
  have hQl := hQ.lt
  have hsl := hsb.lt
  have hel := heb.lt
  have hSl := hS.lt
  have hTl := hT.lt
  have hG0 : Cg w0 rb n m P0 := hG.of (hB0.block _ hGl)
  have hcl := clear_c n m rb n P0 hnm hn0 w0 hG0
  obtain ⟨w1, hw1⟩ : ∃ w1, w0.setCells rb 0 (List.replicate n (.int .u64 0)) = w1 := ⟨_, rfl⟩
  have hP1 : Cg w1 rb n m (crn (ins s) []) := by
    rw [← hw1]
    exact (hG0.zeros n 0 (by omega)).ext (fun v hv => by rw [if_pos (by omega)]; rfl)
  have hC01 : Ch (fun k => k = rb) w0 w1 := by rw [← hw1]; exact Ch.zeros (X := fun k => k = rb) rfl n 0 (Ch.refl _ _)
  have hC1 : Ch (fun k => k = rb) w w1 := (Ch.of hB0).trans hC01
  have hbx1 : Boxed w1 fb 32 (.slice (some ⟨rb, 0, none⟩) n n) := (hC01.block _ hbx.lt (by omega)).trans hbx
  have hQ1 := hQ.on hC1 (by omega)
  have hFd1 := hF.on hC1 (by omega) (by omega) (by omega)
  have hSB1 : Boxed w1 sb 23 (.slice (some ⟨sg, 0, none⟩) sn sc) := (hC1.block sb hsl (by omega)).trans hsb
  have hEB1 : Boxed w1 eb 28 (.int .u64 s) := (hC1.block eb hel (by omega)).trans heb
  have hS1 := hS.on hC1 (by omega)
  have hT1 : Tb w1 := hT.on hC1 (fun k hk => by omega)
  have hc0 : w0.cell? ⟨fb, 0, none⟩ = some (.slice (some ⟨rb, 0, none⟩) n n) := hbx.cell
  have hRl := hP1.lt
  have hBl := hbx1.lt
  have hQl1 := hQ1.lt
  have hel1 := hEB1.lt
  have hsz1 := hC1.size
  have HO := hide (over_any qb n g Bt Bf 36 0 (.slice (some ⟨sg, 0, none⟩) sn sc) #[.pointer (some ⟨eb, 0, none⟩), .pointer (some ⟨fb, 0, none⟩)] L f (fun k => k = rb) (fun pre W => Cg W rb n m (crn (ins s) pre) ∧ Iq W qb n 0 (fe Bt Bf) (.slice (some ⟨sg, 0, none⟩) sn sc) none ∧ Boxed W fb 32 (.slice (some ⟨rb, 0, none⟩) n n) ∧ Boxed W eb 28 (.int .u64 s) ∧ Tb W) (by decide) hlen w1 entersX36 hFd1 (by omega) (by omega) (by omega) (fun k hk => by omega)
    (fun pre W h => ⟨none, h.2.1⟩)
    (fun pre W W' h hk => by
      obtain ⟨a, b, c, d, t⟩ := h
      exact ⟨a.of (hk rb hRl), (hk qb hQl1).trans b, (hk fb hBl).trans c, (hk eb hel1).trans d, t.of (fun k h2 => hk k (by omega))⟩)
    (fun pre e W hp hbad h hsz => by
      obtain ⟨a, b, c, d, t⟩ := h
      obtain ⟨hx, hy, _⟩ := bad_ok hbad
      refine (see36 n m rb fb eb s (crn (ins s) pre) e.1 e.2.1 e.2.2 hx hy hnm hn s0 s1 W a c d t).mono ?_
      rintro e2 w2 ⟨hv, hro, hC⟩
      exact ⟨hv, ⟨by rw [crn_app]; exact hro, b.on hC (by omega), (hC.block fb c.lt (by omega)).trans c, (hC.block eb d.lt (by omega)).trans d, t.on hC (fun k hk => by omega)⟩, hC⟩)
    ⟨hP1, hQ1, hbx1, hEB1, hT1⟩)
  have HC1 : Hid (Ch (fun k => k = rb ∨ k = qb) w w1) := hC1.mono (fun k _ h => Or.inl h)
  have HSB1 := hide hSB1
  have HS1 := hide hS1
  have HW0 := hide hw0
  have HW1 := hide hw1
  rw [← hw0] at hcl hc0
  clear hQ hG hF hsb heb hS hT hbx hB0 hw0 hw1 hG0 hP1 hC01 hC1 hbx1 hQ1 hFd1 hSB1 hEB1 hS1 hT1 hGl hFl hQl hsl hel hSl hTl hsz1
  subst hfb
  go_enter Tryz.func34, Tryz.ntmps34
  go_wp2_with (fail)
  rw [HW0.out, HW1.out]
  refine HO.out.mono ?_
  rintro e2 w2 ⟨E, rfl, hE, hC2, hJ⟩
  obtain ⟨fb, hfb⟩ : ∃ fb, fb = w.heap.size := ⟨_, rfl⟩
  rw [← hfb] at hJ hBl
  obtain ⟨P, hEP, hR2, hQ2, hbx2⟩ : ∃ P, (E = 0 → P = crn (ins s) L) ∧ Cg w2 rb n m P ∧ Iq w2 qb n 0 (fe Bt Bf) (.slice (some ⟨sg, 0, none⟩) sn sc) none ∧ Boxed w2 fb 32 (.slice (some ⟨rb, 0, none⟩) n n) := by
    rcases hJ with ⟨h0, a, b, c, _⟩ | ⟨h0, pre, a, b, c, _⟩
    · exact ⟨_, fun _ => rfl, a, b, c⟩
    · exact ⟨_, fun h => absurd h h0, a, b, c⟩
  have hSB2 : Boxed w2 sb 23 (.slice (some ⟨sg, 0, none⟩) sn sc) := (hC2.block sb HSB1.out.lt (by omega)).trans HSB1.out
  have hS2 := HS1.out.on hC2 (by omega)
  have hqf : qb ≠ fb := by
    intro e
    subst e
    have h1 : w2.heap[qb]? = _ := hQ2
    have h2 : w2.heap[qb]? = some (.cells #[.slice (some ⟨rb, 0, none⟩) n n] 32 (0, 0)) := hbx2
    rw [h1] at h2; simp at h2
  have HR := hide (rule_any qb n 1 39 0 (fe Bt Bf) (.slice (some ⟨sg, 0, none⟩) sn sc) none #[.pointer (some ⟨sb, 0, none⟩), .pointer (some ⟨fb, 0, none⟩)] (fun v => S v 0 != P v) (fun _ _ => False) (fun k => False) (fun W => Cg W rb n m P ∧ Boxed W fb 32 (.slice (some ⟨rb, 0, none⟩) n n) ∧ Boxed W sb 23 (.slice (some ⟨sg, 0, none⟩) sn sc) ∧ SR W sg sn S) (by omega) w2 entersX39 hQ2 ⟨hR2, hbx2, hSB2, hS2⟩ (fun h => h)
    (fun W W' h hC => by
      obtain ⟨a, b, c, d⟩ := h
      exact ⟨a.of (hC.block rb a.lt r6), (hC.block fb b.lt (fun e => hqf e.symm)).trans b, (hC.block sb c.lt (fun e => q4 e.symm)).trans c, d.on hC (fun e => q5 e.symm)⟩)
    (fun _ _ h => h)
    (fun v W hv h hI => by
      obtain ⟨a, b, c, d⟩ := h
      refine (rule39 n m rb fb sb sg sn sc P S v hv hs hnm hn W a b c d).mono ?_
      rintro e3 w3 ⟨rfl, rfl⟩
      exact ⟨rfl, ⟨a.of rfl, b, c, d.of rfl⟩, (Ch.refl _ _).drew⟩))
  have HC2 : Hid (Ch (fun k => k = rb ∨ k = qb) w w2) := HC1.out.trans (hC2.mono (fun k _ h => Or.inl h))
  have HE := hide hE
  have HEP := hide hEP
  clear hE hC2 hJ hR2 hQ2 hbx2 hSB2 hS2 HO HC1 HSB1 HS1 hEP
  go_wp2_with (fail)
  rw [← hfb]
  refine HR.out.mono ?_
  rintro e3 w3 ⟨⟨v3, rfl⟩, o', hL, hI3, hJ3, hC3⟩
  have HEnd : Hid (Iq w3 qb n 0 (fe Bt Bf) (.slice (some ⟨sg, 0, none⟩) sn sc) o' ∧ RX n m rb L f s S E o' w3 ∧ Ch (fun k => k = rb ∨ k = qb) w w3) := ⟨hI3, ⟨HE.out, fun h0 => by
    unfold AX; rw [← HEP.out h0]
    exact hL.ext (fun v r => by simp), P, hJ3.1⟩, HC2.out.trans (hC3.mono (fun k _ h => Or.inr (h.resolve_left id)))⟩
  clear hL hI3 hJ3 hC3 HR HC2 HE HEP
  go_wp2
  all_goals go_ret
  all_goals exact ⟨E, o', rfl, HEnd.out⟩
end Au
end Go.Proofs.YtgoigcpdfecfhaaGreatDoor
