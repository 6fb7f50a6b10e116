import Derived.Test.YtcepfmeoeepjdaaAuN
namespace Go.Proofs.Ytcepfmeoeepjdaa
namespace Au
open Go.RowKit
set_option linter.unusedVariables false
set_option maxRecDepth 8000
theorem enters43 (A : Array Value) (W : World) : (callFunc 43 A).run Try.prog W = .ok (.enter 43 A) W := enters_of Try.func43 (by kernel_rfl) rfl A W
theorem enters46 (A : Array Value) (W : World) : (callFunc 46 A).run Try.prog W = .ok (.enter 46 A) W := enters_of Try.func46 (by kernel_rfl) rfl A W
theorem enters40 (A : Array Value) (W : World) : (callFunc 40 A).run Try.prog W = .ok (.enter 40 A) W := enters_of Try.func40 (by kernel_rfl) rfl A W
/-- What a look at labels ends with. -/
def RL (n m rb : Nat) (L : List T3) (f : Int) (S : Nat → Nat → Int) (E : Int) (o : Vd) (W : World) : Prop := E = fa n 0 L f ∧ (E = 0 → ∃ U ro, Fo n (prs L) U ro ∧ Lm (fun a b => b = 1 ∧ a < n ∧ (S a 0 != ro a) = true) o) ∧ ∃ Q ro, Rf W rb n m Q ro
set_option maxHeartbeats 4000000 in
theorem look40 (n m rb sb sg sn sc qb Bt Bf g : Nat) (L : List T3) (f : Int) (S : Nat → Nat → Int) (U0 : Nat → Int) (hs : n ≤ sn) (hnm : n ≤ m) (hn : n ≤ 10000) (hlen : L.length ≤ 140737488351232) (w : World)
    (hQ : Iq w qb n 0 (fe Bt Bf) (.slice (some ⟨sg, 0, none⟩) sn sc) none) (hG : GU w rb m U0) (hU0 : ∀ x, n ≤ x → x < m → U0 x = 99) (hF : Fd w g Bt Bf L f) (hsb : Boxed w sb 23 (.slice (some ⟨sg, 0, none⟩) sn sc)) (hS : SR w sg sn S)
    (r1 : rb ≠ g) (r2 : rb ≠ Bt) (r3 : rb ≠ Bf) (r4 : rb ≠ sb) (r5 : rb ≠ sg) (r6 : rb ≠ qb) (q1 : qb ≠ g) (q2 : qb ≠ Bt) (q3 : qb ≠ Bf) (q4 : qb ≠ sb) (q5 : qb ≠ sg) :
    Calls Try.prog 40 #[.pointer (some ⟨qb, 0, none⟩), .slice (some ⟨rb, 0, none⟩) n n, .pointer (some ⟨sb, 0, none⟩)] w fun e w' =>
      ∃ E o, e = .returned (.int .i64 E) ∧ Iq w' qb n 0 (fe Bt Bf) (.slice (some ⟨sg, 0, none⟩) sn sc) o ∧ RL n m rb L f S E o w' ∧ Ch (fun k => k = rb ∨ k = qb) w w' := by
  obtain ⟨fb, hfb⟩ : ∃ fb, fb = w.heap.size := ⟨_, rfl⟩
  obtain ⟨w0, hw0⟩ : ∃ w0, (w.alloc (.cells #[.slice (some ⟨rb, 0, none⟩) n n] 70)) = w0 := ⟨_, rfl⟩
  have hB0 : Below w.heap.size w w0 := by rw [← hw0]; exact b1 _ _ _
  have hbx : Boxed w0 fb 70 (.slice (some ⟨rb, 0, none⟩) n n) := by rw [← hw0, hfb]; exact Boxed.new w _ _
  have hGl := hG.lt
  have hFl := hF.lt
  have hQl := hQ.lt
  have hsl := hsb.lt
  have hSl := hS.lt
  have HP := hide (plant_any n m rb U0 hnm hn w0 (hG.on hB0))
  have hc0 : w0.cell? ⟨fb, 0, none⟩ = some (.slice (some ⟨rb, 0, none⟩) n n) := hbx.cell
  have HQ := hide (hQ.on (Ch.of (X := fun _ => False) hB0) (fun h => h))
  have HF := hide (hF.on (Ch.of (X := fun _ => False) hB0) (fun h => h) (fun h => h) (fun h => h))
  have HSB : Hid (Boxed w0 sb 23 (.slice (some ⟨sg, 0, none⟩) sn sc)) := (hB0.block sb hsl).trans hsb
  have HS := hide (hS.on (Ch.of (X := fun _ => False) hB0) (fun h => h))
  have HBX := hide hbx
  have HB0 := hide hB0
  have HU0 := hide hU0
  have HW0 := hide hw0
  rw [← hw0] at hc0
  clear hQ hG hF hsb hS hbx hB0 hU0 hw0
  subst hfb
  go_enter Try.func40, Try.ntmps40
  go_wp2_with (fail)
  rw [HW0.out]
  refine HP.out.mono ?_
  rintro e1 w1 ⟨⟨v1, rfl⟩, U1, hG1, hF1, hO1, hC1⟩
  have hbx1 : Boxed w1 w.heap.size 70 (.slice (some ⟨rb, 0, none⟩) n n) := (hC1.block w.heap.size HBX.out.lt (by omega)).trans HBX.out
  have hQ1 := HQ.out.on hC1 (by omega)
  have hFd1 := HF.out.on hC1 (by omega) (by omega) (by omega)
  have hR1 : Rf w1 rb n m (prs []) (fun v => (v : Int)) := ⟨U1, hG1, hF1, fun x h1 h2 => (hO1 x h1).trans (HU0.out x h1 h2)⟩
  have HSB1 : Hid (Boxed w1 sb 23 (.slice (some ⟨sg, 0, none⟩) sn sc)) := (hC1.block sb HSB.out.lt (by omega)).trans HSB.out
  have HS1 := hide (HS.out.on hC1 (by omega))
  have hRl := hR1.lt
  obtain ⟨fb, hfb⟩ : ∃ fb, fb = w.heap.size := ⟨_, rfl⟩
  rw [← hfb] at hbx1
  have hBl := hbx1.lt
  have hQl1 := hQ1.lt
  have HO := hide (over_any qb n g Bt Bf 43 0 (.slice (some ⟨sg, 0, none⟩) sn sc) #[.pointer (some ⟨fb, 0, none⟩)] L f (fun k => k = rb) (fun pre W => (∃ ro, Rf W rb n m (prs pre) ro) ∧ Iq W qb n 0 (fe Bt Bf) (.slice (some ⟨sg, 0, none⟩) sn sc) none ∧ Boxed W fb 70 (.slice (some ⟨rb, 0, none⟩) n n)) (by decide) hlen w1 enters43 hFd1 (by omega) (by omega) (by omega) (fun k hk => by omega)
    (fun pre W h => ⟨none, h.2.1⟩)
    (fun pre W W' h hk => by
      obtain ⟨⟨ro, a⟩, b, c⟩ := h
      exact ⟨⟨ro, a.of (hk rb hRl)⟩, (hk qb hQl1).trans b, (hk fb hBl).trans c⟩)
    (fun pre e W hp hbad h hsz => by
      obtain ⟨⟨ro, a⟩, b, c⟩ := h
      obtain ⟨hx, hy, _⟩ := bad_ok hbad
      refine (see43 n m rb fb (prs pre) ro e.1 e.2.1 e.2.2 hx hy hnm hn W a c).mono ?_
      rintro e2 w2 ⟨hv, hro, hC⟩
      refine ⟨hv, ⟨by rw [prs_app]; exact hro, b.on hC (by omega), (hC.block fb c.lt (by omega)).trans c⟩, hC⟩)
    ⟨⟨_, hR1⟩, hQ1, hbx1⟩)
  have HC1 : Hid (Ch (fun k => k = rb ∨ k = qb) w w1) := (Ch.of HB0.out).trans (hC1.mono (fun k _ h => Or.inl h))
  clear hG1 hF1 hO1 hC1 hbx1 hQ1 hFd1 hR1 HP HQ HF HSB HS HBX HB0 HU0 HW0
  go_wp2_with (fail)
  rw [← hfb]
  refine HO.out.mono ?_
  rintro e2 w2 ⟨E, rfl, hE, hC2, hJ⟩
  obtain ⟨Q, ro, hEQ, hR2, hQ2, hbx2⟩ : ∃ Q ro, (E = 0 → Q = prs L) ∧ Rf w2 rb n m Q ro ∧ Iq w2 qb n 0 (fe Bt Bf) (.slice (some ⟨sg, 0, none⟩) sn sc) none ∧ Boxed w2 fb 70 (.slice (some ⟨rb, 0, none⟩) n n) := by
    rcases hJ with ⟨h0, ⟨ro, a⟩, b, c⟩ | ⟨h0, pre, ⟨ro, a⟩, b, c⟩
    · exact ⟨_, ro, fun _ => rfl, a, b, c⟩
    · exact ⟨_, ro, fun h => absurd h h0, a, b, c⟩
  have hSB2 : Boxed w2 sb 23 (.slice (some ⟨sg, 0, none⟩) sn sc) := (hC2.block sb HSB1.out.lt (by omega)).trans HSB1.out
  have hS2 := HS1.out.on hC2 (by omega)
  have HR := hide (rule_any qb n 1 46 0 (fe Bt Bf) (.slice (some ⟨sg, 0, none⟩) sn sc) none #[.pointer (some ⟨sb, 0, none⟩), .pointer (some ⟨fb, 0, none⟩)] (fun v => S v 0 != ro v) (fun _ _ => False) (fun k => k = rb) (fun W => Rf W rb n m Q ro ∧ Boxed W fb 70 (.slice (some ⟨rb, 0, none⟩) n n) ∧ Boxed W sb 23 (.slice (some ⟨sg, 0, none⟩) sn sc) ∧ SR W sg sn S) (by omega) w2 enters46 hQ2 ⟨hR2, hbx2, hSB2, hS2⟩ (by omega)
    (fun W W' h hC => by
      obtain ⟨a, b, c, d⟩ := h
      exact ⟨a.of (hC.block rb a.lt (by omega)), (hC.block fb b.lt (by omega)).trans b, (hC.block sb c.lt (by omega)).trans c, d.on hC (by omega)⟩)
    (fun _ _ h => h)
    (fun v W hv h hI => by
      obtain ⟨a, b, c, d⟩ := h
      refine (rule46 n m rb fb sb sg sn sc Q ro S v hv hs hnm hn W a b c d (by omega) (by omega) (by omega)).mono ?_
      rintro e3 w3 ⟨rfl, hR3, hC3⟩
      exact ⟨rfl, ⟨hR3, (hC3.block fb b.lt (by omega)).trans b, (hC3.block sb c.lt (by omega)).trans c, d.on hC3 (by omega)⟩, hC3⟩))
  have HFo : Hid (E = 0 → ∃ U ro', Fo n (prs L) U ro' ∧ ro' = ro) := fun h0 => by
    obtain ⟨U, a, b, c⟩ := hR2
    rw [hEQ h0] at b
    exact ⟨U, ro, b, rfl⟩
  have HC2 : Hid (Ch (fun k => k = rb ∨ k = qb) w w2) := HC1.out.trans (hC2.mono (fun k _ h => Or.inl h))
  have HE := hide hE
  clear hE hC2 hJ hR2 hQ2 hbx2 hSB2 hS2 HO HC1 HSB1 HS1 hEQ
  go_wp2_with (fail)
  rw [← hfb]
  refine HR.out.mono ?_
  rintro e3 w3 ⟨⟨v3, rfl⟩, o', hL, hI3, hJ3, hC3⟩
  have HEnd : Hid (Iq w3 qb n 0 (fe Bt Bf) (.slice (some ⟨sg, 0, none⟩) sn sc) o' ∧ RL n m rb L f S E o' w3 ∧ Ch (fun k => k = rb ∨ k = qb) w w3) := ⟨hI3, ⟨HE.out, fun h0 => by
    obtain ⟨U, ro', a, b⟩ := HFo.out h0
    subst b
    exact ⟨U, ro', a, hL.ext (fun v r => by simp)⟩, Q, ro, hJ3.1⟩, HC2.out.trans hC3⟩
  clear hL hI3 hJ3 hC3 HR HFo HC2 HE
  go_wp2
  all_goals go_ret
  all_goals exact ⟨E, o', rfl, HEnd.out⟩
end Au
end Go.Proofs.Ytcepfmeoeepjdaa
