import Derived.Test.YtcepfmeoeepjdaaAuT
namespace Go.Proofs.Ytcepfmeoeepjdaa
namespace Au
open Go.RowKit
set_option linter.unusedVariables false
set_option maxRecDepth 8000
def SpZ (Z : Nat → Int) (W : World) (rb need rl : Nat) : Prop := ∃ U, GU W rb rl U ∧ ∀ x, need ≤ x → x < rl → U x = Z x
theorem SpZ.of {Z : Nat → Int} {W W' : World} {rb need rl : Nat} (h : SpZ Z W rb need rl) (e : W'.heap[rb]? = W.heap[rb]?) : SpZ Z W' rb need rl := by
  obtain ⟨U, a, b⟩ := h
  exact ⟨U, a.of e, b⟩
/-- The room as a forest. -/
def Rz (Z : Nat → Int) (W : World) (rb n m : Nat) (Q : List (Nat × Nat)) (ro : Nat → Int) : Prop := ∃ U, GU W rb m U ∧ Fo n Q U ro ∧ ∀ x, n ≤ x → x < m → U x = Z x
theorem Rz.of {Z : Nat → Int} {W W' : World} {rb n m : Nat} {Q : List (Nat × Nat)} {ro : Nat → Int} (h : Rz Z W rb n m Q ro) (e : W'.heap[rb]? = W.heap[rb]?) : Rz Z W' rb n m Q ro := by
  obtain ⟨U, a, b, c⟩ := h
  exact ⟨U, a.of e, b, c⟩
theorem Rz.lt {Z : Nat → Int} {W : World} {rb n m : Nat} {Q : List (Nat × Nat)} {ro : Nat → Int} (h : Rz Z W rb n m Q ro) : rb < W.heap.size := by
  obtain ⟨U, a, b, c⟩ := h
  exact a.lt
set_option maxHeartbeats 4000000 in
theorem see43Z (Z : Nat → Int) (n m rb fb : Nat) (Q : List (Nat × Nat)) (ro : Nat → Int) (x y z : Nat) (hx : x < n) (hy : y < n) (hnm : n ≤ m) (hn : n ≤ 10000) (w : World) (hR : Rz Z w rb n m Q ro) (hb : Boxed w fb 70 (.slice (some ⟨rb, 0, none⟩) n n)) :
    Calls Try.prog 43 #[eV x y z, .pointer (some ⟨fb, 0, none⟩)] w fun e w' => (∃ v, e = .returned v) ∧ (∃ ro', Rz Z w' rb n m (Q ++ [(x, y)]) ro') ∧ Ch (fun k => k = rb) w w' := by
  obtain ⟨U, hU, hF, hO⟩ := hR
  have c0 : (w.alloc (.cells #[.int .u32 x, .int .u32 y, .int .u32 z] 73)).cell? ⟨fb, 0, none⟩ = some (.slice (some ⟨rb, 0, none⟩) n n) := (hb.alloc _).cell
  have hwx : IntKind.u64.wrap (x : Int) = x := wu _ (by omega) (by omega)
  have hwy : IntKind.u64.wrap (y : Int) = y := wu _ (by omega) (by omega)
  have HJ := hide (join_any n m rb Q U ro hnm hn x y hx hy (w.alloc (.cells #[.int .u32 x, .int .u32 y, .int .u32 z] 73)) (hU.on (b1 _ _ _)) hF)
  have HO := hide hO
  clear hU hF hb hO
  go_enter Try.func43, Try.ntmps43
  go_wp2_with (fail)
  refine HJ.out.mono ?_
  rintro e1 w1 ⟨⟨v1, rfl⟩, U', ro', hG, hF, hO', hC⟩
  have HE : Hid ((∃ ro', Rz Z w1 rb n m (Q ++ [(x, y)]) ro') ∧ Ch (fun k => k = rb) w w1) := ⟨⟨ro', U', hG, hF, fun t h1 h2 => (hO' t h1).trans (HO.out t h1 h2)⟩, (Ch.of (b1 _ _ _)).trans hC⟩
  clear hG hF hO' hC HJ HO
  go_wp2
  go_end0
  exact ⟨⟨_, rfl⟩, HE.out⟩
abbrev S46Z (sb fb rb sg v n sn sc : Nat) (s0 : Int) (w : World) : Prop := w.cell? ⟨sb, 0, none⟩ = some (.slice (some ⟨sg, 0, none⟩) sn sc) ∧ w.cell? ⟨fb, 0, none⟩ = some (.slice (some ⟨rb, 0, none⟩) n n) ∧ w.cell? ⟨sg, v * 8, none⟩ = some (.int .u64 s0)
set_option maxHeartbeats 4000000 in
theorem rule46Z (Z : Nat → Int) (n m rb fb sb sg sn sc : Nat) (Q : List (Nat × Nat)) (ro : Nat → Int) (S : Nat → Nat → Int) (v : Nat) (hv : v < n) (hs : n ≤ sn) (hnm : n ≤ m) (hn : n ≤ 10000) (w : World) (hR : Rz Z w rb n m Q ro) (hb : Boxed w fb 70 (.slice (some ⟨rb, 0, none⟩) n n)) (hsb : Boxed w sb 23 (.slice (some ⟨sg, 0, none⟩) sn sc)) (hS : SR w sg sn S) (h1 : fb ≠ rb) (h2 : sb ≠ rb) (h3 : sg ≠ rb) :
    Calls Try.prog 46 #[.int .u32 (v : Int), .pointer (some ⟨sb, 0, none⟩), .pointer (some ⟨fb, 0, none⟩)] w fun e w' => e = .returned (.bool (S v 0 != ro v)) ∧ Rz Z w' rb n m Q ro ∧ Ch (fun k => k = rb) w w' := by
  obtain ⟨U, hU, hF, hO⟩ := hR
  have hwv : IntKind.u64.wrap (v : Int) = v := wu _ (by omega) (by omega)
  have HS : Hid (S46Z sb fb rb sg v n sn sc (S v 0) w.drew) := ⟨hsb.cell, hb.cell, hS.c v (by omega) 0 (by omega)⟩
  have HK : Hid (∀ w1, Ch (fun k => k = rb) w.drew w1 → S46Z sb fb rb sg v n sn sc (S v 0) w1) := fun w1 hC => ⟨(hC.cell (p := ⟨sb, 0, none⟩) hsb.lt h2).trans hsb.cell, (hC.cell (p := ⟨fb, 0, none⟩) hb.lt h1).trans hb.cell, (hC.cell (p := ⟨sg, v * 8, none⟩) hS.lt h3).trans (hS.c v (by omega) 0 (by omega))⟩
  have HR := hide (root47 n m rb Q U ro hnm hn v hv w.drew (hU.of rfl) hF)
  have HO := hide hO
  clear hU hF hO hb hsb hS
  have hsn : v < sn := by omega
  go_enter Try.func46, Try.ntmps46
  go_wp2_with (fail)
  go_region_held3 (S46Z sb fb rb sg v n sn sc (S v 0)) ((first | with_reducible exact HS.out | with_reducible exact HK.out _ HC3.out)) ((first | (go_at_call 47; refine HR.out.mono ?_; rintro e3 w3 ⟨rfl, U', hG, hF, _, hO', hC3⟩; have HC3 := hide hC3; have HG := hide (And.intro hG (And.intro hF hO')); clear hC3 hG hF hO')))
  have HE : Hid (Rz Z w3 rb n m Q ro ∧ Ch (fun k => k = rb) w w3) := ⟨⟨U', HG.out.1, HG.out.2.1, fun t h1 h2 => (HG.out.2.2 t h1).trans (HO.out t h1 h2)⟩, (Ch.drew (Ch.refl _ w)).trans HC3.out⟩
  clear HG HC3 HR HO HS HK
  go_wp2
  all_goals go_ret
  all_goals exact ⟨rfl, HE.out⟩
/-- What a look at labels ends with. -/
def RLZ (Z : Nat → Int) (n m rb : Nat) (L : List T3) (f : Int) (S : Nat → Nat → Int) (E : Int) (o : Vd) (W : World) : Prop := E = fa n 0 L f ∧ (E = 0 → ∃ U ro, Fo n (prs L) U ro ∧ Lm (fun a b => b = 1 ∧ a < n ∧ (S a 0 != ro a) = true) o) ∧ ∃ Q ro, Rz Z W rb n m Q ro
set_option maxHeartbeats 4000000 in
theorem look40Z (Z : Nat → Int) (n m rb sb sg sn sc qb Bt Bf g : Nat) (L : List T3) (f : Int) (S : Nat → Nat → Int) (U0 : Nat → Int) (hs : n ≤ sn) (hnm : n ≤ m) (hn : n ≤ 10000) (hlen : L.length ≤ 140737488351232) (w : World)
    (hQ : Iq w qb n 0 (fe Bt Bf) (.slice (some ⟨sg, 0, none⟩) sn sc) none) (hG : GU w rb m U0) (hU0 : ∀ x, n ≤ x → x < m → U0 x = Z x) (hF : Fd w g Bt Bf L f) (hsb : Boxed w sb 23 (.slice (some ⟨sg, 0, none⟩) sn sc)) (hS : SR w sg sn S)
    (r1 : rb ≠ g) (r2 : rb ≠ Bt) (r3 : rb ≠ Bf) (r4 : rb ≠ sb) (r5 : rb ≠ sg) (r6 : rb ≠ qb) (q1 : qb ≠ g) (q2 : qb ≠ Bt) (q3 : qb ≠ Bf) (q4 : qb ≠ sb) (q5 : qb ≠ sg) :
    Calls Try.prog 40 #[.pointer (some ⟨qb, 0, none⟩), .slice (some ⟨rb, 0, none⟩) n n, .pointer (some ⟨sb, 0, none⟩)] w fun e w' =>
      ∃ E o, e = .returned (.int .i64 E) ∧ Iq w' qb n 0 (fe Bt Bf) (.slice (some ⟨sg, 0, none⟩) sn sc) o ∧ RLZ Z n m rb L f S E o w' ∧ Ch (fun k => k = rb ∨ k = qb) w w' := by
  obtain ⟨fb, hfb⟩ : ∃ fb, fb = w.heap.size := ⟨_, rfl⟩
  obtain ⟨w0, hw0⟩ : ∃ w0, (w.alloc (.cells #[.slice (some ⟨rb, 0, none⟩) n n] 70)) = w0 := ⟨_, rfl⟩
  have hB0 : Below w.heap.size w w0 := by rw [← hw0]; exact b1 _ _ _
  have hbx : Boxed w0 fb 70 (.slice (some ⟨rb, 0, none⟩) n n) := by rw [← hw0, hfb]; exact Boxed.new w _ _
  have hGl := hG.lt
  have hFl := hF.lt
  have hQl := hQ.lt
  have hsl := hsb.lt
  have hSl := hS.lt
  have HP := hide (plant_any n m rb U0 hnm hn w0 (hG.on hB0))
  have hc0 : w0.cell? ⟨fb, 0, none⟩ = some (.slice (some ⟨rb, 0, none⟩) n n) := hbx.cell
  have HQ := hide (hQ.on (Ch.of (X := fun _ => False) hB0) (fun h => h))
  have HF := hide (hF.on (Ch.of (X := fun _ => False) hB0) (fun h => h) (fun h => h) (fun h => h))
  have HSB : Hid (Boxed w0 sb 23 (.slice (some ⟨sg, 0, none⟩) sn sc)) := (hB0.block sb hsl).trans hsb
  have HS := hide (hS.on (Ch.of (X := fun _ => False) hB0) (fun h => h))
  have HBX := hide hbx
  have HB0 := hide hB0
  have HU0 := hide hU0
  have HW0 := hide hw0
  rw [← hw0] at hc0
  clear hQ hG hF hsb hS hbx hB0 hU0 hw0
  subst hfb
  go_enter Try.func40, Try.ntmps40
  go_wp2_with (fail)
  rw [HW0.out]
  refine HP.out.mono ?_
  rintro e1 w1 ⟨⟨v1, rfl⟩, U1, hG1, hF1, hO1, hC1⟩
  have hbx1 : Boxed w1 w.heap.size 70 (.slice (some ⟨rb, 0, none⟩) n n) := (hC1.block w.heap.size HBX.out.lt (by omega)).trans HBX.out
  have hQ1 := HQ.out.on hC1 (by omega)
  have hFd1 := HF.out.on hC1 (by omega) (by omega) (by omega)
  have hR1 : Rz Z w1 rb n m (prs []) (fun v => (v : Int)) := ⟨U1, hG1, hF1, fun x h1 h2 => (hO1 x h1).trans (HU0.out x h1 h2)⟩
  have HSB1 : Hid (Boxed w1 sb 23 (.slice (some ⟨sg, 0, none⟩) sn sc)) := (hC1.block sb HSB.out.lt (by omega)).trans HSB.out
  have HS1 := hide (HS.out.on hC1 (by omega))
  have hRl := hR1.lt
  obtain ⟨fb, hfb⟩ : ∃ fb, fb = w.heap.size := ⟨_, rfl⟩
  rw [← hfb] at hbx1
  have hBl := hbx1.lt
  have hQl1 := hQ1.lt
  have HO := hide (over_any qb n g Bt Bf 43 0 (.slice (some ⟨sg, 0, none⟩) sn sc) #[.pointer (some ⟨fb, 0, none⟩)] L f (fun k => k = rb) (fun pre W => (∃ ro, Rz Z W rb n m (prs pre) ro) ∧ Iq W qb n 0 (fe Bt Bf) (.slice (some ⟨sg, 0, none⟩) sn sc) none ∧ Boxed W fb 70 (.slice (some ⟨rb, 0, none⟩) n n)) (by decide) hlen w1 enters43 hFd1 (by omega) (by omega) (by omega) (fun k hk => by omega)
    (fun pre W h => ⟨none, h.2.1⟩)
    (fun pre W W' h hk => by
      obtain ⟨⟨ro, a⟩, b, c⟩ := h
      exact ⟨⟨ro, a.of (hk rb hRl)⟩, (hk qb hQl1).trans b, (hk fb hBl).trans c⟩)
    (fun pre e W hp hbad h hsz => by
      obtain ⟨⟨ro, a⟩, b, c⟩ := h
      obtain ⟨hx, hy, _⟩ := bad_ok hbad
      refine (see43Z Z n m rb fb (prs pre) ro e.1 e.2.1 e.2.2 hx hy hnm hn W a c).mono ?_
      rintro e2 w2 ⟨hv, hro, hC⟩
      refine ⟨hv, ⟨by rw [prs_app]; exact hro, b.on hC (by omega), (hC.block fb c.lt (by omega)).trans c⟩, hC⟩)
    ⟨⟨_, hR1⟩, hQ1, hbx1⟩)
  have HC1 : Hid (Ch (fun k => k = rb ∨ k = qb) w w1) := (Ch.of HB0.out).trans (hC1.mono (fun k _ h => Or.inl h))
  clear hG1 hF1 hO1 hC1 hbx1 hQ1 hFd1 hR1 HP HQ HF HSB HS HBX HB0 HU0 HW0
  go_wp2_with (fail)
  rw [← hfb]
  refine HO.out.mono ?_
  rintro e2 w2 ⟨E, rfl, hE, hC2, hJ⟩
  obtain ⟨Q, ro, hEQ, hR2, hQ2, hbx2⟩ : ∃ Q ro, (E = 0 → Q = prs L) ∧ Rz Z w2 rb n m Q ro ∧ Iq w2 qb n 0 (fe Bt Bf) (.slice (some ⟨sg, 0, none⟩) sn sc) none ∧ Boxed w2 fb 70 (.slice (some ⟨rb, 0, none⟩) n n) := by
    rcases hJ with ⟨h0, ⟨ro, a⟩, b, c⟩ | ⟨h0, pre, ⟨ro, a⟩, b, c⟩
    · exact ⟨_, ro, fun _ => rfl, a, b, c⟩
    · exact ⟨_, ro, fun h => absurd h h0, a, b, c⟩
  have hSB2 : Boxed w2 sb 23 (.slice (some ⟨sg, 0, none⟩) sn sc) := (hC2.block sb HSB1.out.lt (by omega)).trans HSB1.out
  have hS2 := HS1.out.on hC2 (by omega)
  have HR := hide (rule_any qb n 1 46 0 (fe Bt Bf) (.slice (some ⟨sg, 0, none⟩) sn sc) none #[.pointer (some ⟨sb, 0, none⟩), .pointer (some ⟨fb, 0, none⟩)] (fun v => S v 0 != ro v) (fun _ _ => False) (fun k => k = rb) (fun W => Rz Z W rb n m Q ro ∧ Boxed W fb 70 (.slice (some ⟨rb, 0, none⟩) n n) ∧ Boxed W sb 23 (.slice (some ⟨sg, 0, none⟩) sn sc) ∧ SR W sg sn S) (by omega) w2 enters46 hQ2 ⟨hR2, hbx2, hSB2, hS2⟩ (by omega)
    (fun W W' h hC => by
      obtain ⟨a, b, c, d⟩ := h
      exact ⟨a.of (hC.block rb a.lt (by omega)), (hC.block fb b.lt (by omega)).trans b, (hC.block sb c.lt (by omega)).trans c, d.on hC (by omega)⟩)
    (fun _ _ h => h)
    (fun v W hv h hI => by
      obtain ⟨a, b, c, d⟩ := h
      refine (rule46Z Z n m rb fb sb sg sn sc Q ro S v hv hs hnm hn W a b c d (by omega) (by omega) (by omega)).mono ?_
      rintro e3 w3 ⟨rfl, hR3, hC3⟩
      exact ⟨rfl, ⟨hR3, (hC3.block fb b.lt (by omega)).trans b, (hC3.block sb c.lt (by omega)).trans c, d.on hC3 (by omega)⟩, hC3⟩))
  have HFo : Hid (E = 0 → ∃ U ro', Fo n (prs L) U ro' ∧ ro' = ro) := fun h0 => by
    obtain ⟨U, a, b, c⟩ := hR2
    rw [hEQ h0] at b
    exact ⟨U, ro, b, rfl⟩
  have HC2 : Hid (Ch (fun k => k = rb ∨ k = qb) w w2) := HC1.out.trans (hC2.mono (fun k _ h => Or.inl h))
  have HE := hide hE
  clear hE hC2 hJ hR2 hQ2 hbx2 hSB2 hS2 HO HC1 HSB1 HS1 hEQ
  go_wp2_with (fail)
  rw [← hfb]
  refine HR.out.mono ?_
  rintro e3 w3 ⟨⟨v3, rfl⟩, o', hL, hI3, hJ3, hC3⟩
  have HEnd : Hid (Iq w3 qb n 0 (fe Bt Bf) (.slice (some ⟨sg, 0, none⟩) sn sc) o' ∧ RLZ Z n m rb L f S E o' w3 ∧ Ch (fun k => k = rb ∨ k = qb) w w3) := ⟨hI3, ⟨HE.out, fun h0 => by
    obtain ⟨U, ro', a, b⟩ := HFo.out h0
    subst b
    exact ⟨U, ro', a, hL.ext (fun v r => by simp)⟩, Q, ro, hJ3.1⟩, HC2.out.trans hC3⟩
  clear hL hI3 hJ3 hC3 HR HFo HC2 HE
  go_wp2
  all_goals go_ret
  all_goals exact ⟨E, o', rfl, HEnd.out⟩
theorem judge40Z (Z : Nat → Int) (n rl rb sb sg sn sc Bt Bf g : Nat) (made : Int) (L : List T3) (f : Int) (S : Nat → Nat → Int) (U0 : Nat → Int) (hn : n < 4294967296) (hsn : sn ≤ 140737488351232) (hr : rl ≤ 5000) (hlen : L.length ≤ 140737488351232) (w : World)
    (hG : GU w rb rl U0) (hU0 : ∀ x, n ≤ x → x < rl → U0 x = Z x) (hF : Fd w g Bt Bf L f) (hsb : Boxed w sb 23 (.slice (some ⟨sg, 0, none⟩) sn sc)) (hS : SR w sg sn S)
    (r1 : rb ≠ g) (r2 : rb ≠ Bt) (r3 : rb ≠ Bf) (r4 : rb ≠ sb) (r5 : rb ≠ sg) :
    Calls Try.prog 38 #[.agg #[.int .u32 (n : Int), .int .i64 0, fe Bt Bf, .slice (some ⟨sg, 0, none⟩) sn sc, .bool false, .int .u32 0, .int .i64 0], .int .i64 made, .slice (some ⟨rb, 0, none⟩) rl rl, .int .i64 1, .func (.func 40) #[] #[.pointer (some ⟨sb, 0, none⟩)]] w fun e w' =>
      ∃ E o, e = .returned (.tuple #[.agg (vx E o), .int .i64 E]) ∧ E = dk made n sn rl 1 0 L f ∧ (E = 0 → AL n L S o) ∧ SpZ Z w' rb n rl ∧ Ch (fun k => k = rb) w w' := by
  have hGl := hG.lt
  have hFl := hF.lt
  have hsl := hsb.lt
  have hSl := hS.lt
  by_cases hm : ak made n sn rl 1 = 0
  · obtain ⟨h1, h2, h3⟩ := ak_zero hm
    rw [Nat.one_mul] at h3
    have hB : Below w.heap.size w ((w.alloc (.cells (qc n 0 (fe Bt Bf) (.slice (some ⟨sg, 0, none⟩) sn sc) none) 66)).alloc (.cells z3 35)) := bA (b1 _ _ _) (by simp) _
    have hq : Iq ((w.alloc (.cells (qc n 0 (fe Bt Bf) (.slice (some ⟨sg, 0, none⟩) sn sc) none) 66)).alloc (.cells z3 35)) w.heap.size n 0 (fe Bt Bf) (.slice (some ⟨sg, 0, none⟩) sn sc) none := keep _ (at0 _ _)
    have hl := look40Z Z n rl rb sb sg sn sc w.heap.size Bt Bf g L f S U0 (by omega) h3 (by omega) hlen _ hq (hG.on hB) hU0 (hF.on (X := fun _ => False) (Ch.of hB) (fun h => h) (fun h => h) (fun h => h)) ((hB.block sb hsl).trans hsb) (hS.on (X := fun _ => False) (Ch.of hB) (fun h => h)) r1 r2 r3 r4 r5 (by omega) (by omega) (by omega) (by omega) (by omega) (by omega)
    have hj := judge_ok n 1 rl sn sc 40 rb Bt Bf made 0 (some ⟨sg, 0, none⟩) #[.pointer (some ⟨sb, 0, none⟩)] (fun k => k = rb ∨ k = w.heap.size) (RLZ Z n rl rb L f S) (by omega) hn hsn hr hm w enters40 (by omega)
      (fun E o W W' h hk => ⟨h.1, h.2.1, by obtain ⟨Q, ro, hh⟩ := h.2.2; exact ⟨Q, ro, hh.of (hk rb hGl)⟩⟩) (by rw [Nat.one_mul]; exact hl)
    refine hj.mono ?_
    rintro e w' ⟨E, o, rfl, ⟨a, b, Q, ro, U, c, d, e⟩, hC⟩
    refine ⟨E, o, rfl, by rw [dk_eq hm]; exact a, b, ⟨U, c, e⟩, hC.mono (fun k hk h => by rcases h with h | h; exact h; omega)⟩
  · refine (judge_bad n 1 rl sn sc 40 rb Bt Bf made 0 (some ⟨sg, 0, none⟩) #[.pointer (some ⟨sb, 0, none⟩)] (by omega) hn hsn hr hm w).mono ?_
    rintro e w' ⟨rfl, hB⟩
    refine ⟨_, none, by unfold vx; rw [if_neg hm], (dk_ne hm).symm, fun h => absurd h hm, ⟨U0, hG.on hB, hU0⟩, Ch.of hB⟩
set_option maxHeartbeats 4000000 in
theorem labels_anyZ (Z : Nat → Int) (n rl rb sg sn sc Bt Bf g : Nat) (L : List T3) (f : Int) (S : Nat → Nat → Int) (U0 : Nat → Int) (hn : n < 4294967296) (hsn : sn ≤ 140737488351232) (hr : rl ≤ 5000) (hlen : L.length ≤ 140737488351232) (w : World)
    (hG : GU w rb rl U0) (hU0 : ∀ x, n ≤ x → x < rl → U0 x = Z x) (hF : Fd w g Bt Bf L f) (hS : SR w sg sn S)
    (r1 : rb ≠ g) (r2 : rb ≠ Bt) (r3 : rb ≠ Bf) (r5 : rb ≠ sg) :
    Calls Try.prog 11 #[.int .u32 (n : Int), fe Bt Bf, .slice (some ⟨sg, 0, none⟩) sn sc, .slice (some ⟨rb, 0, none⟩) rl rl] w fun e w' =>
      ∃ E o, e = .returned (.tuple #[.agg (vx E o), .int .i64 E]) ∧ E = dk (sz n) n sn rl 1 0 L f ∧ (E = 0 → AL n L S o) ∧ SpZ Z w' rb n rl ∧ Ch (fun k => k = rb) w w' := by
  have hGl := hG.lt
  obtain ⟨wJ, hwJ⟩ : ∃ wJ, (((w.alloc (.cells #[.slice (some ⟨sg, 0, none⟩) sn sc] 23)).alloc (.cells z3 35)).alloc (.cells #[.int .u32 (n : Int), .int .i64 0, fe Bt Bf, .slice (some ⟨sg, 0, none⟩) sn sc, .bool false, .int .u32 0, .int .i64 0] 66)) = wJ := ⟨_, rfl⟩
  have hB : Below w.heap.size w wJ := by rw [← hwJ]; exact bA (bA (b1 _ _ _) (by simp) _) (by simp only [World.size_alloc]; omega) _
  have hsz : wJ.heap.size = w.heap.size + 3 := by rw [← hwJ]; simp
  have hsb : Boxed wJ w.heap.size 23 (.slice (some ⟨sg, 0, none⟩) sn sc) := by rw [← hwJ]; exact ((Boxed.new w _ _).alloc _).alloc _
  have hz : wJ.heap[w.heap.size + 1]? = some (.cells z3 35 (0, 0)) := by
    rw [← hwJ]
    refine keep _ ?_
    have := at0 (w.alloc (.cells #[.slice (some ⟨sg, 0, none⟩) sn sc] 23)) (.cells z3 35)
    simpa using this
  have HJ : Hid (Calls Try.prog 38 #[.agg #[.int .u32 (n : Int), .int .i64 0, fe Bt Bf, .slice (some ⟨sg, 0, none⟩) sn sc, .bool false, .int .u32 0, .int .i64 0], .int .i64 (sz n), .slice (some ⟨rb, 0, none⟩) rl rl, .int .i64 1, .func (.func 40) #[] #[.pointer (some ⟨w.heap.size, 0, none⟩)]] wJ.drew fun e w' =>
      ∃ E o, e = .returned (.tuple #[.agg (vx E o), .int .i64 E]) ∧ E = dk (sz n) n sn rl 1 0 L f ∧ (E = 0 → AL n L S o) ∧ SpZ Z w' rb n rl ∧ Ch (fun k => k = rb) wJ.drew w') :=
    judge40Z Z n rl rb w.heap.size sg sn sc Bt Bf g (sz n) L f S U0 hn hsn hr hlen wJ.drew ((hG.on hB).of rfl) hU0 ((hF.on (X := fun _ => False) (Ch.of hB) (fun h => h) (fun h => h) (fun h => h)).of rfl rfl rfl) hsb ((hS.on (X := fun _ => False) (Ch.of hB) (fun h => h)).of rfl) r1 r2 r3 (by omega) r5
  have hq : wJ.heap[w.heap.size + 1 + 1]? = some (.cells #[.int .u32 (n : Int), .int .i64 0, fe Bt Bf, .slice (some ⟨sg, 0, none⟩) sn sc, .bool false, .int .u32 0, .int .i64 0] 66 (0, 0)) := by
    rw [← hwJ]
    have := at0 ((w.alloc (.cells #[.slice (some ⟨sg, 0, none⟩) sn sc] 23)).alloc (.cells z3 35)) (.cells #[.int .u32 (n : Int), .int .i64 0, fe Bt Bf, .slice (some ⟨sg, 0, none⟩) sn sc, .bool false, .int .u32 0, .int .i64 0] 66)
    simpa using this
  have HS : Hid (S11 (w.heap.size + 1 + 1) n 0 (fe Bt Bf) (.slice (some ⟨sg, 0, none⟩) sn sc) wJ.drew) := S11.mk hq
  have HK : Hid (∀ w3, Ch (fun k => k = rb) wJ.drew w3 → S11 (w.heap.size + 1 + 1) n 0 (fe Bt Bf) (.slice (some ⟨sg, 0, none⟩) sn sc) w3) := fun w3 hC => S11.mk ((hC.block (w.heap.size + 1 + 1) (by show _ < wJ.heap.size; omega) (by omega)).trans hq)
  have HK2 : Hid (∀ w3, Ch (fun k => k = rb) wJ.drew w3 → ∀ a b c, S11 (w.heap.size + 1 + 1) n 0 (fe Bt Bf) (.slice (some ⟨sg, 0, none⟩) sn sc) (((w3.setCell ⟨w.heap.size + 1, 0, none⟩ a).setCell ⟨w.heap.size + 1, 1, none⟩ b).setCell ⟨w.heap.size + 1, 2, none⟩ c)) := fun w3 hC a b c => S11.mk ((Below.heap_setCell _ _ _ _ (by simp)).trans ((Below.heap_setCell _ _ _ _ (by simp)).trans ((Below.heap_setCell _ _ _ _ (by simp)).trans ((hC.block (w.heap.size + 1 + 1) (by show _ < wJ.heap.size; omega) (by omega)).trans hq))))
  have HFin : Hid (∀ E o w3, Ch (fun k => k = rb) wJ.drew w3 → E = dk (sz n) n sn rl 1 0 L f ∧ (E = 0 → AL n L S o) ∧ SpZ Z w3 rb n rl → ∀ a b c, (((w3.setCell ⟨w.heap.size + 1, 0, none⟩ a).setCell ⟨w.heap.size + 1, 1, none⟩ b).setCell ⟨w.heap.size + 1, 2, none⟩ c).heap[w.heap.size + 1]? = some (.cells #[a, b, c] 35 (0, 0)) ∧ E = dk (sz n) n sn rl 1 0 L f ∧ (E = 0 → AL n L S o) ∧ SpZ Z (((w3.setCell ⟨w.heap.size + 1, 0, none⟩ a).setCell ⟨w.heap.size + 1, 1, none⟩ b).setCell ⟨w.heap.size + 1, 2, none⟩ c) rb n rl ∧ Ch (fun k => k = rb) w (((w3.setCell ⟨w.heap.size + 1, 0, none⟩ a).setCell ⟨w.heap.size + 1, 1, none⟩ b).setCell ⟨w.heap.size + 1, 2, none⟩ c)) := fun E o w3 hC h a b c => by
    have hz3 : w3.heap[w.heap.size + 1]? = some (.cells z3 35 (0, 0)) := (hC.block (w.heap.size + 1) (by show _ < wJ.heap.size; omega) (by omega)).trans hz
    have hC1 : Ch (fun k => k = rb) w w3 := ((Ch.of hB).drew).trans hC
    rw [sets3 hz3 rfl]
    exact ⟨setRow_heap _ _ _ _ _ _ hz3, h.1, h.2.1, h.2.2.of (setRow_other _ _ _ _ (by omega)), hC1.row _ (Or.inr (by omega))⟩
  have HZ := hide (sized_any n)
  have HB := hide hB
  have Hz : Hid (∀ w3, Ch (fun k => k = rb) wJ.drew w3 → w3.heap[w.heap.size + 1]? = some (.cells z3 35 (0, 0))) := fun w3 hC => (hC.block (w.heap.size + 1) (by show _ < wJ.heap.size; omega) (by omega)).trans hz
  have HwJ := hide hwJ
  clear hG hU0 hF hS hB hz hsb hsz hwJ hq
  go_enter Try.func11, Try.ntmps11
  go_wp2_with (fail)
  rw [HwJ.out]
  go_region_held3 (S11 (w.heap.size + 1 + 1) n 0 (fe Bt Bf) (.slice (some ⟨sg, 0, none⟩) sn sc)) ((first | with_reducible exact HS.out | with_reducible exact HK.out _ HC3.out | with_reducible exact HK2.out _ HC3.out _ _ _)) ((first | (go_at_call 39; refine (HZ.out _).mono ?_; rintro e1 w1 ⟨rfl, rfl⟩) | (go_at_call 38; refine HJ.out.mono ?_; rintro e3 w3 ⟨E, o, rfl, h1, h2, h3, hC3⟩; obtain ⟨b0, x0, y0, hv, _, _⟩ := vx_shape E o; have HV := hide hv; rw [hv]; clear hv; have hz3 := Hz.out _ hC3; have f0 : w3.frozen? ⟨w.heap.size + 1, 0, none⟩ = false := frozen_of_row _ _ _ _ _ hz3; have f1 : w3.frozen? ⟨w.heap.size + 1, 1, none⟩ = false := frozen_of_row _ _ _ _ _ hz3; have f2 : w3.frozen? ⟨w.heap.size + 1, 2, none⟩ = false := frozen_of_row _ _ _ _ _ hz3; have g0 : w3.cell? ⟨w.heap.size + 1, 0, none⟩ = some (.bool false) := (cell_of_row _ _ _ _ _ _ hz3).trans rfl; have g1 : w3.cell? ⟨w.heap.size + 1, 1, none⟩ = some (.int .u32 0) := (cell_of_row _ _ _ _ _ _ hz3).trans rfl; have g2 : w3.cell? ⟨w.heap.size + 1, 2, none⟩ = some (.int .i64 0) := (cell_of_row _ _ _ _ _ _ hz3).trans rfl; have HC3 := hide hC3; have Hz3 := hide hz3; have HH := hide (And.intro h1 (And.intro h2 h3)); clear hC3 hz3 h1 h2 h3)))
  all_goals have HE := hide (HFin.out E o w3 HC3.out HH.out (.bool b0) (.int .u32 x0) (.int .i64 y0))
  all_goals clear HFin HH HC3 Hz3 HK HK2 HS HJ HZ HB Hz HwJ
  all_goals go_wp2
  all_goals (refine bodyPost_ret (v := .tuple #[.agg #[.bool b0, .int .u32 x0, .int .i64 y0], .int .i64 E]) ?_ rfl ?_)
  all_goals first | exact res11 _ _ _ _ _ _ rfl rfl HE.out.1 | exact ⟨E, o, by rw [HV.out], HE.out.2⟩
end Au
end Go.Proofs.Ytcepfmeoeepjdaa
