import Derived.Test.YtcepfmeoeepjdaaAuO
namespace Go.Proofs.Ytcepfmeoeepjdaa
namespace Au
open Go.RowKit
set_option linter.unusedVariables false
set_option maxRecDepth 8000
/-- Only of the room, behind what is asked for, is known that it is as it was. -/
def Sp (W : World) (rb need rl : Nat) : Prop := ∃ U, GU W rb rl U ∧ ∀ x, need ≤ x → x < rl → U x = 99
theorem Sp.of {W W' : World} {rb need rl : Nat} (h : Sp W rb need rl) (e : W'.heap[rb]? = W.heap[rb]?) : Sp W' rb need rl := by
  obtain ⟨U, a, b⟩ := h
  exact ⟨U, a.of e, b⟩
theorem Sp.lt {W : World} {rb need rl : Nat} (h : Sp W rb need rl) : rb < W.heap.size := by
  obtain ⟨U, a, b⟩ := h
  exact a.lt
theorem Sp.cell {W : World} {rb need rl : Nat} (h : Sp W rb need rl) (j : Nat) (h1 : need ≤ j) (h2 : j < rl) : W.cell? ⟨rb, j, none⟩ = some (.int .u64 99) := by
  obtain ⟨U, a, b⟩ := h
  rw [a.cell j h2, b j h1 h2]
theorem dk_ne {made : Int} {n sn rl p : Nat} {kd : Int} {L : List T3} {f : Int} (h : ak made n sn rl p ≠ 0) : dk made n sn rl p kd L f = ak made n sn rl p := by unfold dk; rw [if_pos h]
theorem dk_eq {made : Int} {n sn rl p : Nat} {kd : Int} {L : List T3} {f : Int} (h : ak made n sn rl p = 0) : dk made n sn rl p kd L f = fa n kd L f := by unfold dk; rw [if_neg (by simpa using h)]
theorem ak_zero {made : Int} {n sn rl p : Nat} (h : ak made n sn rl p = 0) : made = 0 ∧ sn = n ∧ p * n ≤ rl := by
  unfold ak at h
  split at h
  · exact absurd h (by assumption)
  · rename_i h1
    split at h
    · cases h
    · rename_i h2
      split at h
      · cases h
      · exact ⟨by simpa using h1, by simpa using h2, by omega⟩
/-- What is told of labels. -/
def AL (n : Nat) (L : List T3) (S : Nat → Nat → Int) (o : Vd) : Prop := ∃ U ro, Fo n (prs L) U ro ∧ Lm (fun a b => b = 1 ∧ a < n ∧ (S a 0 != ro a) = true) o
theorem judge40 (n rl rb sb sg sn sc Bt Bf g : Nat) (made : Int) (L : List T3) (f : Int) (S : Nat → Nat → Int) (U0 : Nat → Int) (hn : n < 4294967296) (hsn : sn ≤ 140737488351232) (hr : rl ≤ 5000) (hlen : L.length ≤ 140737488351232) (w : World)
    (hG : GU w rb rl U0) (hU0 : ∀ x, n ≤ x → x < rl → U0 x = 99) (hF : Fd w g Bt Bf L f) (hsb : Boxed w sb 23 (.slice (some ⟨sg, 0, none⟩) sn sc)) (hS : SR w sg sn S)
    (r1 : rb ≠ g) (r2 : rb ≠ Bt) (r3 : rb ≠ Bf) (r4 : rb ≠ sb) (r5 : rb ≠ sg) :
    Calls Try.prog 38 #[.agg #[.int .u32 (n : Int), .int .i64 0, fe Bt Bf, .slice (some ⟨sg, 0, none⟩) sn sc, .bool false, .int .u32 0, .int .i64 0], .int .i64 made, .slice (some ⟨rb, 0, none⟩) rl rl, .int .i64 1, .func (.func 40) #[] #[.pointer (some ⟨sb, 0, none⟩)]] w fun e w' =>
      ∃ E o, e = .returned (.tuple #[.agg (vx E o), .int .i64 E]) ∧ E = dk made n sn rl 1 0 L f ∧ (E = 0 → AL n L S o) ∧ Sp w' rb n rl ∧ Ch (fun k => k = rb) w w' := by
  have hGl := hG.lt
  have hFl := hF.lt
  have hsl := hsb.lt
  have hSl := hS.lt
  by_cases hm : ak made n sn rl 1 = 0
  · obtain ⟨h1, h2, h3⟩ := ak_zero hm
    rw [Nat.one_mul] at h3
    have hB : Below w.heap.size w ((w.alloc (.cells (qc n 0 (fe Bt Bf) (.slice (some ⟨sg, 0, none⟩) sn sc) none) 66)).alloc (.cells z3 35)) := bA (b1 _ _ _) (by simp) _
    have hq : Iq ((w.alloc (.cells (qc n 0 (fe Bt Bf) (.slice (some ⟨sg, 0, none⟩) sn sc) none) 66)).alloc (.cells z3 35)) w.heap.size n 0 (fe Bt Bf) (.slice (some ⟨sg, 0, none⟩) sn sc) none := keep _ (at0 _ _)
    have hl := look40 n rl rb sb sg sn sc w.heap.size Bt Bf g L f S U0 (by omega) h3 (by omega) hlen _ hq (hG.on hB) hU0 (hF.on (X := fun _ => False) (Ch.of hB) (fun h => h) (fun h => h) (fun h => h)) ((hB.block sb hsl).trans hsb) (hS.on (X := fun _ => False) (Ch.of hB) (fun h => h)) r1 r2 r3 r4 r5 (by omega) (by omega) (by omega) (by omega) (by omega) (by omega)
    have hj := judge_ok n 1 rl sn sc 40 rb Bt Bf made 0 (some ⟨sg, 0, none⟩) #[.pointer (some ⟨sb, 0, none⟩)] (fun k => k = rb ∨ k = w.heap.size) (RL n rl rb L f S) (by omega) hn hsn hr hm w enters40 (by omega)
      (fun E o W W' h hk => ⟨h.1, h.2.1, by obtain ⟨Q, ro, hh⟩ := h.2.2; exact ⟨Q, ro, hh.of (hk rb hGl)⟩⟩) (by rw [Nat.one_mul]; exact hl)
    refine hj.mono ?_
    rintro e w' ⟨E, o, rfl, ⟨a, b, Q, ro, U, c, d, e⟩, hC⟩
    refine ⟨E, o, rfl, by rw [dk_eq hm]; exact a, b, ⟨U, c, e⟩, hC.mono (fun k hk h => by rcases h with h | h; exact h; omega)⟩
  · refine (judge_bad n 1 rl sn sc 40 rb Bt Bf made 0 (some ⟨sg, 0, none⟩) #[.pointer (some ⟨sb, 0, none⟩)] (by omega) hn hsn hr hm w).mono ?_
    rintro e w' ⟨rfl, hB⟩
    refine ⟨_, none, by unfold vx; rw [if_neg hm], (dk_ne hm).symm, fun h => absurd h hm, ⟨U0, hG.on hB, hU0⟩, Ch.of hB⟩
theorem vx_shape (E : Int) (o : Vd) : ∃ b x y, vx E o = #[.bool b, .int .u32 x, .int .i64 y] ∧ (E = 0 → b = vR o ∧ x = vV o ∧ y = vK o) ∧ (E ≠ 0 → b = false ∧ x = 0 ∧ y = 0) := by
  unfold vx
  by_cases h : E = 0
  · rw [if_pos h]; exact ⟨_, _, _, rfl, fun _ => ⟨rfl, rfl, rfl⟩, fun h' => absurd h h'⟩
  · rw [if_neg h]; exact ⟨_, _, _, rfl, fun h' => absurd h' h, fun _ => ⟨rfl, rfl, rfl⟩⟩
theorem res11 (T : Array Value) (b : Nat) (a c d : Value) (W : World) (h10 : T[8]? = some (.pointer (some ⟨b, 0, none⟩))) {E : Int} (h11 : T[9]? = some (.int .i64 E)) (h : W.heap[b]? = some (.cells #[a, c, d] 35 (0, 0))) :
    (results Try.f11 T).run Try.prog W = .ok (.tuple #[.agg #[a, c, d], .int .i64 E]) W := by
  have h0 : W.cell? ⟨b, 0, none⟩ = some a := (cell_of_row _ _ _ _ _ _ h).trans rfl
  have h1 : W.cell? ⟨b, 1, none⟩ = some c := (cell_of_row _ _ _ _ _ _ h).trans rfl
  have h2 : W.cell? ⟨b, 2, none⟩ = some d := (cell_of_row _ _ _ _ _ _ h).trans rfl
  simp [results, Try.f11, go_sem, h10, h11, h0, h1, h2]
/-- What an audit hands back, and its frame. -/
def Au3 (e : Ending) (E : Int) (o : Vd) : Prop := e = .returned (.tuple #[.agg (vx E o), .int .i64 E])
abbrev S11 (b n : Nat) (kd : Int) (ed sl : Value) (w : World) : Prop := w.cell? ⟨b, 0, none⟩ = some (.int .u32 (n : Int)) ∧ w.cell? ⟨b, 1, none⟩ = some (.int .i64 kd) ∧ w.cell? ⟨b, 2, none⟩ = some ed ∧ w.cell? ⟨b, 3, none⟩ = some sl ∧ w.cell? ⟨b, 4, none⟩ = some (.bool false) ∧ w.cell? ⟨b, 5, none⟩ = some (.int .u32 0) ∧ w.cell? ⟨b, 6, none⟩ = some (.int .i64 0)
theorem S11.mk {b n : Nat} {kd : Int} {ed sl : Value} {w : World} (h : w.heap[b]? = some (.cells #[.int .u32 (n : Int), .int .i64 kd, ed, sl, .bool false, .int .u32 0, .int .i64 0] 66 (0, 0))) : S11 b n kd ed sl w :=
  ⟨(cell_of_row _ _ _ _ _ _ h).trans rfl, (cell_of_row _ _ _ _ _ _ h).trans rfl, (cell_of_row _ _ _ _ _ _ h).trans rfl, (cell_of_row _ _ _ _ _ _ h).trans rfl, (cell_of_row _ _ _ _ _ _ h).trans rfl, (cell_of_row _ _ _ _ _ _ h).trans rfl, (cell_of_row _ _ _ _ _ _ h).trans rfl⟩
set_option maxHeartbeats 4000000 in
theorem labels_any (n rl rb sg sn sc Bt Bf g : Nat) (L : List T3) (f : Int) (S : Nat → Nat → Int) (U0 : Nat → Int) (hn : n < 4294967296) (hsn : sn ≤ 140737488351232) (hr : rl ≤ 5000) (hlen : L.length ≤ 140737488351232) (w : World)
    (hG : GU w rb rl U0) (hU0 : ∀ x, n ≤ x → x < rl → U0 x = 99) (hF : Fd w g Bt Bf L f) (hS : SR w sg sn S)
    (r1 : rb ≠ g) (r2 : rb ≠ Bt) (r3 : rb ≠ Bf) (r5 : rb ≠ sg) :
    Calls Try.prog 11 #[.int .u32 (n : Int), fe Bt Bf, .slice (some ⟨sg, 0, none⟩) sn sc, .slice (some ⟨rb, 0, none⟩) rl rl] w fun e w' =>
      ∃ E o, e = .returned (.tuple #[.agg (vx E o), .int .i64 E]) ∧ E = dk (sz n) n sn rl 1 0 L f ∧ (E = 0 → AL n L S o) ∧ Sp w' rb n rl ∧ Ch (fun k => k = rb) w w' := by
  have hGl := hG.lt
  obtain ⟨wJ, hwJ⟩ : ∃ wJ, (((w.alloc (.cells #[.slice (some ⟨sg, 0, none⟩) sn sc] 23)).alloc (.cells z3 35)).alloc (.cells #[.int .u32 (n : Int), .int .i64 0, fe Bt Bf, .slice (some ⟨sg, 0, none⟩) sn sc, .bool false, .int .u32 0, .int .i64 0] 66)) = wJ := ⟨_, rfl⟩
  have hB : Below w.heap.size w wJ := by rw [← hwJ]; exact bA (bA (b1 _ _ _) (by simp) _) (by simp only [World.size_alloc]; omega) _
  have hsz : wJ.heap.size = w.heap.size + 3 := by rw [← hwJ]; simp
  have hsb : Boxed wJ w.heap.size 23 (.slice (some ⟨sg, 0, none⟩) sn sc) := by rw [← hwJ]; exact ((Boxed.new w _ _).alloc _).alloc _
  have hz : wJ.heap[w.heap.size + 1]? = some (.cells z3 35 (0, 0)) := by
    rw [← hwJ]
    refine keep _ ?_
    have := at0 (w.alloc (.cells #[.slice (some ⟨sg, 0, none⟩) sn sc] 23)) (.cells z3 35)
    simpa using this
  have HJ : Hid (Calls Try.prog 38 #[.agg #[.int .u32 (n : Int), .int .i64 0, fe Bt Bf, .slice (some ⟨sg, 0, none⟩) sn sc, .bool false, .int .u32 0, .int .i64 0], .int .i64 (sz n), .slice (some ⟨rb, 0, none⟩) rl rl, .int .i64 1, .func (.func 40) #[] #[.pointer (some ⟨w.heap.size, 0, none⟩)]] wJ.drew fun e w' =>
      ∃ E o, e = .returned (.tuple #[.agg (vx E o), .int .i64 E]) ∧ E = dk (sz n) n sn rl 1 0 L f ∧ (E = 0 → AL n L S o) ∧ Sp w' rb n rl ∧ Ch (fun k => k = rb) wJ.drew w') :=
    judge40 n rl rb w.heap.size sg sn sc Bt Bf g (sz n) L f S U0 hn hsn hr hlen wJ.drew ((hG.on hB).of rfl) hU0 ((hF.on (X := fun _ => False) (Ch.of hB) (fun h => h) (fun h => h) (fun h => h)).of rfl rfl rfl) hsb ((hS.on (X := fun _ => False) (Ch.of hB) (fun h => h)).of rfl) r1 r2 r3 (by omega) r5
  have hq : wJ.heap[w.heap.size + 1 + 1]? = some (.cells #[.int .u32 (n : Int), .int .i64 0, fe Bt Bf, .slice (some ⟨sg, 0, none⟩) sn sc, .bool false, .int .u32 0, .int .i64 0] 66 (0, 0)) := by
    rw [← hwJ]
    have := at0 ((w.alloc (.cells #[.slice (some ⟨sg, 0, none⟩) sn sc] 23)).alloc (.cells z3 35)) (.cells #[.int .u32 (n : Int), .int .i64 0, fe Bt Bf, .slice (some ⟨sg, 0, none⟩) sn sc, .bool false, .int .u32 0, .int .i64 0] 66)
    simpa using this
  have HS : Hid (S11 (w.heap.size + 1 + 1) n 0 (fe Bt Bf) (.slice (some ⟨sg, 0, none⟩) sn sc) wJ.drew) := S11.mk hq
  have HK : Hid (∀ w3, Ch (fun k => k = rb) wJ.drew w3 → S11 (w.heap.size + 1 + 1) n 0 (fe Bt Bf) (.slice (some ⟨sg, 0, none⟩) sn sc) w3) := fun w3 hC => S11.mk ((hC.block (w.heap.size + 1 + 1) (by show _ < wJ.heap.size; omega) (by omega)).trans hq)
  have HK2 : Hid (∀ w3, Ch (fun k => k = rb) wJ.drew w3 → ∀ a b c, S11 (w.heap.size + 1 + 1) n 0 (fe Bt Bf) (.slice (some ⟨sg, 0, none⟩) sn sc) (((w3.setCell ⟨w.heap.size + 1, 0, none⟩ a).setCell ⟨w.heap.size + 1, 1, none⟩ b).setCell ⟨w.heap.size + 1, 2, none⟩ c)) := fun w3 hC a b c => S11.mk ((Below.heap_setCell _ _ _ _ (by simp)).trans ((Below.heap_setCell _ _ _ _ (by simp)).trans ((Below.heap_setCell _ _ _ _ (by simp)).trans ((hC.block (w.heap.size + 1 + 1) (by show _ < wJ.heap.size; omega) (by omega)).trans hq))))
  have HFin : Hid (∀ E o w3, Ch (fun k => k = rb) wJ.drew w3 → E = dk (sz n) n sn rl 1 0 L f ∧ (E = 0 → AL n L S o) ∧ Sp w3 rb n rl → ∀ a b c, (((w3.setCell ⟨w.heap.size + 1, 0, none⟩ a).setCell ⟨w.heap.size + 1, 1, none⟩ b).setCell ⟨w.heap.size + 1, 2, none⟩ c).heap[w.heap.size + 1]? = some (.cells #[a, b, c] 35 (0, 0)) ∧ E = dk (sz n) n sn rl 1 0 L f ∧ (E = 0 → AL n L S o) ∧ Sp (((w3.setCell ⟨w.heap.size + 1, 0, none⟩ a).setCell ⟨w.heap.size + 1, 1, none⟩ b).setCell ⟨w.heap.size + 1, 2, none⟩ c) rb n rl ∧ Ch (fun k => k = rb) w (((w3.setCell ⟨w.heap.size + 1, 0, none⟩ a).setCell ⟨w.heap.size + 1, 1, none⟩ b).setCell ⟨w.heap.size + 1, 2, none⟩ c)) := fun E o w3 hC h a b c => by
    have hz3 : w3.heap[w.heap.size + 1]? = some (.cells z3 35 (0, 0)) := (hC.block (w.heap.size + 1) (by show _ < wJ.heap.size; omega) (by omega)).trans hz
    have hC1 : Ch (fun k => k = rb) w w3 := ((Ch.of hB).drew).trans hC
    rw [sets3 hz3 rfl]
    exact ⟨setRow_heap _ _ _ _ _ _ hz3, h.1, h.2.1, h.2.2.of (setRow_other _ _ _ _ (by omega)), hC1.row _ (Or.inr (by omega))⟩
  have HZ := hide (sized_any n)
  have HB := hide hB
  have Hz : Hid (∀ w3, Ch (fun k => k = rb) wJ.drew w3 → w3.heap[w.heap.size + 1]? = some (.cells z3 35 (0, 0))) := fun w3 hC => (hC.block (w.heap.size + 1) (by show _ < wJ.heap.size; omega) (by omega)).trans hz
  have HwJ := hide hwJ
  clear hG hU0 hF hS hB hz hsb hsz hwJ hq
  go_enter Try.func11, Try.ntmps11
  go_wp2_with (fail)
  rw [HwJ.out]
  go_region_held3 (S11 (w.heap.size + 1 + 1) n 0 (fe Bt Bf) (.slice (some ⟨sg, 0, none⟩) sn sc)) ((first | with_reducible exact HS.out | with_reducible exact HK.out _ HC3.out | with_reducible exact HK2.out _ HC3.out _ _ _)) ((first | (go_at_call 39; refine (HZ.out _).mono ?_; rintro e1 w1 ⟨rfl, rfl⟩) | (go_at_call 38; refine HJ.out.mono ?_; rintro e3 w3 ⟨E, o, rfl, h1, h2, h3, hC3⟩; obtain ⟨b0, x0, y0, hv, _, _⟩ := vx_shape E o; have HV := hide hv; rw [hv]; clear hv; have hz3 := Hz.out _ hC3; have f0 : w3.frozen? ⟨w.heap.size + 1, 0, none⟩ = false := frozen_of_row _ _ _ _ _ hz3; have f1 : w3.frozen? ⟨w.heap.size + 1, 1, none⟩ = false := frozen_of_row _ _ _ _ _ hz3; have f2 : w3.frozen? ⟨w.heap.size + 1, 2, none⟩ = false := frozen_of_row _ _ _ _ _ hz3; have g0 : w3.cell? ⟨w.heap.size + 1, 0, none⟩ = some (.bool false) := (cell_of_row _ _ _ _ _ _ hz3).trans rfl; have g1 : w3.cell? ⟨w.heap.size + 1, 1, none⟩ = some (.int .u32 0) := (cell_of_row _ _ _ _ _ _ hz3).trans rfl; have g2 : w3.cell? ⟨w.heap.size + 1, 2, none⟩ = some (.int .i64 0) := (cell_of_row _ _ _ _ _ _ hz3).trans rfl; have HC3 := hide hC3; have Hz3 := hide hz3; have HH := hide (And.intro h1 (And.intro h2 h3)); clear hC3 hz3 h1 h2 h3)))
  all_goals have HE := hide (HFin.out E o w3 HC3.out HH.out (.bool b0) (.int .u32 x0) (.int .i64 y0))
  all_goals clear HFin HH HC3 Hz3 HK HK2 HS HJ HZ HB Hz HwJ
  all_goals go_wp2
  all_goals (refine bodyPost_ret (v := .tuple #[.agg #[.bool b0, .int .u32 x0, .int .i64 y0], .int .i64 E]) ?_ rfl ?_)
  all_goals first | exact res11 _ _ _ _ _ _ rfl rfl HE.out.1 | exact ⟨E, o, by rw [HV.out], HE.out.2⟩
end Au
end Go.Proofs.Ytcepfmeoeepjdaa
