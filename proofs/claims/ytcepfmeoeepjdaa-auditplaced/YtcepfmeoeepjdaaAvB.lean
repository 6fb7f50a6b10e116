import Derived.Test.YtcepfmeoeepjdaaAvA
namespace Go.Proofs.Ytcepfmeoeepjdaa
namespace Au
open Go.RowKit
set_option linter.unusedVariables false
set_option maxRecDepth 8000
theorem sz_pos {n : Nat} (h : sz n = 0) : 0 < n := by unfold sz at h; split at h <;> omega
theorem judge55 (n rl rb nb sb sg sn sc Bt Bf g : Nat) (L : List T3) (f : Int) (S : Nat → Nat → Int) (U0 : Nat → Int) (hn : n < 4294967296) (hsn : sn ≤ 140737488351232) (hr : rl ≤ 5000) (hlen : L.length ≤ 140737488351232) (w : World)
    (hG : GU w rb rl U0) (hU0 : ∀ x, 2 * n ≤ x → x < rl → U0 x = 99) (hF : Fd w g Bt Bf L f) (hsb : Boxed w sb 23 (.slice (some ⟨sg, 0, none⟩) sn sc)) (hnb : Boxed w nb 22 (.int .u32 (n : Int))) (hS : SR w sg sn S)
    (r1 : rb ≠ g) (r2 : rb ≠ Bt) (r3 : rb ≠ Bf) (r4 : rb ≠ sb) (r5 : rb ≠ sg) :
    Calls Try.prog 38 #[.agg #[.int .u32 (n : Int), .int .i64 0, fe Bt Bf, .slice (some ⟨sg, 0, none⟩) sn sc, .bool false, .int .u32 0, .int .i64 0], .int .i64 (sz n), .slice (some ⟨rb, 0, none⟩) rl rl, .int .i64 2, .func (.func 55) #[] #[.pointer (some ⟨nb, 0, none⟩), .pointer (some ⟨sb, 0, none⟩)]] w fun e w' =>
      ∃ E o, e = .returned (.tuple #[.agg (vx E o), .int .i64 E]) ∧ E = dk (sz n) n sn rl 2 0 L f ∧ (E = 0 → AC n L S o) ∧ Sp w' rb (2 * n) rl ∧ Ch (fun k => k = rb) w w' := by
  have hGl := hG.lt
  have hFl := hF.lt
  have hsl := hsb.lt
  have hnl := hnb.lt
  have hSl := hS.lt
  by_cases hm : ak (sz n) n sn rl 2 = 0
  · obtain ⟨h1, h2, h3⟩ := ak_zero hm
    have hn0 := sz_pos h1
    have hB : Below w.heap.size w ((w.alloc (.cells (qc n 0 (fe Bt Bf) (.slice (some ⟨sg, 0, none⟩) sn sc) none) 66)).alloc (.cells z3 35)) := bA (b1 _ _ _) (by simp) _
    have hq : Iq ((w.alloc (.cells (qc n 0 (fe Bt Bf) (.slice (some ⟨sg, 0, none⟩) sn sc) none) 66)).alloc (.cells z3 35)) w.heap.size n 0 (fe Bt Bf) (.slice (some ⟨sg, 0, none⟩) sn sc) none := keep _ (at0 _ _)
    have hPr : Pr w rb n rl U0 (fun v => U0 (n + v)) := ⟨U0, hG, fun _ _ => rfl, fun _ _ => rfl, hU0⟩
    have hl := look55 n rl rb sb nb sg sn sc w.heap.size Bt Bf g L f S U0 (fun v => U0 (n + v)) (by omega) h3 hn0 (by omega) hlen _ hq (hPr.of (hB.block _ hGl)) (hF.on (X := fun _ => False) (Ch.of hB) (fun h => h) (fun h => h) (fun h => h)) ((hB.block sb hsl).trans hsb) ((hB.block nb hnl).trans hnb) (hS.on (X := fun _ => False) (Ch.of hB) (fun h => h)) r1 r2 r3 r4 r5 (by omega) (by omega) (by omega)
    have hj := judge_ok n 2 rl sn sc 55 rb Bt Bf (sz n) 0 (some ⟨sg, 0, none⟩) #[.pointer (some ⟨nb, 0, none⟩), .pointer (some ⟨sb, 0, none⟩)] (fun k => k = rb ∨ k = w.heap.size) (RC n rl rb L f S) (by omega) hn hsn hr hm w enters55 (by omega)
      (fun E o W W' h hk => ⟨h.1, h.2.1, by obtain ⟨D, C, hh⟩ := h.2.2; exact ⟨D, C, hh.of (hk rb hGl)⟩⟩) hl
    refine hj.mono ?_
    rintro e w' ⟨E, o, rfl, ⟨a, b, D, C, U, c, d, d', e⟩, hC⟩
    refine ⟨E, o, rfl, by rw [dk_eq hm]; exact a, b, ⟨U, c, e⟩, hC.mono (fun k hk h => by rcases h with h | h; exact h; omega)⟩
  · refine (judge_bad n 2 rl sn sc 55 rb Bt Bf (sz n) 0 (some ⟨sg, 0, none⟩) #[.pointer (some ⟨nb, 0, none⟩), .pointer (some ⟨sb, 0, none⟩)] (by omega) hn hsn hr hm w).mono ?_
    rintro e w' ⟨rfl, hB⟩
    refine ⟨_, none, by unfold vx; rw [if_neg hm], (dk_ne hm).symm, fun h => absurd h hm, ⟨U0, hG.on hB, hU0⟩, Ch.of hB⟩
theorem res21 (T : Array Value) (b : Nat) (a c d : Value) (W : World) (h10 : T[8]? = some (.pointer (some ⟨b, 0, none⟩))) {E : Int} (h11 : T[9]? = some (.int .i64 E)) (h : W.heap[b]? = some (.cells #[a, c, d] 35 (0, 0))) :
    (results Try.f21 T).run Try.prog W = .ok (.tuple #[.agg #[a, c, d], .int .i64 E]) W := by
  have h0 : W.cell? ⟨b, 0, none⟩ = some a := (cell_of_row _ _ _ _ _ _ h).trans rfl
  have h1 : W.cell? ⟨b, 1, none⟩ = some c := (cell_of_row _ _ _ _ _ _ h).trans rfl
  have h2 : W.cell? ⟨b, 2, none⟩ = some d := (cell_of_row _ _ _ _ _ _ h).trans rfl
  simp [results, Try.f21, go_sem, h10, h11, h0, h1, h2]
abbrev S21 (b nb n : Nat) (kd : Int) (ed sl : Value) (w : World) : Prop := w.cell? ⟨b, 0, none⟩ = some (.int .u32 (n : Int)) ∧ w.cell? ⟨b, 1, none⟩ = some (.int .i64 kd) ∧ w.cell? ⟨b, 2, none⟩ = some ed ∧ w.cell? ⟨b, 3, none⟩ = some sl ∧ w.cell? ⟨b, 4, none⟩ = some (.bool false) ∧ w.cell? ⟨b, 5, none⟩ = some (.int .u32 0) ∧ w.cell? ⟨b, 6, none⟩ = some (.int .i64 0) ∧ w.cell? ⟨nb, 0, none⟩ = some (.int .u32 (n : Int))
theorem S21.mk {b nb n : Nat} {kd : Int} {ed sl : Value} {w : World} (h : w.heap[b]? = some (.cells #[.int .u32 (n : Int), .int .i64 kd, ed, sl, .bool false, .int .u32 0, .int .i64 0] 66 (0, 0))) (hn : Boxed w nb 22 (.int .u32 (n : Int))) : S21 b nb n kd ed sl w := by
  obtain ⟨a, b, c, d, e, f, g⟩ := S11.mk h
  exact ⟨a, b, c, d, e, f, g, hn.cell⟩
set_option maxHeartbeats 4000000 in
theorem cores_any (n rl rb sg sn sc Bt Bf g : Nat) (L : List T3) (f : Int) (S : Nat → Nat → Int) (U0 : Nat → Int) (hn : n < 4294967296) (hsn : sn ≤ 140737488351232) (hr : rl ≤ 5000) (hlen : L.length ≤ 140737488351232) (w : World)
    (hG : GU w rb rl U0) (hU0 : ∀ x, 2 * n ≤ x → x < rl → U0 x = 99) (hF : Fd w g Bt Bf L f) (hS : SR w sg sn S)
    (r1 : rb ≠ g) (r2 : rb ≠ Bt) (r3 : rb ≠ Bf) (r5 : rb ≠ sg) :
    Calls Try.prog 21 #[.int .u32 (n : Int), fe Bt Bf, .slice (some ⟨sg, 0, none⟩) sn sc, .slice (some ⟨rb, 0, none⟩) rl rl] w fun e w' =>
      ∃ E o, e = .returned (.tuple #[.agg (vx E o), .int .i64 E]) ∧ E = dk (sz n) n sn rl 2 0 L f ∧ (E = 0 → AC n L S o) ∧ Sp w' rb (2 * n) rl ∧ Ch (fun k => k = rb) w w' := by
  have hGl := hG.lt
  obtain ⟨wJ, hwJ⟩ : ∃ wJ, ((((w.alloc (.cells #[.int .u32 (n : Int)] 22)).alloc (.cells #[.slice (some ⟨sg, 0, none⟩) sn sc] 23)).alloc (.cells z3 35)).alloc (.cells #[.int .u32 (n : Int), .int .i64 0, fe Bt Bf, .slice (some ⟨sg, 0, none⟩) sn sc, .bool false, .int .u32 0, .int .i64 0] 66)) = wJ := ⟨_, rfl⟩
  have hB : Below w.heap.size w wJ := by rw [← hwJ]; exact bA2 (bA2 (bA2 (b1 _ _ _) _) _) _
  have hsz : wJ.heap.size = w.heap.size + 4 := by rw [← hwJ]; simp
  have hnb : Boxed wJ w.heap.size 22 (.int .u32 (n : Int)) := by rw [← hwJ]; exact (((Boxed.new w _ _).alloc _).alloc _).alloc _
  have hsb : Boxed wJ (w.heap.size + 1) 23 (.slice (some ⟨sg, 0, none⟩) sn sc) := by
    rw [← hwJ]
    have h := ((Boxed.new (w.alloc (.cells #[.int .u32 (n : Int)] 22)) 23 (.slice (some ⟨sg, 0, none⟩) sn sc)).alloc (.cells z3 35)).alloc (.cells #[.int .u32 (n : Int), .int .i64 0, fe Bt Bf, .slice (some ⟨sg, 0, none⟩) sn sc, .bool false, .int .u32 0, .int .i64 0] 66)
    rw [World.size_alloc] at h
    exact h
  have hz : wJ.heap[w.heap.size + 1 + 1]? = some (.cells z3 35 (0, 0)) := by
    rw [← hwJ]
    refine keep _ ?_
    have := at0 ((w.alloc (.cells #[.int .u32 (n : Int)] 22)).alloc (.cells #[.slice (some ⟨sg, 0, none⟩) sn sc] 23)) (.cells z3 35)
    rw [World.size_alloc, World.size_alloc] at this
    exact this
  have HJ : Hid (Calls Try.prog 38 #[.agg #[.int .u32 (n : Int), .int .i64 0, fe Bt Bf, .slice (some ⟨sg, 0, none⟩) sn sc, .bool false, .int .u32 0, .int .i64 0], .int .i64 (sz n), .slice (some ⟨rb, 0, none⟩) rl rl, .int .i64 2, .func (.func 55) #[] #[.pointer (some ⟨w.heap.size, 0, none⟩), .pointer (some ⟨w.heap.size + 1, 0, none⟩)]] wJ.drew fun e w' =>
      ∃ E o, e = .returned (.tuple #[.agg (vx E o), .int .i64 E]) ∧ E = dk (sz n) n sn rl 2 0 L f ∧ (E = 0 → AC n L S o) ∧ Sp w' rb (2 * n) rl ∧ Ch (fun k => k = rb) wJ.drew w') :=
    judge55 n rl rb w.heap.size (w.heap.size + 1) sg sn sc Bt Bf g L f S U0 hn hsn hr hlen wJ.drew ((hG.on hB).of rfl) hU0 ((hF.on (X := fun _ => False) (Ch.of hB) (fun h => h) (fun h => h) (fun h => h)).of rfl rfl rfl) hsb hnb ((hS.on (X := fun _ => False) (Ch.of hB) (fun h => h)).of rfl) r1 r2 r3 (by omega) r5
  have hq : wJ.heap[w.heap.size + 1 + 1 + 1]? = some (.cells #[.int .u32 (n : Int), .int .i64 0, fe Bt Bf, .slice (some ⟨sg, 0, none⟩) sn sc, .bool false, .int .u32 0, .int .i64 0] 66 (0, 0)) := by
    rw [← hwJ]
    have := at0 (((w.alloc (.cells #[.int .u32 (n : Int)] 22)).alloc (.cells #[.slice (some ⟨sg, 0, none⟩) sn sc] 23)).alloc (.cells z3 35)) (.cells #[.int .u32 (n : Int), .int .i64 0, fe Bt Bf, .slice (some ⟨sg, 0, none⟩) sn sc, .bool false, .int .u32 0, .int .i64 0] 66)
    rw [World.size_alloc, World.size_alloc, World.size_alloc] at this
    exact this
  have HS : Hid (S21 (w.heap.size + 1 + 1 + 1) w.heap.size n 0 (fe Bt Bf) (.slice (some ⟨sg, 0, none⟩) sn sc) wJ.drew) := S21.mk hq hnb
  have HK : Hid (∀ w3, Ch (fun k => k = rb) wJ.drew w3 → S21 (w.heap.size + 1 + 1 + 1) w.heap.size n 0 (fe Bt Bf) (.slice (some ⟨sg, 0, none⟩) sn sc) w3) := fun w3 hC => S21.mk ((hC.block (w.heap.size + 1 + 1 + 1) (by show _ < wJ.heap.size; omega) (by omega)).trans hq) ((hC.block w.heap.size (by show _ < wJ.heap.size; omega) (by omega)).trans hnb)
  have HK2 : Hid (∀ w3, Ch (fun k => k = rb) wJ.drew w3 → ∀ a b c, S21 (w.heap.size + 1 + 1 + 1) w.heap.size n 0 (fe Bt Bf) (.slice (some ⟨sg, 0, none⟩) sn sc) (((w3.setCell ⟨w.heap.size + 1 + 1, 0, none⟩ a).setCell ⟨w.heap.size + 1 + 1, 1, none⟩ b).setCell ⟨w.heap.size + 1 + 1, 2, none⟩ c)) := fun w3 hC a b c => S21.mk ((Below.heap_setCell _ _ _ _ (by simp)).trans ((Below.heap_setCell _ _ _ _ (by simp)).trans ((Below.heap_setCell _ _ _ _ (by simp)).trans ((hC.block (w.heap.size + 1 + 1 + 1) (by show _ < wJ.heap.size; omega) (by omega)).trans hq)))) ((Below.heap_setCell _ _ _ _ (by simp; omega)).trans ((Below.heap_setCell _ _ _ _ (by simp; omega)).trans ((Below.heap_setCell _ _ _ _ (by simp; omega)).trans ((hC.block w.heap.size (by show _ < wJ.heap.size; omega) (by omega)).trans hnb))))
  have HFin : Hid (∀ E o w3, Ch (fun k => k = rb) wJ.drew w3 → E = dk (sz n) n sn rl 2 0 L f ∧ (E = 0 → AC n L S o) ∧ Sp w3 rb (2 * n) rl → ∀ a b c, (((w3.setCell ⟨w.heap.size + 1 + 1, 0, none⟩ a).setCell ⟨w.heap.size + 1 + 1, 1, none⟩ b).setCell ⟨w.heap.size + 1 + 1, 2, none⟩ c).heap[w.heap.size + 1 + 1]? = some (.cells #[a, b, c] 35 (0, 0)) ∧ E = dk (sz n) n sn rl 2 0 L f ∧ (E = 0 → AC n L S o) ∧ Sp (((w3.setCell ⟨w.heap.size + 1 + 1, 0, none⟩ a).setCell ⟨w.heap.size + 1 + 1, 1, none⟩ b).setCell ⟨w.heap.size + 1 + 1, 2, none⟩ c) rb (2 * n) rl ∧ Ch (fun k => k = rb) w (((w3.setCell ⟨w.heap.size + 1 + 1, 0, none⟩ a).setCell ⟨w.heap.size + 1 + 1, 1, none⟩ b).setCell ⟨w.heap.size + 1 + 1, 2, none⟩ c)) := fun E o w3 hC h a b c => by
    have hz3 : w3.heap[w.heap.size + 1 + 1]? = some (.cells z3 35 (0, 0)) := (hC.block (w.heap.size + 1 + 1) (by show _ < wJ.heap.size; omega) (by omega)).trans hz
    have hC1 : Ch (fun k => k = rb) w w3 := ((Ch.of hB).drew).trans hC
    rw [sets3 hz3 rfl]
    exact ⟨setRow_heap _ _ _ _ _ _ hz3, h.1, h.2.1, h.2.2.of (setRow_other _ _ _ _ (by omega)), hC1.row _ (Or.inr (by omega))⟩
  have HZ := hide (sized_any n)
  have HB := hide hB
  have Hz : Hid (∀ w3, Ch (fun k => k = rb) wJ.drew w3 → w3.heap[w.heap.size + 1 + 1]? = some (.cells z3 35 (0, 0))) := fun w3 hC => (hC.block (w.heap.size + 1 + 1) (by show _ < wJ.heap.size; omega) (by omega)).trans hz
  have HwJ := hide hwJ
  clear hG hU0 hF hS hB hz hsb hnb hsz hwJ hq
  go_enter Try.func21, Try.ntmps21
  go_wp2_with (fail)
  rw [HwJ.out]
  go_region_held3 (S21 (w.heap.size + 1 + 1 + 1) w.heap.size n 0 (fe Bt Bf) (.slice (some ⟨sg, 0, none⟩) sn sc)) ((first | with_reducible exact HS.out | with_reducible exact HK.out _ HC3.out | with_reducible exact HK2.out _ HC3.out _ _ _)) ((first | (go_at_call 39; refine (HZ.out _).mono ?_; rintro e1 w1 ⟨rfl, rfl⟩) | (go_at_call 38; refine HJ.out.mono ?_; rintro e3 w3 ⟨E, o, rfl, h1, h2, h3, hC3⟩; obtain ⟨b0, x0, y0, hv, _, _⟩ := vx_shape E o; have HV := hide hv; rw [hv]; clear hv; have hz3 := Hz.out _ hC3; have f0 : w3.frozen? ⟨w.heap.size + 1 + 1, 0, none⟩ = false := frozen_of_row _ _ _ _ _ hz3; have f1 : w3.frozen? ⟨w.heap.size + 1 + 1, 1, none⟩ = false := frozen_of_row _ _ _ _ _ hz3; have f2 : w3.frozen? ⟨w.heap.size + 1 + 1, 2, none⟩ = false := frozen_of_row _ _ _ _ _ hz3; have g0 : w3.cell? ⟨w.heap.size + 1 + 1, 0, none⟩ = some (.bool false) := (cell_of_row _ _ _ _ _ _ hz3).trans rfl; have g1 : w3.cell? ⟨w.heap.size + 1 + 1, 1, none⟩ = some (.int .u32 0) := (cell_of_row _ _ _ _ _ _ hz3).trans rfl; have g2 : w3.cell? ⟨w.heap.size + 1 + 1, 2, none⟩ = some (.int .i64 0) := (cell_of_row _ _ _ _ _ _ hz3).trans rfl; have HC3 := hide hC3; have Hz3 := hide hz3; have HH := hide (And.intro h1 (And.intro h2 h3)); clear hC3 hz3 h1 h2 h3)))
  all_goals have HE := hide (HFin.out E o w3 HC3.out HH.out (.bool b0) (.int .u32 x0) (.int .i64 y0))
  all_goals clear HFin HH HC3 Hz3 HK HK2 HS HJ HZ HB Hz HwJ
  all_goals go_wp2
  all_goals (refine bodyPost_ret (v := .tuple #[.agg #[.bool b0, .int .u32 x0, .int .i64 y0], .int .i64 E]) ?_ rfl ?_)
  all_goals first | exact res21 _ _ _ _ _ _ rfl rfl HE.out.1 | exact ⟨E, o, by rw [HV.out], HE.out.2⟩
end Au
end Go.Proofs.Ytcepfmeoeepjdaa
