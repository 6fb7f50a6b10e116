import Derived.Test.YtiljdiagabepbaaDoorPqJ
namespace Go.Proofs.YtiljdiagabepbaaDoor
namespace Pq
open Go.RowKit Pb
set_option linter.unusedVariables false
/-- The rows that are spoilt, and the one that is kept. -/
structure M4 (W w : World) (g gp gn gd : Nat) (ops : Int) (ch : Value) (c : Nat) (D : DataW Unit) (m b1 cap1 b2 : Nat) (wv : Value) : Prop where
  fd : FD W w g gp gn gd ops ch c D
  rw' : w.ownsRow W.heap.size 9 1 wv m ((SS D).map Go.Proofs.encStr)
  ne : wv.ownBlock ≠ some b1
  h1 : ∃ cur, w.heap[b1]? = some (.cells cur 9 (0, 0)) ∧ cur.size = cap1
  h2 : ∃ cur, w.heap[b2]? = some (.cells cur 34 (0, 0)) ∧ cur.size = m * 8
  bb1 : W.heap.size ≤ b1
  bb2 : W.heap.size ≤ b2
  mc : m ≤ cap1
  cm : cap1 ≤ maxLen
theorem M3.done {W w : World} {g gp gn gd c m b1 cap1 b2 : Nat} {ops : Int} {ch wv : Value} {D : DataW Unit} (h : M3 W w g gp gn gd ops ch c D m b1 cap1 b2 m wv) (hm : (SS D).length = m) : M4 W w g gp gn gd ops ch c D m b1 cap1 b2 wv := by
  obtain ⟨cur1, a1, a2, a3, a4, a5⟩ := row_blk h.two.r1
  obtain ⟨cur2, d1, d2, d3, d4, d5⟩ := row_blk h.two.r2
  have e := h.rw'
  rw [List.take_of_length_le (by rw [hm]; exact Nat.le_refl _)] at e
  exact ⟨h.two.fd, e, h.ne, ⟨cur1, a1, by omega⟩, ⟨cur2, d1, d2⟩, a5, d5, a3, a4⟩
theorem cell_some {w : World} {b : Nat} {cur : Array Value} {t : TypeId} (h : w.heap[b]? = some (.cells cur t (0, 0))) (i : Nat) (hi : i < cur.size) : ∃ x, w.cell? ⟨b, i, none⟩ = some x ∧ w.frozen? ⟨b, i, none⟩ = false :=
  ⟨_, dcell h i cur[i] (Array.getElem?_eq_getElem hi)⟩
theorem M4.set {W w : World} {g gp gn gd c m b1 cap1 b2 : Nat} {ops : Int} {ch wv : Value} {D : DataW Unit} (h : M4 W w g gp gn gd ops ch c D m b1 cap1 b2 wv) (b i : Nat) (hb : b = b1 ∨ b = b2) (x : Value) : M4 W (w.setCell ⟨b, i, none⟩ x) g gp gn gd ops ch c D m b1 cap1 b2 wv := by
  obtain ⟨cur1, a1, a2⟩ := h.h1
  obtain ⟨cur2, d1, d2⟩ := h.h2
  have n12 : b1 ≠ b2 := cc_ne a1 d1 (by decide)
  have f : Frm w (w.setCell ⟨b, i, none⟩ x) (fun k => k = b) := Frm.setCell w ⟨b, i, none⟩ x
  refine ⟨h.fd.off f (fun k hk e => ?_), row_frm h.rw' f (fun k hk e => ?_), h.ne, ?_, ?_, h.bb1, h.bb2, h.mc, h.cm⟩
  · have e : k = b := e
    subst e
    rcases hb with rfl | rfl
    · exact ⟨h.bb1, cur1, 9, a1, by decide, by decide, by decide⟩
    · exact ⟨h.bb2, cur2, 34, d1, by decide, by decide, by decide⟩
  · have e : k = b := e
    subst e
    rcases hb with rfl | rfl
    · exact h.ne hk
    · exact row_ne h.rw' d1 (by decide) hk
  · rcases hb with rfl | rfl
    · exact ⟨_, sc a1 i x, by simpa using a2⟩
    · exact ⟨cur1, so a1 n12 i x, a2⟩
  · rcases hb with rfl | rfl
    · exact ⟨cur2, so d1 (Ne.symm n12) i x, d2⟩
    · exact ⟨_, sc d1 i x, by simpa using d2⟩
/-- The facts of a round that spoils. -/
theorem M4.at {W w : World} {g gp gn gd c m b1 cap1 b2 : Nat} {ops : Int} {ch wv : Value} {D : DataW Unit} (h : M4 W w g gp gn gd ops ch c D m b1 cap1 b2 wv) (i : Nat) (hi : i < m) : b1 ≠ b2 ∧ (∃ x, w.cell? ⟨b1, i, none⟩ = some x ∧ w.frozen? ⟨b1, i, none⟩ = false) ∧ (∃ x, w.cell? ⟨b2, i * 8, none⟩ = some x ∧ w.frozen? ⟨b2, i * 8, none⟩ = false) ∧ (∃ x, w.cell? ⟨b2, i * 8 + 1, none⟩ = some x ∧ w.frozen? ⟨b2, i * 8 + 1, none⟩ = false) := by
  obtain ⟨cur1, a1, a2⟩ := h.h1
  obtain ⟨cur2, d1, d2⟩ := h.h2
  have := h.mc
  exact ⟨cc_ne a1 d1 (by decide), cell_some a1 i (by omega), cell_some d1 _ (by omega), cell_some d1 _ (by omega)⟩
/-- Behind the append to what was spoilt. -/
structure M5 (W w : World) (g gp gn gd : Nat) (ops : Int) (ch : Value) (c : Nat) (D : DataW Unit) (m : Nat) (wv : Value) : Prop where
  fd : FD W w g gp gn gd ops ch c D
  rw' : w.ownsRow W.heap.size 9 1 wv m ((SS D).map Go.Proofs.encStr)
theorem M4.more {W w : World} {g gp gn gd c m b1 cap1 b2 : Nat} {ops : Int} {ch wv : Value} {D : DataW Unit} (h : M4 W w g gp gn gd ops ch c D m b1 cap1 b2 wv) (hm2 : m ≤ 101) (x y z : ByteArray) :
    ∃ p c2 w', Hid ((Builtin.append_ #[22, 22] 22 #[.slice (some ⟨b1, 0, none⟩) m cap1, .slice (some ⟨w.heap.size, 0, none⟩) 3 3]).run Tryd.prog (w.alloc (.cells #[.string x, .string y, .string z] 9)) = .ok (.slice p (m + 3) c2) w') ∧ M5 W w' g gp gn gd ops ch c D m wv := by
  obtain ⟨cur1, a1, a2⟩ := h.h1
  have hmc := h.mc
  have own1 : w.ownsRow W.heap.size 9 1 (.slice (some ⟨b1, 0, none⟩) m cap1) m (cur1.toList.take (m * 1)) := ⟨by simp; omega, .inr ⟨b1, cap1, cur1, rfl, h.bb1, a1, hmc, h.cm, by omega, rfl⟩⟩
  obtain ⟨p, l, c2, w', r1, rl, r2, r3, r4⟩ := app_str own1 (by omega) [.string x, .string y, .string z] (by simp) (by simp) (by simp [Value.oneCell']) h.fd.bel.size
  obtain rfl : l = m + 3 := by simpa using rl
  refine ⟨p, c2, w', r1, ⟨h.fd.off r3 (fun k hk e => ?_), row_frm h.rw' r3 (fun k hk e => ?_)⟩⟩
  · simp [Value.ownBlock] at e
    subst e
    exact ⟨h.bb1, cur1, 9, a1, by decide, by decide, by decide⟩
  · simp [Value.ownBlock] at e
    subst e
    exact h.ne hk
/-- At the end. -/
structure M6 (W w : World) (D : DataW Unit) (m b3 cap3 b4 : Nat) (wv : Value) : Prop where
  bel : Below W.heap.size W w
  rw' : w.ownsRow W.heap.size 9 1 wv m ((SS D).map Go.Proofs.encStr)
  r3 : w.ownsRow W.heap.size 9 1 (.slice (some ⟨b3, 0, none⟩) m cap3) m ((SS D).map Go.Proofs.encStr)
  r4 : w.ownsRow W.heap.size 34 8 (.slice (some ⟨b4, 0, none⟩) m m) m (vss (SS D))
theorem M6.drewN {W w : World} {D : DataW Unit} {m b3 cap3 b4 : Nat} {wv : Value} (h : M6 W w D m b3 cap3 b4 wv) (n : Nat) : M6 W (w.drewN n) D m b3 cap3 b4 wv := by
  have f := frm_drewN w n
  exact ⟨f.below h.bel h.bel.size (fun k e => e.elim), row_frm h.rw' f (fun _ _ e => e), row_frm h.r3 f (fun _ _ e => e), row_frm h.r4 f (fun _ _ e => e)⟩
theorem M6.cells {W w : World} {D : DataW Unit} {m b3 cap3 b4 wb wc : Nat} (h : M6 W w D m b3 cap3 b4 (.slice (some ⟨wb, 0, none⟩) m wc)) (hm : (SS D).length = m) (i : Nat) (hi : i < m) : w.cell? ⟨wb, i, none⟩ = some (.string (nm ((SS D)[i]'(by omega)))) ∧ w.cell? ⟨b3, i, none⟩ = some (.string (nm ((SS D)[i]'(by omega)))) ∧ w.cell? ⟨b4, i * 8, none⟩ = some (.string (nm ((SS D)[i]'(by omega)))) ∧ w.cell? ⟨b4, i * 8 + 1, none⟩ = some (.int .i64 0) := by
  refine ⟨?_, ?_, ?_, ?_⟩
  · rw [h.rw'.cellAt i (by omega), List.getElem?_map, List.getElem?_eq_getElem (by omega)]
    rfl
  · rw [h.r3.cellAt i (by omega), List.getElem?_map, List.getElem?_eq_getElem (by omega)]
    rfl
  · rw [h.r4.cellAt (i * 8) (by omega), vss_get0 _ _ (by omega)]
  · rw [h.r4.cellAt (i * 8 + 1) (by omega), vss_get1 _ _ (by omega)]
/-- The second List. -/
theorem M5.list {W w : World} {g gp gn gd c m : Nat} {ops : Int} {ch wv : Value} {D : DataW Unit} (h : M5 W w g gp gn gd ops ch c D m wv) (hc : c ≤ 1000) (o0 : 0 ≤ ops) (o1 : ops < 4611686018427387904) (hm : (SS D).length = m) (hm1 : 1 ≤ m) :
    Calls Tryd.prog 9 #[.pointer (some ⟨g, 0, none⟩)] w fun e w' => ∃ b3 cap3, e = .returned (.tuple #[.slice (some ⟨b3, 0, none⟩) m cap3, .int .i64 0]) ∧ M5 W w' g gp gn gd (ops + 1) ch c D m wv ∧ w'.ownsRow W.heap.size 9 1 (.slice (some ⟨b3, 0, none⟩) m cap3) m ((SS D).map Go.Proofs.encStr) := by
  refine (h.fd.list hc o0 o1 hm hm1).mono ?_
  rintro e w' ⟨b3, cap3, rfl, q⟩
  exact ⟨b3, cap3, rfl, ⟨q.fd, row_frm h.rw' q.fr (fun k hk e => row_ne h.rw' h.fd.hg (by decide) (e ▸ hk))⟩, q.r1⟩
/-- The second Stats. -/
theorem M5.stats {W w : World} {g gp gn gd c m b3 cap3 : Nat} {ops : Int} {ch wv : Value} {D : DataW Unit} (h : M5 W w g gp gn gd ops ch c D m wv) (r3 : w.ownsRow W.heap.size 9 1 (.slice (some ⟨b3, 0, none⟩) m cap3) m ((SS D).map Go.Proofs.encStr)) (hc : c ≤ 1000) (hm : (SS D).length = m) (hm1 : 1 ≤ m) :
    Calls Tryd.prog 10 #[.pointer (some ⟨g, 0, none⟩)] w fun e w' => ∃ b4, e = .returned (.slice (some ⟨b4, 0, none⟩) m m) ∧ M6 W w' D m b3 cap3 b4 wv := by
  refine (h.fd.stats hc hm hm1).mono ?_
  rintro e w' ⟨b4, rfl, q1, q2, q3, q4⟩
  exact ⟨b4, rfl, ⟨q1.bel, row_frm h.rw' q4 (fun _ _ e => e), row_frm r3 q4 (fun _ _ e => e), q2⟩⟩
end Pq
end Go.Proofs.YtiljdiagabepbaaDoor
