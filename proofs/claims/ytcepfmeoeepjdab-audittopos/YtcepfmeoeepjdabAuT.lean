import Derived.Test.YtcepfmeoeepjdabAuS
namespace Go.Proofs.Ytcepfmeoeepjdab
namespace Au
open Go.RowKit
set_option linter.unusedVariables false
set_option maxRecDepth 8000
theorem bA2 {w w' : World} (h : Below w.heap.size w w') (o : Obj) : Below w.heap.size w (w'.alloc o) := bA h h.size o
theorem Fd.al {w : World} {g Bt Bf : Nat} {L : List T3} {f : Int} (h : Fd w g Bt Bf L f) (o : Obj) : Fd (w.alloc o) g Bt Bf L f := h.of (Below.heap_alloc _ _ _ h.lt.1) (Below.heap_alloc _ _ _ h.lt.2.1) (Below.heap_alloc _ _ _ h.lt.2.2)
theorem z35 {vb : Nat} {w4 : World} (hz : w4.heap[vb]? = some (.cells #[.bool false, .int .u32 0, .int .i64 0] 35 (0, 0))) : w4.cell? ⟨vb, 0, none⟩ = some (.bool false) ∧ w4.cell? ⟨vb, 1, none⟩ = some (.int .u32 0) ∧ w4.cell? ⟨vb, 2, none⟩ = some (.int .i64 0) ∧ w4.frozen? ⟨vb, 0, none⟩ = false ∧ w4.frozen? ⟨vb, 1, none⟩ = false ∧ w4.frozen? ⟨vb, 2, none⟩ = false :=
  ⟨(cell_of_row _ _ _ _ _ _ hz).trans rfl, (cell_of_row _ _ _ _ _ _ hz).trans rfl, (cell_of_row _ _ _ _ _ _ hz).trans rfl, frozen_of_row _ _ _ _ _ hz, frozen_of_row _ _ _ _ _ hz, frozen_of_row _ _ _ _ _ hz⟩
abbrev Zc (w : World) (vb : Nat) : Prop := w.heap[vb]? = some (.cells #[.bool false, .int .u32 0, .int .i64 0] 35 (0, 0))
theorem z_a (w : World) (o : Obj) : Zc ((w.alloc (.cells #[.bool false, .int .u32 0, .int .i64 0] 35)).alloc o).drew w.heap.size := keep _ (at0 _ _)
theorem z_b (w : World) (o : Obj) : Zc ((w.alloc o).alloc (.cells #[.bool false, .int .u32 0, .int .i64 0] 35)).drew (w.heap.size + 1) := by
  have := at0 (w.alloc o) (.cells #[.bool false, .int .u32 0, .int .i64 0] 35)
  rw [World.size_alloc] at this
  exact this
theorem z_c (w : World) : Zc (w.alloc (.cells #[.bool false, .int .u32 0, .int .i64 0] 35)) w.heap.size := at0 _ _
theorem Zc.b {w w' : World} {vb : Nat} (h : Zc w vb) (hb : Below w.heap.size w w') : Zc w' vb := (hb.block _ (lt_of_some h)).trans h
theorem Zc.c {w w' : World} {vb rb : Nat} (h : Zc w vb) (hb : Ch (fun k => k = rb) w w') (hr : vb ≠ rb) : Zc w' vb := (hb.block _ (lt_of_some h) hr).trans h
theorem nevb {w : World} {vb b : Nat} {c : Cs} (h : Zc w vb) (hc : Cb w b c) : b ≠ vb := fun e => by
  subst e
  have h1 : w.heap[b]? = some (.cells (cb c) 30 (0, 0)) := hc
  rw [h] at h1
  simp at h1
theorem K14s {w : World} {b : Nat} {c : Cs} (h : Cb w b c) (vb : Nat) (hv : b ≠ vb) (x y z : Value) : K14 b c (((w.setCell ⟨vb, 0, none⟩ x).setCell ⟨vb, 1, none⟩ y).setCell ⟨vb, 2, none⟩ z) := (show Cb _ b c from (Below.heap_setCell _ _ _ _ hv).trans ((Below.heap_setCell _ _ _ _ hv).trans ((Below.heap_setCell _ _ _ _ hv).trans h))).k
theorem wp_cutF {P : Program} {c : Code} {Q : Exit → Act → World → Prop} {a : Act} {w : World} (T : Nat → World → Prop) (A1 : Nat → Value → Act)
    (h : c.wp P (fun e a' w' => match e with | .normal => ∃ vb fv, a' = A1 vb fv ∧ T vb w' | _ => False) a w) (hq : ∀ vb fv w', T vb w' → Q .normal (A1 vb fv) w') : c.wp P Q a w := by
  refine Code.wp_mono ?_ h
  intro e a' w' hh
  cases e with
  | normal => obtain ⟨vb, fv, rfl, ht⟩ := hh; exact hq vb fv w' ht
  | _ => exact hh.elim
theorem c35 {w : World} {vb : Nat} {p q r : Value} (h : w.heap[vb]? = some (.cells #[p, q, r] 35 (0, 0))) : w.cell? ⟨vb, 0, none⟩ = some p ∧ w.cell? ⟨vb, 1, none⟩ = some q ∧ w.cell? ⟨vb, 2, none⟩ = some r :=
  ⟨(cell_of_row _ _ _ _ _ _ h).trans rfl, (cell_of_row _ _ _ _ _ _ h).trans rfl, (cell_of_row _ _ _ _ _ _ h).trans rfl⟩
/-- What stands behind an audit's call. -/
def T5 (w : World) (c : Cs) (sg rb need : Nat) (S : Nat → Nat → Int) (P : Prop) (b : Bool) (x y : Int) (vb : Nat) (w' : World) : Prop := w'.heap[vb]? = some (.cells #[.bool b, .int .u32 x, .int .i64 y] 35 (0, 0)) ∧ P ∧ Sp w' rb need (rm c) ∧ Cb w' w.heap.size c ∧ SR w' sg (c.sn + 2) (mk c.sn c.sn S) ∧ Below w.heap.size w w'
theorem T5.new {w w4 : World} {c : Cs} {sg rb need : Nat} {S : Nat → Nat → Int} {P : Prop} {b : Bool} {x y : Int} (hP : P) (h1 : Sp w4 rb need (rm c)) (h2 : Cb w4 w.heap.size c) (h3 : SR w4 sg (c.sn + 2) (mk c.sn c.sn S)) (h4 : Below w.heap.size w w4) : T5 w c sg rb need S P b x y w4.heap.size (w4.alloc (.cells #[.bool b, .int .u32 x, .int .i64 y] 35)) :=
  ⟨at0 _ _, hP, h1.of (Below.heap_alloc _ _ _ h1.lt), keep _ h2, h3.of (Below.heap_alloc _ _ _ h3.lt), bA2 h4 _⟩
theorem T5.old {w w4 : World} {c : Cs} {sg rb need vb : Nat} {S : Nat → Nat → Int} {P : Prop} {b : Bool} {x y : Int} (hz : Zc w4 vb) (hv : w.heap.size ≤ vb) (hP : P) (h1 : Sp w4 rb need (rm c)) (h2 : Cb w4 w.heap.size c) (h3 : SR w4 sg (c.sn + 2) (mk c.sn c.sn S)) (h4 : Below w.heap.size w w4) : T5 w c sg rb need S P b x y vb (((w4.setCell ⟨vb, 0, none⟩ (.bool b)).setCell ⟨vb, 1, none⟩ (.int .u32 x)).setCell ⟨vb, 2, none⟩ (.int .i64 y)) := by
  rw [sets3 hz rfl]
  have n1 : rb ≠ vb := fun e => by
    subst e
    obtain ⟨U, ⟨C, g, _⟩, _⟩ := h1
    rw [hz] at g; simp at g
  have n2 : sg ≠ vb := fun e => by
    subst e
    obtain ⟨C, g, _⟩ := h3
    rw [hz] at g; simp at g
  have n3 := nevb hz h2
  exact ⟨setRow_heap _ _ _ _ _ _ hz, hP, h1.of (setRow_other _ _ _ _ n1), (setRow_other _ _ _ _ n3).trans h2, h3.of (setRow_other _ _ _ _ n2), below_setRow h4 hv _⟩
theorem ret_t {x : Bool} (h : x = true) : Ending.returned (.bool x) = .returned (.bool true) := by rw [h]
end Au
end Go.Proofs.Ytcepfmeoeepjdab
