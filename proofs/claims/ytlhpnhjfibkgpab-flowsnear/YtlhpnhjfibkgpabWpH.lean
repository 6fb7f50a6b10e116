import Derived.Test.YtlhpnhjfibkgpabWpG
namespace Go.Proofs.Ytlhpnhjfibkgpab
namespace Wp
open Go.RowKit
set_option linter.unusedVariables false
set_option maxRecDepth 8000
/-- The cells of a Run that are read. -/
abbrev KR (b : Nat) (st : Value) (A C : Nat → Int) (w : World) : Prop := w.cell? ⟨b, 0, none⟩ = some st ∧ (w.cell? ⟨b, 1, none⟩ = some (.int .u64 (A 0)) ∧ w.cell? ⟨b, 2, none⟩ = some (.int .u64 (A 1)) ∧ w.cell? ⟨b, 3, none⟩ = some (.int .u64 (A 2)) ∧ w.cell? ⟨b, 4, none⟩ = some (.int .u64 (A 3)) ∧ w.cell? ⟨b, 5, none⟩ = some (.int .u64 (A 4)) ∧ w.cell? ⟨b, 6, none⟩ = some (.int .u64 (A 5)) ∧ w.cell? ⟨b, 7, none⟩ = some (.int .u64 (A 6)) ∧ w.cell? ⟨b, 8, none⟩ = some (.int .u64 (A 7))) ∧ w.cell? ⟨b, 9, none⟩ = some (.int .u64 (C 0)) ∧ w.cell? ⟨b, 10, none⟩ = some (.int .u64 (C 1)) ∧ w.cell? ⟨b, 11, none⟩ = some (.int .u64 (C 2)) ∧ w.cell? ⟨b, 12, none⟩ = some (.int .u64 (C 3))
theorem Rn.kr {w : World} {b : Nat} {st : Value} {A C : Nat → Int} {k u : Int} (h : Rn w b st A C k u) : KR b st A C w := by
  refine ⟨?_, ⟨?_, ?_, ?_, ?_, ?_, ?_, ?_, ?_⟩, ?_, ?_, ?_, ?_⟩ <;> exact (cell_of_row w b _ _ 40 (0, 0) h).trans rfl
theorem Rn.k13 {w : World} {b : Nat} {st : Value} {A C : Nat → Int} {k u : Int} (h : Rn w b st A C k u) : w.cell? ⟨b, 13, none⟩ = some (.int .i64 k) := (cell_of_row w b _ _ 40 (0, 0) h).trans rfl
theorem Rn.fz {w : World} {b : Nat} {st : Value} {A C : Nat → Int} {k u : Int} (h : Rn w b st A C k u) (j : Nat) : w.frozen? ⟨b, j, none⟩ = false := frozen_of_row w b _ _ 40 h
theorem KR.on {b n : Nat} {st : Value} {A C : Nat → Int} {w w' : World} (h : KR b st A C w) (hB : Below n w w') (hb : b < n) : KR b st A C w' :=
  ⟨(hB.cell hb).trans h.1, ⟨(hB.cell hb).trans h.2.1.1, (hB.cell hb).trans h.2.1.2.1, (hB.cell hb).trans h.2.1.2.2.1, (hB.cell hb).trans h.2.1.2.2.2.1, (hB.cell hb).trans h.2.1.2.2.2.2.1, (hB.cell hb).trans h.2.1.2.2.2.2.2.1, (hB.cell hb).trans h.2.1.2.2.2.2.2.2.1, (hB.cell hb).trans h.2.1.2.2.2.2.2.2.2⟩, (hB.cell hb).trans h.2.2.1, (hB.cell hb).trans h.2.2.2.1, (hB.cell hb).trans h.2.2.2.2.1, (hB.cell hb).trans h.2.2.2.2.2⟩
theorem setA {w : World} {b : Nat} {st : Value} {A C : Nat → Int} {k u : Int} (h : Rn w b st A C k u) (s : Nat → Int) :
    ((((((((w.setCell ⟨b, 1, none⟩ (.int .u64 (s 0))).setCell ⟨b, 2, none⟩ (.int .u64 (s 1))).setCell ⟨b, 3, none⟩ (.int .u64 (s 2))).setCell ⟨b, 4, none⟩ (.int .u64 (s 3))).setCell ⟨b, 5, none⟩ (.int .u64 (s 4))).setCell ⟨b, 6, none⟩ (.int .u64 (s 5))).setCell ⟨b, 7, none⟩ (.int .u64 (s 6))).setCell ⟨b, 8, none⟩ (.int .u64 (s 7))) = w.setRow b (rc st s C k u) := by
  have hg : w.heap[b]? = some (.cells #[st, .int .u64 (A 0), .int .u64 (A 1), .int .u64 (A 2), .int .u64 (A 3), .int .u64 (A 4), .int .u64 (A 5), .int .u64 (A 6), .int .u64 (A 7), .int .u64 (C 0), .int .u64 (C 1), .int .u64 (C 2), .int .u64 (C 3), .int .i64 k, .int .u64 u] 40 (0, 0)) := h
  rw [setCell_eq_setRow w b 1 #[st, .int .u64 (A 0), .int .u64 (A 1), .int .u64 (A 2), .int .u64 (A 3), .int .u64 (A 4), .int .u64 (A 5), .int .u64 (A 6), .int .u64 (A 7), .int .u64 (C 0), .int .u64 (C 1), .int .u64 (C 2), .int .u64 (C 3), .int .i64 k, .int .u64 u] 40 (0, 0) _ hg]
  rw [show (#[st, .int .u64 (A 0), .int .u64 (A 1), .int .u64 (A 2), .int .u64 (A 3), .int .u64 (A 4), .int .u64 (A 5), .int .u64 (A 6), .int .u64 (A 7), .int .u64 (C 0), .int .u64 (C 1), .int .u64 (C 2), .int .u64 (C 3), .int .i64 k, .int .u64 u] : Array Value).setIfInBounds 1 (.int .u64 (s 0)) = #[st, .int .u64 (s 0), .int .u64 (A 1), .int .u64 (A 2), .int .u64 (A 3), .int .u64 (A 4), .int .u64 (A 5), .int .u64 (A 6), .int .u64 (A 7), .int .u64 (C 0), .int .u64 (C 1), .int .u64 (C 2), .int .u64 (C 3), .int .i64 k, .int .u64 u] from rfl]
  have q1 := setRow_heap w b _ #[st, .int .u64 (s 0), .int .u64 (A 1), .int .u64 (A 2), .int .u64 (A 3), .int .u64 (A 4), .int .u64 (A 5), .int .u64 (A 6), .int .u64 (A 7), .int .u64 (C 0), .int .u64 (C 1), .int .u64 (C 2), .int .u64 (C 3), .int .i64 k, .int .u64 u] 40 (0, 0) hg
  rw [setCell_eq_setRow _ b 2 #[st, .int .u64 (s 0), .int .u64 (A 1), .int .u64 (A 2), .int .u64 (A 3), .int .u64 (A 4), .int .u64 (A 5), .int .u64 (A 6), .int .u64 (A 7), .int .u64 (C 0), .int .u64 (C 1), .int .u64 (C 2), .int .u64 (C 3), .int .i64 k, .int .u64 u] 40 (0, 0) _ q1]
  rw [show (#[st, .int .u64 (s 0), .int .u64 (A 1), .int .u64 (A 2), .int .u64 (A 3), .int .u64 (A 4), .int .u64 (A 5), .int .u64 (A 6), .int .u64 (A 7), .int .u64 (C 0), .int .u64 (C 1), .int .u64 (C 2), .int .u64 (C 3), .int .i64 k, .int .u64 u] : Array Value).setIfInBounds 2 (.int .u64 (s 1)) = #[st, .int .u64 (s 0), .int .u64 (s 1), .int .u64 (A 2), .int .u64 (A 3), .int .u64 (A 4), .int .u64 (A 5), .int .u64 (A 6), .int .u64 (A 7), .int .u64 (C 0), .int .u64 (C 1), .int .u64 (C 2), .int .u64 (C 3), .int .i64 k, .int .u64 u] from rfl]
  rw [setRow_setRow]
  have q2 := setRow_heap w b _ #[st, .int .u64 (s 0), .int .u64 (s 1), .int .u64 (A 2), .int .u64 (A 3), .int .u64 (A 4), .int .u64 (A 5), .int .u64 (A 6), .int .u64 (A 7), .int .u64 (C 0), .int .u64 (C 1), .int .u64 (C 2), .int .u64 (C 3), .int .i64 k, .int .u64 u] 40 (0, 0) hg
  rw [setCell_eq_setRow _ b 3 #[st, .int .u64 (s 0), .int .u64 (s 1), .int .u64 (A 2), .int .u64 (A 3), .int .u64 (A 4), .int .u64 (A 5), .int .u64 (A 6), .int .u64 (A 7), .int .u64 (C 0), .int .u64 (C 1), .int .u64 (C 2), .int .u64 (C 3), .int .i64 k, .int .u64 u] 40 (0, 0) _ q2]
  rw [show (#[st, .int .u64 (s 0), .int .u64 (s 1), .int .u64 (A 2), .int .u64 (A 3), .int .u64 (A 4), .int .u64 (A 5), .int .u64 (A 6), .int .u64 (A 7), .int .u64 (C 0), .int .u64 (C 1), .int .u64 (C 2), .int .u64 (C 3), .int .i64 k, .int .u64 u] : Array Value).setIfInBounds 3 (.int .u64 (s 2)) = #[st, .int .u64 (s 0), .int .u64 (s 1), .int .u64 (s 2), .int .u64 (A 3), .int .u64 (A 4), .int .u64 (A 5), .int .u64 (A 6), .int .u64 (A 7), .int .u64 (C 0), .int .u64 (C 1), .int .u64 (C 2), .int .u64 (C 3), .int .i64 k, .int .u64 u] from rfl]
  rw [setRow_setRow]
  have q3 := setRow_heap w b _ #[st, .int .u64 (s 0), .int .u64 (s 1), .int .u64 (s 2), .int .u64 (A 3), .int .u64 (A 4), .int .u64 (A 5), .int .u64 (A 6), .int .u64 (A 7), .int .u64 (C 0), .int .u64 (C 1), .int .u64 (C 2), .int .u64 (C 3), .int .i64 k, .int .u64 u] 40 (0, 0) hg
  rw [setCell_eq_setRow _ b 4 #[st, .int .u64 (s 0), .int .u64 (s 1), .int .u64 (s 2), .int .u64 (A 3), .int .u64 (A 4), .int .u64 (A 5), .int .u64 (A 6), .int .u64 (A 7), .int .u64 (C 0), .int .u64 (C 1), .int .u64 (C 2), .int .u64 (C 3), .int .i64 k, .int .u64 u] 40 (0, 0) _ q3]
  rw [show (#[st, .int .u64 (s 0), .int .u64 (s 1), .int .u64 (s 2), .int .u64 (A 3), .int .u64 (A 4), .int .u64 (A 5), .int .u64 (A 6), .int .u64 (A 7), .int .u64 (C 0), .int .u64 (C 1), .int .u64 (C 2), .int .u64 (C 3), .int .i64 k, .int .u64 u] : Array Value).setIfInBounds 4 (.int .u64 (s 3)) = #[st, .int .u64 (s 0), .int .u64 (s 1), .int .u64 (s 2), .int .u64 (s 3), .int .u64 (A 4), .int .u64 (A 5), .int .u64 (A 6), .int .u64 (A 7), .int .u64 (C 0), .int .u64 (C 1), .int .u64 (C 2), .int .u64 (C 3), .int .i64 k, .int .u64 u] from rfl]
  rw [setRow_setRow]
  have q4 := setRow_heap w b _ #[st, .int .u64 (s 0), .int .u64 (s 1), .int .u64 (s 2), .int .u64 (s 3), .int .u64 (A 4), .int .u64 (A 5), .int .u64 (A 6), .int .u64 (A 7), .int .u64 (C 0), .int .u64 (C 1), .int .u64 (C 2), .int .u64 (C 3), .int .i64 k, .int .u64 u] 40 (0, 0) hg
  rw [setCell_eq_setRow _ b 5 #[st, .int .u64 (s 0), .int .u64 (s 1), .int .u64 (s 2), .int .u64 (s 3), .int .u64 (A 4), .int .u64 (A 5), .int .u64 (A 6), .int .u64 (A 7), .int .u64 (C 0), .int .u64 (C 1), .int .u64 (C 2), .int .u64 (C 3), .int .i64 k, .int .u64 u] 40 (0, 0) _ q4]
  rw [show (#[st, .int .u64 (s 0), .int .u64 (s 1), .int .u64 (s 2), .int .u64 (s 3), .int .u64 (A 4), .int .u64 (A 5), .int .u64 (A 6), .int .u64 (A 7), .int .u64 (C 0), .int .u64 (C 1), .int .u64 (C 2), .int .u64 (C 3), .int .i64 k, .int .u64 u] : Array Value).setIfInBounds 5 (.int .u64 (s 4)) = #[st, .int .u64 (s 0), .int .u64 (s 1), .int .u64 (s 2), .int .u64 (s 3), .int .u64 (s 4), .int .u64 (A 5), .int .u64 (A 6), .int .u64 (A 7), .int .u64 (C 0), .int .u64 (C 1), .int .u64 (C 2), .int .u64 (C 3), .int .i64 k, .int .u64 u] from rfl]
  rw [setRow_setRow]
  have q5 := setRow_heap w b _ #[st, .int .u64 (s 0), .int .u64 (s 1), .int .u64 (s 2), .int .u64 (s 3), .int .u64 (s 4), .int .u64 (A 5), .int .u64 (A 6), .int .u64 (A 7), .int .u64 (C 0), .int .u64 (C 1), .int .u64 (C 2), .int .u64 (C 3), .int .i64 k, .int .u64 u] 40 (0, 0) hg
  rw [setCell_eq_setRow _ b 6 #[st, .int .u64 (s 0), .int .u64 (s 1), .int .u64 (s 2), .int .u64 (s 3), .int .u64 (s 4), .int .u64 (A 5), .int .u64 (A 6), .int .u64 (A 7), .int .u64 (C 0), .int .u64 (C 1), .int .u64 (C 2), .int .u64 (C 3), .int .i64 k, .int .u64 u] 40 (0, 0) _ q5]
  rw [show (#[st, .int .u64 (s 0), .int .u64 (s 1), .int .u64 (s 2), .int .u64 (s 3), .int .u64 (s 4), .int .u64 (A 5), .int .u64 (A 6), .int .u64 (A 7), .int .u64 (C 0), .int .u64 (C 1), .int .u64 (C 2), .int .u64 (C 3), .int .i64 k, .int .u64 u] : Array Value).setIfInBounds 6 (.int .u64 (s 5)) = #[st, .int .u64 (s 0), .int .u64 (s 1), .int .u64 (s 2), .int .u64 (s 3), .int .u64 (s 4), .int .u64 (s 5), .int .u64 (A 6), .int .u64 (A 7), .int .u64 (C 0), .int .u64 (C 1), .int .u64 (C 2), .int .u64 (C 3), .int .i64 k, .int .u64 u] from rfl]
  rw [setRow_setRow]
  have q6 := setRow_heap w b _ #[st, .int .u64 (s 0), .int .u64 (s 1), .int .u64 (s 2), .int .u64 (s 3), .int .u64 (s 4), .int .u64 (s 5), .int .u64 (A 6), .int .u64 (A 7), .int .u64 (C 0), .int .u64 (C 1), .int .u64 (C 2), .int .u64 (C 3), .int .i64 k, .int .u64 u] 40 (0, 0) hg
  rw [setCell_eq_setRow _ b 7 #[st, .int .u64 (s 0), .int .u64 (s 1), .int .u64 (s 2), .int .u64 (s 3), .int .u64 (s 4), .int .u64 (s 5), .int .u64 (A 6), .int .u64 (A 7), .int .u64 (C 0), .int .u64 (C 1), .int .u64 (C 2), .int .u64 (C 3), .int .i64 k, .int .u64 u] 40 (0, 0) _ q6]
  rw [show (#[st, .int .u64 (s 0), .int .u64 (s 1), .int .u64 (s 2), .int .u64 (s 3), .int .u64 (s 4), .int .u64 (s 5), .int .u64 (A 6), .int .u64 (A 7), .int .u64 (C 0), .int .u64 (C 1), .int .u64 (C 2), .int .u64 (C 3), .int .i64 k, .int .u64 u] : Array Value).setIfInBounds 7 (.int .u64 (s 6)) = #[st, .int .u64 (s 0), .int .u64 (s 1), .int .u64 (s 2), .int .u64 (s 3), .int .u64 (s 4), .int .u64 (s 5), .int .u64 (s 6), .int .u64 (A 7), .int .u64 (C 0), .int .u64 (C 1), .int .u64 (C 2), .int .u64 (C 3), .int .i64 k, .int .u64 u] from rfl]
  rw [setRow_setRow]
  have q7 := setRow_heap w b _ #[st, .int .u64 (s 0), .int .u64 (s 1), .int .u64 (s 2), .int .u64 (s 3), .int .u64 (s 4), .int .u64 (s 5), .int .u64 (s 6), .int .u64 (A 7), .int .u64 (C 0), .int .u64 (C 1), .int .u64 (C 2), .int .u64 (C 3), .int .i64 k, .int .u64 u] 40 (0, 0) hg
  rw [setCell_eq_setRow _ b 8 #[st, .int .u64 (s 0), .int .u64 (s 1), .int .u64 (s 2), .int .u64 (s 3), .int .u64 (s 4), .int .u64 (s 5), .int .u64 (s 6), .int .u64 (A 7), .int .u64 (C 0), .int .u64 (C 1), .int .u64 (C 2), .int .u64 (C 3), .int .i64 k, .int .u64 u] 40 (0, 0) _ q7]
  rw [show (#[st, .int .u64 (s 0), .int .u64 (s 1), .int .u64 (s 2), .int .u64 (s 3), .int .u64 (s 4), .int .u64 (s 5), .int .u64 (s 6), .int .u64 (A 7), .int .u64 (C 0), .int .u64 (C 1), .int .u64 (C 2), .int .u64 (C 3), .int .i64 k, .int .u64 u] : Array Value).setIfInBounds 8 (.int .u64 (s 7)) = #[st, .int .u64 (s 0), .int .u64 (s 1), .int .u64 (s 2), .int .u64 (s 3), .int .u64 (s 4), .int .u64 (s 5), .int .u64 (s 6), .int .u64 (s 7), .int .u64 (C 0), .int .u64 (C 1), .int .u64 (C 2), .int .u64 (C 3), .int .i64 k, .int .u64 u] from rfl]
  rw [setRow_setRow]
/-- The aggregate of the first v states. -/
def fs (g : Pg) (S : Nat → Nat → Int) : Nat → Nat → Int
  | 0 => fun _ => 0
  | v + 1 => g.fo (fs g S v) v (S v)
theorem Rn.row {w : World} {b : Nat} {st : Value} {A C : Nat → Int} {k u : Int} (h : Rn w b st A C k u) (st' : Value) (A' C' : Nat → Int) (k' u' : Int) : Rn (w.setRow b (rc st' A' C' k' u')) b st' A' C' k' u' := setRow_heap w b _ _ 40 (0, 0) h
theorem Rn.of {w w' : World} {b : Nat} {st : Value} {A C : Nat → Int} {k u : Int} (h : Rn w b st A C k u) (e : w'.heap[b]? = w.heap[b]?) : Rn w' b st A C k u := e.trans h
theorem SR.tw {w w' : World} {a b c n : Nat} {S : Nat → Nat → Int} (h : SR w c n S) (ht : Tw a b w w') (ha : c ≠ a) (hb : c ≠ b) : SR w' c n S := h.of (ht.block c h.lt ha hb)
theorem KR.row {b g : Nat} {st : Value} {A C : Nat → Int} {w : World} (h : KR b st A C w) (D : Array Value) (hb : b ≠ g) : KR b st A C (w.setRow g D) :=
  ⟨(cell_setRow_other w g D _ hb).trans h.1, ⟨(cell_setRow_other w g D _ hb).trans h.2.1.1, (cell_setRow_other w g D _ hb).trans h.2.1.2.1, (cell_setRow_other w g D _ hb).trans h.2.1.2.2.1, (cell_setRow_other w g D _ hb).trans h.2.1.2.2.2.1, (cell_setRow_other w g D _ hb).trans h.2.1.2.2.2.2.1, (cell_setRow_other w g D _ hb).trans h.2.1.2.2.2.2.2.1, (cell_setRow_other w g D _ hb).trans h.2.1.2.2.2.2.2.2.1, (cell_setRow_other w g D _ hb).trans h.2.1.2.2.2.2.2.2.2⟩, (cell_setRow_other w g D _ hb).trans h.2.2.1, (cell_setRow_other w g D _ hb).trans h.2.2.2.1, (cell_setRow_other w g D _ hb).trans h.2.2.2.2.1, (cell_setRow_other w g D _ hb).trans h.2.2.2.2.2⟩
theorem K8o.row {b o g : Nat} {c : Nat → Int} {w : World} (h : K8o b o c w) (D : Array Value) (hb : b ≠ g) : K8o b o c (w.setRow g D) :=
  ⟨(cell_setRow_other w g D _ hb).trans h.1, (cell_setRow_other w g D _ hb).trans h.2.1, (cell_setRow_other w g D _ hb).trans h.2.2.1, (cell_setRow_other w g D _ hb).trans h.2.2.2.1, (cell_setRow_other w g D _ hb).trans h.2.2.2.2.1, (cell_setRow_other w g D _ hb).trans h.2.2.2.2.2.1, (cell_setRow_other w g D _ hb).trans h.2.2.2.2.2.2.1, (cell_setRow_other w g D _ hb).trans h.2.2.2.2.2.2.2⟩
abbrev Sfd (rb sb o : Nat) (st : Value) (A C s : Nat → Int) (w : World) : Prop := KR rb st A C w ∧ K8o sb o s w
set_option maxHeartbeats 4000000 in
theorem fold_any (g : Pg) (fb B rb sb n cap : Nat) (A C : Nat → Int) (k u : Int) (S : Nat → Nat → Int) (hn : n ≤ 1000) (w : World) (hO : Ob g fb B w) (hBw : B ≤ w.heap.size) (hBr : B ≤ rb) (hR : Rn w rb (.slice (some ⟨sb, 0, none⟩) n cap) A C k u) (hS : SR w sb n S) (hne : sb ≠ rb)
    (hA : ∀ v, v ≤ n → 0 ≤ fs g S v 0 ∧ fs g S v 0 ≤ 1000000) :
    Calls Try.prog 29 #[.pointer (some ⟨rb, 0, none⟩), .pointer (some ⟨fb, 0, none⟩)] w fun e w' => e = .returned (.bool true) ∧ Rn w' rb (.slice (some ⟨sb, 0, none⟩) n cap) (fs g S n) C k u ∧ Tw rb rb w w' := by
  have HO := hide hO
  have HR := hide hR
  have HS := hide hS
  have HA := hide hA
  have HNE := hide hne
  have HBw := hide hBw
  have HBr := hide hBr
  have HN := hide hn
  have hf := HR.out.fz
  have hkr := HR.out.kr
  clear hO hR hS hA hne hBw hBr
  go_enter Try.func29, Try.ntmps29
  go_wp2_with (fail)
  rw [setA HR.out (fun _ => 0)]
  have h0R : Hid (Rn (w.setRow rb (rc (.slice (some ⟨sb, 0, none⟩) n cap) (fun _ => 0) C k u)) rb (.slice (some ⟨sb, 0, none⟩) n cap) (fs g S 0) C k u) := HR.out.row _ _ _ _ _
  have h0T : Hid (Tw rb rb w (w.setRow rb (rc (.slice (some ⟨sb, 0, none⟩) n cap) (fun _ => 0) C k u))) := (Tw.refl _ _ _).row _ (Or.inl rfl)
  generalize w.setRow rb (rc (.slice (some ⟨sb, 0, none⟩) n cap) (fun _ => 0) C k u) = w0 at *
  clear hf hkr
  go_loopw [5] (fun v wr => ∃ j : Nat, j ≤ n ∧ v = .int .i64 j ∧ Hid (Rn wr rb (.slice (some ⟨sb, 0, none⟩) n cap) (fs g S j) C k u) ∧ Hid (Tw rb rb w wr)) (fun v _ => n - (intOf v).toNat)
  case atStart => exact ⟨0, Nat.zero_le _, rfl, h0R, h0T⟩
  case round =>
    clear h0R h0T
    obtain ⟨j, hj, rfl, HRj, HTj⟩ := hrel
    have hc0 := HRj.out.kr.1
    by_cases c : j < n
    · have HSj := hide (HS.out.tw HTj.out HNE.out HNE.out)
      have HOj := hide (HO.out.on (HTj.out.below HBr.out HBr.out HBw.out))
      have hAj := HA.out j (by omega)
      have HFo := hide (HOj.out.fold C (fs g S j) (j : Int) (S j) (by omega) (by omega) hAj.1 hAj.2)
      have HFs : Hid (fs g S (j + 1) = g.fo (fs g S j) (j : Int) (S j)) := rfl
      obtain ⟨A0, hA0⟩ : ∃ A0, fs g S j = A0 := ⟨_, rfl⟩
      rw [hA0] at HRj HFo HFs
      have hw32 : IntKind.u32.wrap (j : Int) = j := by simp only [IntKind.wrap, IntKind.signed, IntKind.bits]; simp; omega
      have HC := hide c
      have HJ := hide hj
      clear hAj hA0 hj
      have hS0 : Hid (Sfd rb sb (j * 8) (.slice (some ⟨sb, 0, none⟩) n cap) A0 C (S j) wr.drew) := ⟨HRj.out.kr, HSj.out.k8 j HC.out⟩
      have HZ : Hid (rb < wr.heap.size ∧ sb < wr.heap.size) := ⟨HRj.out.lt, HSj.out.lt⟩
      have HK : Hid (∀ W, Below wr.heap.size wr W → Sfd rb sb (j * 8) (.slice (some ⟨sb, 0, none⟩) n cap) A0 C (S j) W) := fun W hB => ⟨KR.on HRj.out.kr hB HZ.out.1, K8o.on (HSj.out.k8 j HC.out) hB HZ.out.2⟩
      have HBz : Hid (B ≤ wr.heap.size) := Nat.le_trans HBw.out HTj.out.size
      have HX : Hid (Below wr.heap.size wr (wr.alloc (.cells z8 36)).drew) := by repeat first | exact Below.refl _ _ | refine belowD ?_ | refine belowN ?_ _ | refine bA ?_ (by first | exact Nat.le_refl _ | (simp only [World.size_drew, World.size_alloc]; omega)) _
      have HXd : Hid (Below B wr wr.drew) := belowD (Below.refl _ _)
      have HX0 : Hid ((wr.alloc (.cells z8 36)).drew.heap[wr.heap.size]? = some (.cells z8 36 (0, 0))) := at0 _ _
      have HXz : Hid (wr.heap.size < (wr.alloc (.cells z8 36)).drew.heap.size) := by show _ < _; simp only [World.size_drew, World.size_alloc]; omega
      have HXr : Hid (∀ W C', Sfd rb sb (j * 8) (.slice (some ⟨sb, 0, none⟩) n cap) A0 C (S j) W → Sfd rb sb (j * 8) (.slice (some ⟨sb, 0, none⟩) n cap) A0 C (S j) (W.setRow wr.heap.size C')) := fun W C' h => by
        have h1 : rb ≠ wr.heap.size := Nat.ne_of_lt HZ.out.1
        have h2 : sb ≠ wr.heap.size := Nat.ne_of_lt HZ.out.2
        exact ⟨KR.row h.1 C' h1, K8o.row h.2 C' h2⟩
      go_wp2_with (fail)
      go_region_held3 (Sfd rb sb (j * 8) (.slice (some ⟨sb, 0, none⟩) n cap) A0 C (S j)) ((first | with_reducible exact hS0.out | with_reducible exact HK.out _ HX.out | with_reducible exact HK.out _ hw1.out | with_reducible exact HK.out _ (bA hw1.out hw1z.out _) | (rw [sets8 HQ.out rfl]; exact HXr.out _ _ (HK.out _ hw1.out)))) ((first | (go_at_call 35; refine (HFo.out _ (HX.out.mono HBz.out)).mono ?_; rintro e1 w1 ⟨rfl, hw1'⟩; have HQ := hide ((hw1'.block _ HXz.out).trans HX0.out); have hw1 := hide (HX.out.trans (hw1'.mono HX.out.size)); clear hw1'; have hk2 := k8 (c := fun _ => 0) HQ.out; have hf2 := f8 HQ.out) | (go_at_call 35; refine (HFo.out _ HXd.out).mono ?_; rintro e1 w1 ⟨rfl, hw1'⟩; have hw1 : Hid (Below wr.heap.size wr w1) := ⟨hw1'.os, hw1'.tape, hw1'.output, hw1'.size, hw1'.block⟩; have hw1z := hide hw1.out.size; clear hw1')))
      · have HBx := hide (at0 w1 (.cells (sv (g.fo A0 (j : Int) (S j))) 36))
        have HB2 : Hid (Below wr.heap.size wr (w1.alloc (.cells (sv (g.fo A0 (j : Int) (S j))) 36))) := bA hw1.out hw1z.out _
        have HR2 := hide (HRj.out.on HB2.out)
        generalize w1.alloc (.cells (sv (g.fo A0 (j : Int) (S j))) 36) = w2 at *
        generalize w1.heap.size = bx at *
        generalize g.fo A0 (j : Int) (S j) = a1 at *
        have hk := k8 HBx.out
        have hf := HR2.out.fz
        have hkr := HR2.out.kr
        clear hS0 HZ HK HX HX0 HXz HXr HXd
        go_wp2_with (fail)
        refine (num_any _ _).mono ?_
        rintro e3 w3 ⟨rfl, rfl⟩
        go_wp2
        rw [setA HR2.out a1]
        refine ⟨⟨j + 1, HC.out, by go_num, ?_, ?_⟩, by simp [intOf]; have := HC.out; omega⟩
        · rw [HFs.out]; exact HR2.out.row _ _ _ _ _
        · exact (HTj.out.trans (Tw.of HB2.out)).row _ (Or.inl rfl)
      · rw [sets8 HQ.out rfl]
        have HBx := hide (setRow_heap w1 wr.heap.size _ (sv (g.fo A0 (j : Int) (S j))) 36 (0, 0) HQ.out)
        have HB2 : Hid (Below wr.heap.size wr (w1.setRow wr.heap.size (sv (g.fo A0 (j : Int) (S j))))) := below_setRow hw1.out (Nat.le_refl _) _
        have HR2 := hide (HRj.out.on HB2.out)
        generalize w1.setRow wr.heap.size (sv (g.fo A0 (j : Int) (S j))) = w2 at *
        generalize hbx : wr.heap.size = bx at HBx ⊢
        generalize g.fo A0 (j : Int) (S j) = a1 at *
        have hk := k8 HBx.out
        have hf := HR2.out.fz
        have hkr := HR2.out.kr
        clear hS0 HZ HK HX HX0 HXz HXr HXd
        go_wp2_with (fail)
        refine (num_any _ _).mono ?_
        rintro e3 w3 ⟨rfl, rfl⟩
        go_wp2
        rw [setA HR2.out a1]
        refine ⟨⟨j + 1, HC.out, by go_num, ?_, ?_⟩, by simp [intOf]; have := HC.out; omega⟩
        · rw [HFs.out]; exact HR2.out.row _ _ _ _ _
        · exact (HTj.out.trans (Tw.of HB2.out)).row _ (Or.inl rfl)
    · have hjn : j = n := by omega
      subst hjn
      clear c hj
      go_wp2
      all_goals go_ret
      all_goals exact ⟨rfl, HRj.out, HTj.out⟩
end Wp
end Go.Proofs.Ytlhpnhjfibkgpab
