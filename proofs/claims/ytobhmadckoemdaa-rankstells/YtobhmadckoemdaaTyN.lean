import Derived.Test.YtobhmadckoemdaaTyM
import Derived.Test.YtobhmadckoemdaaTyB
namespace Go.Proofs.Ytobhmadckoemdaa
namespace Ty
open Go.RowKit
set_option linter.unusedVariables false
def SMid (w wr : World) (A y : Int) (k : Nat) : Prop :=
  Below w.heap.size w wr ∧ wr.rowIs w.heap.size 46 6 (fun i => .int .u64 (wd A i)) ∧ wr.rowIs (w.heap.size + 1) 46 6 (fun i => .int .u64 (if i < k then wd (A * y) i else 0))
theorem sm_start (w : World) (A y : Int) : SMid w ((w.alloc (.cells (sm A) 46)).alloc (.cells (sm 0) 46)) A y 0 := by
  obtain ⟨h1, h2⟩ := heap_two w (.cells (sm A) 46) (.cells (sm 0) 46)
  refine ⟨((Below.refl _ _).alloc (Nat.le_refl _) _).alloc (by simp) _, row_sm h1, (row_sm h2).congr (fun i hi => by rw [zero_wd]; simp)⟩
theorem sm_step {w wr : World} {A y : Int} {k : Nat} (hm : SMid w wr A y k) (m : Nat) : SMid w ((wr.drewN m).setCell ⟨w.heap.size + 1, k, none⟩ (.int .u64 (wd (A * y) k))) A y (k + 1) := by
  obtain ⟨b1, r0', r1'⟩ := hm
  have r0 : (wr.drewN m).rowIs w.heap.size 46 6 (fun i => .int .u64 (wd A i)) := r0'.of_block rfl
  have r1 : (wr.drewN m).rowIs (w.heap.size + 1) 46 6 (fun i => .int .u64 (if i < k then wd (A * y) i else 0)) := r1'.of_block rfl
  refine ⟨(below_drewN b1 m).setCell (by show w.heap.size ≤ w.heap.size + 1; omega) _, r0.setOther (by show w.heap.size ≠ w.heap.size + 1; omega) _, (r1.set k _).congr (fun i hi => ?_)⟩
  by_cases e : i = k
  · subst e; simp
  · simp only [e, if_false]
    by_cases h : i < k
    · rw [if_pos h, if_pos (by omega)]
    · rw [if_neg h, if_neg (by omega)]
end Ty
end Go.Proofs.Ytobhmadckoemdaa
