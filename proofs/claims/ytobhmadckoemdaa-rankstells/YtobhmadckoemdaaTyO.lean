import Derived.Test.YtobhmadckoemdaaTyN
namespace Go.Proofs.Ytobhmadckoemdaa
namespace Ty
open Go.RowKit
set_option linter.unusedVariables false
theorem two_sums (w : World) (t : TypeId) (A : Int) : ∃ v : World, (w.alloc (.cells (sm A) t)).alloc (.cells #[.int .u64 0, .int .u64 0, .int .u64 0, .int .u64 0, .int .u64 0, .int .u64 0] t) = v ∧ Below w.heap.size w v ∧ v.heap.size = w.heap.size + 1 + 1 ∧ v.heap[w.heap.size]? = some (.cells (sm A) t (0, 0)) ∧ v.heap[w.heap.size + 1]? = some (.cells (sm 0) t (0, 0)) := by
  rw [zeros_sm]
  obtain ⟨h1, h2⟩ := heap_two w (.cells (sm A) t) (.cells (sm 0) t)
  exact ⟨_, rfl, ((Below.refl _ _).alloc (Nat.le_refl _) _).alloc (by simp) _, by simp, h1, h2⟩
theorem below_chain {B : Nat} {w w1 w2 : World} (h : Below B w w1) (h2 : Below w1.heap.size w1 w2) (hB : B ≤ w.heap.size) : Below B w w2 := h.trans (h2.mono (Nat.le_trans hB h.size))
theorem new_sum {W : World} (t : TypeId) (N : Int) : ∃ V, (W.alloc (.cells #[.int .u64 0, .int .u64 0, .int .u64 0, .int .u64 0, .int .u64 0, .int .u64 0] t)).setRow W.heap.size (sm N) = V ∧ Below W.heap.size W V ∧ V.heap.size = W.heap.size + 1 ∧ V.heap[W.heap.size]? = some (.cells (sm N) t (0, 0)) := by
  refine ⟨_, rfl, below_setRow _ _ ((Below.refl _ _).alloc (Nat.le_refl _) _) (Nat.le_refl _), by simp, ?_⟩
  exact setRow_heap _ W.heap.size _ _ t (0, 0) (heap_alloc_last W _)
end Ty
end Go.Proofs.Ytobhmadckoemdaa
