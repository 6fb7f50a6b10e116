import Derived.Test.YtlhpnhjfibkgpabWpO
namespace Go.Proofs.Ytlhpnhjfibkgpab
namespace Wp
open Go.RowKit
set_option linter.unusedVariables false
set_option maxRecDepth 8000
/-- How many vertices a graph has. -/
def gz (N : Int) : Nat := (min (max N 1) 400).toNat
theorem gz_eq (N : Int) : ((gz N : Nat) : Int) = min (max N 1) 400 := by unfold gz; omega
theorem gz_b (N : Int) : 1 ≤ gz N ∧ gz N ≤ 400 := by have := gz_eq N; omega
theorem ret_i {k : IntKind} {a b : Int} (h : a = b) : Ending.returned (.int k a) = .returned (.int k b) := by rw [h]
set_option maxHeartbeats 1000000 in
theorem size_any (N : Int) (s : Value) (w : World) : Calls Try.prog 4 #[.agg #[.int .i64 N, s]] w fun e w' => e = .returned (.int .u32 (gz N : Int)) ∧ w' = w.alloc (.cells #[.int .i64 N, s] 24) := by
  have hE := hide (gz_eq N)
  go_enter Try.func4, Try.ntmps4
  go_wp2
  all_goals go_ret
  all_goals exact ⟨ret_i (by rw [hE.out]; omega), rfl⟩
set_option maxHeartbeats 1000000 in
theorem isSize_any (n : Int) (h1 : 1 ≤ n) (h2 : n ≤ 2147483647) (w : World) : Calls Try.prog 21 #[.int .u32 n] w fun e w' => e = .returned (.bool true) ∧ w' = w := by
  go_enter Try.func21, Try.ntmps21
  go_wp2
  all_goals go_ret
  all_goals exact ⟨rfl, rfl⟩
end Wp
end Go.Proofs.Ytlhpnhjfibkgpab
