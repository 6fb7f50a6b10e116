import Derived.Test.YtlhpnhjfibkgpaaWpO
namespace Go.Proofs.Ytlhpnhjfibkgpaa
namespace Wp
open Go.RowKit
set_option linter.unusedVariables false
set_option maxRecDepth 8000
/-- How many vertices a graph has. -/
def gz (N : Int) : Nat := (min (max N 1) 400).toNat
theorem gz_eq (N : Int) : ((gz N : Nat) : Int) = min (max N 1) 400 := by unfold gz; omega
theorem gz_b (N : Int) : 1 ≤ gz N ∧ gz N ≤ 400 := by have := gz_eq N; omega
theorem ret_i {k : IntKind} {a b : Int} (h : a = b) : Ending.returned (.int k a) = .returned (.int k b) := by rw [h]
set_option maxHeartbeats 1000000 in
theorem size_any (N : Int) (s : Value) (w : World) : Calls Try.prog 9 #[.agg #[.int .i64 N, s]] w fun e w' => e = .returned (.int .u32 (gz N : Int)) ∧ w' = w.alloc (.cells #[.int .i64 N, s] 24) := by
  have hE := hide (gz_eq N)
  go_enter Try.func9, Try.ntmps9
  go_wp2
  all_goals go_ret
  all_goals exact ⟨ret_i (by rw [hE.out]; omega), rfl⟩
set_option maxHeartbeats 1000000 in
theorem isSize_any (n : Int) (h1 : 1 ≤ n) (h2 : n ≤ 2147483647) (w : World) : Calls Try.prog 29 #[.int .u32 n] w fun e w' => e = .returned (.bool true) ∧ w' = w := by
  go_enter Try.func29, Try.ntmps29
  go_wp2
  all_goals go_ret
  all_goals exact ⟨rfl, rfl⟩
set_option maxHeartbeats 1000000 in
theorem wcc_any (n : Int) (h1 : 1 ≤ n) (h2 : n ≤ 2147483647) (w : World) : Calls Try.prog 11 #[.int .u32 n] w fun e w' => e = .returned (.tuple #[.pointer (some ⟨w.heap.size, 0, none⟩), .int .i64 0]) ∧ w' = w.alloc (.cells #[.iface 75 (.agg #[.int .u32 n])] 79) := by
  have HZ := hide (isSize_any n h1 h2)
  go_enter Try.func11, Try.ntmps11
  go_wp2_with (fail)
  refine (HZ.out _).mono ?_
  rintro e1 w1 ⟨rfl, rfl⟩
  go_wp2
  all_goals go_ret2
  all_goals exact ⟨rfl, rfl⟩
theorem fl_new (n : Int) (w : World) : FL n w.heap.size (w.alloc (.cells #[.iface 75 (.agg #[.int .u32 n])] 79)) := ⟨by simp, at0 _ _⟩
set_option maxHeartbeats 1000000 in
theorem label_yes (s : Nat → Int) (h1 : 0 ≤ s 0) (h : s 0 ≤ 4294967295) (w : World) : Calls Try.prog 14 #[.agg (sv s)] w fun e w' => e = .returned (.tuple #[.int .u32 (s 0), .bool true]) ∧ w' = w.alloc (so s) := by
  go_enter Try.func14, Try.ntmps14
  go_wp2
  all_goals go_ret2
  all_goals exact ⟨rfl, rfl⟩
end Wp
end Go.Proofs.Ytlhpnhjfibkgpaa
