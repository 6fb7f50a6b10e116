import Derived.Test.YtdfgknmajcehiaaPeA
import Derived.Deep.RegionWith
import Derived.Deep.RegionHeld3
namespace Go.Proofs.Ytdfgknmajcehiaa
namespace Pe
open Go.RowKit
set_option linter.unusedVariables false
set_option maxRecDepth 8000
abbrev z8 : Array Value := #[.int .u64 0, .int .u64 0, .int .u64 0, .int .u64 0, .int .u64 0, .int .u64 0, .int .u64 0, .int .u64 0]
abbrev cv (c : Nat → Int) : Array Value := #[.int .u64 (c 0), .int .u64 (c 1), .int .u64 (c 2), .int .u64 (c 3)]
abbrev z4 : Array Value := #[.int .u64 0, .int .u64 0, .int .u64 0, .int .u64 0]
theorem pnone (W : World) : (binOp .eql 28 (.pointer none) (.pointer none)).run Try.prog W = .ok (.bool true) W := rfl
set_option maxHeartbeats 1000000 in
theorem prog_none (w : World) : Calls Try.prog 24 #[.pointer none] w fun e w' => e = .returned (.iface 83 (.agg #[])) ∧ w' = w := by
  have hp := pnone
  go_enter Try.func24, Try.ntmps24
  go_wp2
  all_goals go_ret
  all_goals exact ⟨rfl, rfl⟩
set_option maxHeartbeats 1000000 in
theorem words_ab (w : World) : Calls Try.prog 58 #[.agg #[]] w fun e w' => e = .returned (.int .i64 0) ∧ w' = w.alloc (.cells #[] 83) := by
  go_enter Try.func58, Try.ntmps58
  go_wp2
  all_goals go_ret
  all_goals exact ⟨rfl, rfl⟩
set_option maxHeartbeats 1000000 in
theorem words_none (w : World) : Calls Try.prog 15 #[.pointer none] w fun e w' => e = .returned (.int .i64 0) ∧ w' = w.alloc (.cells #[] 83) := by
  have HP := hide prog_none
  go_enter Try.func15, Try.ntmps15
  go_wp2_with (fail)
  refine (HP.out _).mono ?_
  rintro e1 w1 ⟨rfl, rfl⟩
  go_wp2_with (fail)
  refine (words_ab _).mono ?_
  rintro e2 w2 ⟨rfl, rfl⟩
  go_wp2
  go_ret
  exact ⟨rfl, rfl⟩
set_option maxHeartbeats 1000000 in
theorem both_ab (w : World) : Calls Try.prog 52 #[.agg #[]] w fun e w' => e = .returned (.bool false) ∧ w' = w.alloc (.cells #[] 83) := by
  go_enter Try.func52, Try.ntmps52
  go_wp2
  all_goals go_ret
  all_goals exact ⟨rfl, rfl⟩
set_option maxHeartbeats 1000000 in
theorem both_none (w : World) : Calls Try.prog 16 #[.pointer none] w fun e w' => e = .returned (.bool false) ∧ w' = w.alloc (.cells #[] 83) := by
  have HP := hide prog_none
  go_enter Try.func16, Try.ntmps16
  go_wp2_with (fail)
  refine (HP.out _).mono ?_
  rintro e1 w1 ⟨rfl, rfl⟩
  go_wp2_with (fail)
  refine (both_ab _).mono ?_
  rintro e2 w2 ⟨rfl, rfl⟩
  go_wp2
  go_ret
  exact ⟨rfl, rfl⟩
abbrev zk : Array Value := #[.int .i64 0, .int .i64 0, .int .i64 0, .int .i64 0]
set_option maxHeartbeats 1000000 in
theorem sink_ab (w : World) : Calls Try.prog 55 #[.agg #[]] w fun e w' => e = .returned (.agg zk) ∧ w' = (w.alloc (.cells #[] 83)).alloc (.cells zk 51) := by
  go_enter Try.func55, Try.ntmps55
  go_wp2
  refine bodyPost_ret (v := .agg zk) ?_ rfl ⟨rfl, rfl⟩
  simp only [results, Try.results55, asAddr]
  go_simp
set_option maxHeartbeats 1000000 in
theorem sink_none (w : World) : Calls Try.prog 17 #[.pointer none] w fun e w' => e = .returned (.agg zk) ∧ w' = ((w.alloc (.cells zk 51)).alloc (.cells #[] 83)).alloc (.cells zk 51) := by
  have HP := hide prog_none
  go_enter Try.func17, Try.ntmps17
  go_wp2_with (fail)
  refine (HP.out _).mono ?_
  rintro e1 w1 ⟨rfl, rfl⟩
  go_wp2_with (fail)
  refine (sink_ab _).mono ?_
  rintro e2 w2 ⟨rfl, rfl⟩
  go_wp2
  refine bodyPost_ret (v := .agg zk) ?_ rfl ⟨rfl, rfl⟩
  simp only [results, Try.results17, asAddr]
  go_simp
set_option maxHeartbeats 1000000 in
theorem start_ab (v a b : Int) (w : World) : Calls Try.prog 56 #[.agg #[], .int .u32 v, .agg #[.int .u64 a, .int .u64 b]] w fun e w' => e = .returned (.tuple #[.agg z8, .int .i64 1]) ∧ w' = ((w.alloc (.cells #[] 83)).alloc (.cells #[.int .u64 a, .int .u64 b] 34)).alloc (.cells z8 24) := by
  go_enter Try.func56, Try.ntmps56
  go_wp2
  refine bodyPost_ret (v := .tuple #[.agg z8, .int .i64 1]) ?_ rfl ⟨rfl, rfl⟩
  simp only [results, Try.results56, asAddr]
  go_simp
set_option maxHeartbeats 1000000 in
theorem start_none (v a b : Int) (w : World) : Calls Try.prog 9 #[.pointer none, .int .u32 v, .agg #[.int .u64 a, .int .u64 b]] w fun e w' => e = .returned (.tuple #[.agg z8, .int .i64 1]) ∧ Below w.heap.size w w' := by
  have HP := hide prog_none
  have HS := hide (start_ab v a b)
  go_enter Try.func9, Try.ntmps9
  go_wp2_with (fail)
  go_region_with (first | (go_at_call 24; refine (HP.out _).mono ?_; rintro e1 w1 ⟨rfl, hw1⟩; subst w1) | (go_at_call 56; refine (HS.out _).mono ?_; rintro e2 w2 ⟨rfl, hw2⟩; subst w2))
  all_goals go_wp2
  all_goals (refine bodyPost_ret (v := .tuple #[.agg z8, .int .i64 1]) ?_ rfl ⟨rfl, by repeat first | exact Below.refl _ _ | refine belowD ?_ | refine belowN ?_ _ | refine bA ?_ (by first | exact Nat.le_refl _ | (simp only [World.size_alloc]; omega)) _⟩)
  all_goals simp only [results, Try.results9, asAddr, Act.put]
  all_goals go_simp
end Pe
end Go.Proofs.Ytdfgknmajcehiaa
