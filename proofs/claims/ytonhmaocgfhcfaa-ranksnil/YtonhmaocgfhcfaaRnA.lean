import Derived.Test.YtonhmaocgfhcfaaRnZ
import Derived.Deep.RegionWith
import Derived.Deep.RegionHeld3
namespace Go.Proofs.Ytonhmaocgfhcfaa
namespace Rn
open Go.RowKit
set_option linter.unusedVariables false
set_option maxRecDepth 8000
abbrev z8 : Array Value := #[.int .u64 0, .int .u64 0, .int .u64 0, .int .u64 0, .int .u64 0, .int .u64 0, .int .u64 0, .int .u64 0]
abbrev cv (c : Nat → Int) : Array Value := #[.int .u64 (c 0), .int .u64 (c 1), .int .u64 (c 2), .int .u64 (c 3)]
abbrev z4 : Array Value := #[.int .u64 0, .int .u64 0, .int .u64 0, .int .u64 0]
theorem pnone (W : World) : (binOp .eql 30 (.pointer none) (.pointer none)).run Try.prog W = .ok (.bool true) W := rfl
set_option maxHeartbeats 1000000 in
theorem prog_none (w : World) : Calls Try.prog 19 #[.pointer none] w fun e w' => e = .returned (.iface 88 (.agg #[])) ∧ w' = w := by
  have hp := pnone
  go_enter Try.func19, Try.ntmps19
  go_wp2
  all_goals go_ret
  all_goals exact ⟨rfl, rfl⟩
set_option maxHeartbeats 1000000 in
theorem words_ab (w : World) : Calls Try.prog 128 #[.agg #[]] w fun e w' => e = .returned (.int .i64 0) ∧ w' = w.alloc (.cells #[] 88) := by
  go_enter Try.func128, Try.ntmps128
  go_wp2
  all_goals go_ret
  all_goals exact ⟨rfl, rfl⟩
set_option maxHeartbeats 1000000 in
theorem words_none (w : World) : Calls Try.prog 11 #[.pointer none] w fun e w' => e = .returned (.int .i64 0) ∧ w' = w.alloc (.cells #[] 88) := by
  have HP := hide prog_none
  go_enter Try.func11, Try.ntmps11
  go_wp2_with (fail)
  refine (HP.out _).mono ?_
  rintro e1 w1 ⟨rfl, rfl⟩
  go_wp2_with (fail)
  refine (words_ab _).mono ?_
  rintro e2 w2 ⟨rfl, rfl⟩
  go_wp2
  go_ret
  exact ⟨rfl, rfl⟩
set_option maxHeartbeats 1000000 in
theorem both_ab (w : World) : Calls Try.prog 122 #[.agg #[]] w fun e w' => e = .returned (.bool false) ∧ w' = w.alloc (.cells #[] 88) := by
  go_enter Try.func122, Try.ntmps122
  go_wp2
  all_goals go_ret
  all_goals exact ⟨rfl, rfl⟩
set_option maxHeartbeats 1000000 in
theorem both_none (w : World) : Calls Try.prog 12 #[.pointer none] w fun e w' => e = .returned (.bool false) ∧ w' = w.alloc (.cells #[] 88) := by
  have HP := hide prog_none
  go_enter Try.func12, Try.ntmps12
  go_wp2_with (fail)
  refine (HP.out _).mono ?_
  rintro e1 w1 ⟨rfl, rfl⟩
  go_wp2_with (fail)
  refine (both_ab _).mono ?_
  rintro e2 w2 ⟨rfl, rfl⟩
  go_wp2
  go_ret
  exact ⟨rfl, rfl⟩
abbrev zk : Array Value := #[.int .i64 0, .int .i64 0, .int .i64 0, .int .i64 0]
set_option maxHeartbeats 1000000 in
theorem sink_ab (w : World) : Calls Try.prog 125 #[.agg #[]] w fun e w' => e = .returned (.agg zk) ∧ w' = (w.alloc (.cells #[] 88)).alloc (.cells zk 48) := by
  go_enter Try.func125, Try.ntmps125
  go_wp2
  refine bodyPost_ret (v := .agg zk) ?_ rfl ⟨rfl, rfl⟩
  simp only [results, Try.results125, asAddr]
  go_simp
set_option maxHeartbeats 1000000 in
theorem sink_none (w : World) : Calls Try.prog 13 #[.pointer none] w fun e w' => e = .returned (.agg zk) ∧ w' = ((w.alloc (.cells zk 48)).alloc (.cells #[] 88)).alloc (.cells zk 48) := by
  have HP := hide prog_none
  go_enter Try.func13, Try.ntmps13
  go_wp2_with (fail)
  refine (HP.out _).mono ?_
  rintro e1 w1 ⟨rfl, rfl⟩
  go_wp2_with (fail)
  refine (sink_ab _).mono ?_
  rintro e2 w2 ⟨rfl, rfl⟩
  go_wp2
  refine bodyPost_ret (v := .agg zk) ?_ rfl ⟨rfl, rfl⟩
  simp only [results, Try.results13, asAddr]
  go_simp
set_option maxHeartbeats 1000000 in
theorem start_ab (v a b : Int) (w : World) : Calls Try.prog 126 #[.agg #[], .int .u32 v, .agg #[.int .u64 a, .int .u64 b]] w fun e w' => e = .returned (.tuple #[.agg z8, .int .i64 1]) ∧ w' = ((w.alloc (.cells #[] 88)).alloc (.cells #[.int .u64 a, .int .u64 b] 35)).alloc (.cells z8 24) := by
  go_enter Try.func126, Try.ntmps126
  go_wp2
  refine bodyPost_ret (v := .tuple #[.agg z8, .int .i64 1]) ?_ rfl ⟨rfl, rfl⟩
  simp only [results, Try.results126, asAddr]
  go_simp
set_option maxHeartbeats 1000000 in
theorem start_none (v a b : Int) (w : World) : Calls Try.prog 5 #[.pointer none, .int .u32 v, .agg #[.int .u64 a, .int .u64 b]] w fun e w' => e = .returned (.tuple #[.agg z8, .int .i64 1]) ∧ Below w.heap.size w w' := by
  have HP := hide prog_none
  have HS := hide (start_ab v a b)
  go_enter Try.func5, Try.ntmps5
  go_wp2_with (fail)
  go_region_with (first | (go_at_call 19; refine (HP.out _).mono ?_; rintro e1 w1 ⟨rfl, hw1⟩; subst w1) | (go_at_call 126; refine (HS.out _).mono ?_; rintro e2 w2 ⟨rfl, hw2⟩; subst w2))
  all_goals go_wp2
  all_goals (refine bodyPost_ret (v := .tuple #[.agg z8, .int .i64 1]) ?_ rfl ⟨rfl, by repeat first | exact Below.refl _ _ | refine belowD ?_ | refine belowN ?_ _ | refine bA ?_ (by first | exact Nat.le_refl _ | (simp only [World.size_alloc]; omega)) _⟩)
  all_goals simp only [results, Try.results5, asAddr, Act.put]
  all_goals go_simp
end Rn
end Go.Proofs.Ytonhmaocgfhcfaa
