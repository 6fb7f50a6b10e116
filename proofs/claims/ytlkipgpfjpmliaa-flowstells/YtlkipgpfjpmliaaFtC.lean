import Derived.Test.YtlkipgpfjpmliaaFtA
import Derived.Deep.RegionWith
namespace Go.Proofs.Ytlkipgpfjpmliaa
namespace Ft
open Go.RowKit
set_option linter.unusedVariables false
set_option maxRecDepth 8000
set_option maxHeartbeats 4000000 in
theorem tellsBBA (s : Nat → Int) (p0 : 0 ≤ s 0) (q0 : s 0 ≤ 18446744073709551615) (p1 : 0 ≤ s 1) (q1 : s 1 ≤ 18446744073709551615) (h0 : ¬ s 0 = 18446744073709551615) (h1 : 4294967295 < s 1) (l0 : s 0 ≤ 4294967295) (d0 : ¬ s 1 = 0) (w : World) : Calls Try.prog 3 #[.agg (sv s)] w fun e w' => e = .returned (.bool true) ∧ Below w.heap.size w w' := by
  have H1 := hide (hops_no s (.inr h1))
  have H2 := hide (label_yes s p0 l0)
  have H3 := hide (dist_no s (.inl d0))
  have b0 : (s 0 != 18446744073709551615) = true := by simp [h0]
  clear h0
  have b1 : (s 1 == 0) = false := by simp [d0]
  clear d0
  go_enter Try.func3, Try.ntmps3
  go_wp2_with (fail)
  refine (H1.out _).mono ?_
  rintro e1 w1 ⟨rfl, rfl⟩
  go_wp2_with (fail)
  refine (H2.out _).mono ?_
  rintro e2 w2 ⟨rfl, rfl⟩
  go_wp2_with (fail)
  refine (H3.out _).mono ?_
  rintro e3 w3 ⟨rfl, rfl⟩
  go_wp2_with (fail)
  go_region_with (go_at_call 9; refine (neg_any s _).mono ?_; rintro e4 w4 ⟨rfl, rfl⟩)
  all_goals go_wp2
  all_goals go_ret
  all_goals exact ⟨ret_bool (by simp), by repeat first | exact Below.refl _ _ | refine belowD ?_ | refine belowN ?_ _ | refine bA ?_ (by first | exact Nat.le_refl _ | (simp only [World.size_alloc]; omega) | (simp only [World.size_alloc, World.size_drew]; omega)) _⟩
set_option maxHeartbeats 4000000 in
theorem tellsCAA (s : Nat → Int) (p0 : 0 ≤ s 0) (q0 : s 0 ≤ 18446744073709551615) (p1 : 0 ≤ s 1) (q1 : s 1 ≤ 18446744073709551615) (h0 : ¬ s 0 = 18446744073709551615) (h1 : s 1 ≤ 4294967295) (l0 : 4294967295 < s 0) (d0 : ¬ s 1 = 0) (w : World) : Calls Try.prog 3 #[.agg (sv s)] w fun e w' => e = .returned (.bool true) ∧ Below w.heap.size w w' := by
  have H1 := hide (hops_yes s h0 p1 h1)
  have H2 := hide (label_no s l0)
  have H3 := hide (dist_no s (.inl d0))
  have b0 : (s 0 != 18446744073709551615) = true := by simp [h0]
  clear h0
  have b1 : (s 1 == 0) = false := by simp [d0]
  clear d0
  go_enter Try.func3, Try.ntmps3
  go_wp2_with (fail)
  refine (H1.out _).mono ?_
  rintro e1 w1 ⟨rfl, rfl⟩
  go_wp2_with (fail)
  refine (H2.out _).mono ?_
  rintro e2 w2 ⟨rfl, rfl⟩
  go_wp2_with (fail)
  refine (H3.out _).mono ?_
  rintro e3 w3 ⟨rfl, rfl⟩
  go_wp2_with (fail)
  go_region_with (go_at_call 9; refine (neg_any s _).mono ?_; rintro e4 w4 ⟨rfl, rfl⟩)
  all_goals go_wp2
  all_goals go_ret
  all_goals exact ⟨ret_bool (by simp), by repeat first | exact Below.refl _ _ | refine belowD ?_ | refine belowN ?_ _ | refine bA ?_ (by first | exact Nat.le_refl _ | (simp only [World.size_alloc]; omega) | (simp only [World.size_alloc, World.size_drew]; omega)) _⟩
set_option maxHeartbeats 4000000 in
theorem tellsCAB (s : Nat → Int) (p0 : 0 ≤ s 0) (q0 : s 0 ≤ 18446744073709551615) (p1 : 0 ≤ s 1) (q1 : s 1 ≤ 18446744073709551615) (h0 : ¬ s 0 = 18446744073709551615) (h1 : s 1 ≤ 4294967295) (l0 : 4294967295 < s 0) (d0 : s 1 = 0) (d1 : s 0 = 9223372036854775807) (w : World) : Calls Try.prog 3 #[.agg (sv s)] w fun e w' => e = .returned (.bool true) ∧ Below w.heap.size w w' := by
  have H1 := hide (hops_yes s h0 p1 h1)
  have H2 := hide (label_no s l0)
  have H3 := hide (dist_no s (.inr d1))
  have b0 : (s 0 != 18446744073709551615) = true := by simp [h0]
  clear h0
  have b1 : (s 1 == 0) = true := by simp [d0]
  have b2 : (s 0 != 9223372036854775807) = false := by simp [d1]
  clear d0 d1
  go_enter Try.func3, Try.ntmps3
  go_wp2_with (fail)
  refine (H1.out _).mono ?_
  rintro e1 w1 ⟨rfl, rfl⟩
  go_wp2_with (fail)
  refine (H2.out _).mono ?_
  rintro e2 w2 ⟨rfl, rfl⟩
  go_wp2_with (fail)
  refine (H3.out _).mono ?_
  rintro e3 w3 ⟨rfl, rfl⟩
  go_wp2_with (fail)
  go_region_with (go_at_call 9; refine (neg_any s _).mono ?_; rintro e4 w4 ⟨rfl, rfl⟩)
  all_goals go_wp2
  all_goals go_ret
  all_goals exact ⟨ret_bool (by simp), by repeat first | exact Below.refl _ _ | refine belowD ?_ | refine belowN ?_ _ | refine bA ?_ (by first | exact Nat.le_refl _ | (simp only [World.size_alloc]; omega) | (simp only [World.size_alloc, World.size_drew]; omega)) _⟩
end Ft
end Go.Proofs.Ytlkipgpfjpmliaa
