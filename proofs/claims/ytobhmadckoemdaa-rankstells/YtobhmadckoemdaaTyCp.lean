import Derived.Test.YtobhmadckoemdaaTySg
namespace Go.Proofs.Ytobhmadckoemdaa
namespace Ty
open Go.RowKit
set_option linter.unusedVariables false
def cp (x y : Int) : Int := if x < y then -1 else if y < x then 1 else 0
theorem div_lt {A B P : Int} (hP : 0 < P) (h : A / P < B / P) : A < B := by
  by_cases h2 : A < B
  · exact h2
  · have := Int.ediv_le_ediv hP (show B ≤ A by omega); omega
theorem cp_div {A B P : Int} (hP : 0 < P) (h : ¬ A / P = B / P) : cp (A / P) (B / P) = cp A B := by
  unfold cp
  rcases Int.lt_or_gt_of_ne h with h1 | h1
  · rw [if_pos h1, if_pos (div_lt hP h1)]
  · have := div_lt hP h1
    rw [if_neg (by omega), if_pos h1, if_neg (by omega), if_pos this]
theorem cp_zero {x y : Int} : cp x y = 0 ↔ x = y := by unfold cp; split <;> try split
                                                       all_goals omega
/-- One word more. -/
theorem div_step (A : Int) (j : Nat) : A / 2 ^ (64 * j) = A / 2 ^ (64 * (j + 1)) * 18446744073709551616 + wd A j := by
  unfold wd
  rw [show 64 * (j + 1) = 64 * j + 64 from by omega, Int.pow_add, two64, ← Int.ediv_ediv_of_nonneg (Int.le_of_lt (pw _))]
  generalize A / 2 ^ (64 * j) = q
  omega
theorem cp_step (A B : Int) (j : Nat) (h : A / 2 ^ (64 * (j + 1)) = B / 2 ^ (64 * (j + 1))) : cp (wd A j) (wd B j) = cp (A / 2 ^ (64 * j)) (B / 2 ^ (64 * j)) := by
  rw [div_step A j, div_step B j, h]
  unfold cp
  generalize B / 2 ^ (64 * (j + 1)) * 18446744073709551616 = t
  have e1 : (t + wd A j < t + wd B j) ↔ (wd A j < wd B j) := ⟨fun h => by omega, fun h => by omega⟩
  have e2 : (t + wd B j < t + wd A j) ↔ (wd B j < wd A j) := ⟨fun h => by omega, fun h => by omega⟩
  simp only [e1, e2]
end Ty
end Go.Proofs.Ytobhmadckoemdaa
