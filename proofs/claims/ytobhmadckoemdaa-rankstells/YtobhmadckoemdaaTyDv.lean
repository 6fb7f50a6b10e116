import Derived.Test.YtobhmadckoemdaaTyMath
namespace Go.Proofs.Ytobhmadckoemdaa
namespace Ty
/-- The test of a guessed digit: y1 * B + y0 is the divisor, u * B + d what is divided, q the guess, r what it leaves of u by y1. -/
theorem dv_iff {B y1 y0 u d q r : Int} (hu : u = q * y1 + r) : q * (y1 * B + y0) > u * B + d ↔ q * y0 > B * r + d := by
  have h1 : q * (y1 * B + y0) = q * y1 * B + q * y0 := by rw [Int.mul_add, Int.mul_assoc]
  have h2 : u * B = q * y1 * B + B * r := by rw [hu, Int.add_mul, Int.mul_comm r B]
  rw [h1, h2]; omega
/-- A guess of B or more is too great. -/
theorem dv_big {B y u d q : Int} (hq : B ≤ q) (hu : u < y) (hu0 : 0 ≤ u) (hd : d < B) (hB : 0 < B) : q * y > u * B + d := by
  have h1 : B * y ≤ q * y := Int.mul_le_mul_of_nonneg_right hq (by omega)
  have h2 : B * (u + 1) ≤ B * y := Int.mul_le_mul_of_nonneg_left (by omega) (by omega)
  have h3 : B * (u + 1) = u * B + B := by rw [Int.mul_add, Int.mul_one, Int.mul_comm]
  omega
/-- The first guess is not too small. -/
theorem dv_low {B y1 y0 u d q : Int} (hu : u < (q + 1) * y1) (hd : d < B) (hy : 0 ≤ y0) (hq : 0 ≤ q) (hB : 0 < B) : u * B + d < (q + 1) * (y1 * B + y0) := by
  have h1 : (q + 1) * (y1 * B + y0) = (q + 1) * y1 * B + (q + 1) * y0 := by rw [Int.mul_add, Int.mul_assoc]
  have h2 : (u + 1) * B ≤ (q + 1) * y1 * B := Int.mul_le_mul_of_nonneg_right (by omega) (by omega)
  have h3 : (u + 1) * B = u * B + B := by rw [Int.add_mul, Int.one_mul]
  have h4 : 0 ≤ (q + 1) * y0 := Int.mul_nonneg (by omega) hy
  omega
/-- A guess that leaves B or more is not too great. -/
theorem dv_break {B y0 d q r : Int} (hq : q ≤ B) (hy : 0 ≤ y0) (hy1 : y0 < B) (hr : B ≤ r) (hd : 0 ≤ d) : ¬ q * y0 > B * r + d := by
  have h1 : q * y0 ≤ B * y0 := Int.mul_le_mul_of_nonneg_right hq hy
  have h2 : B * y0 ≤ B * r := Int.mul_le_mul_of_nonneg_left (by omega) (by omega)
  omega
/-- The first guess is B + 1 at most. -/
theorem dv_first {B y1 y0 u q r : Int} (hy : B ≤ 2 * y1) (hB : 0 < B) (hy1 : y0 < B) (hu : u < y1 * B + y0) (hq : u = q * y1 + r) (hr : 0 ≤ r) : q ≤ B + 1 := by
  by_cases h : q ≤ B + 1
  · exact h
  · have h1 : (B + 2) * y1 ≤ q * y1 := Int.mul_le_mul_of_nonneg_right (by omega) (by omega)
    have h2 : (B + 2) * y1 = y1 * B + 2 * y1 := by rw [Int.add_mul, Int.mul_comm B y1]
    omega
/-- A guess that is neither too great nor too small is the digit. -/
theorem dv_end {X y q : Int} (h0 : ¬ q * y > X) (h1 : X < (q + 1) * y) (hy : 0 < y) : X / y = q := by
  have h2 : (q + 1) * y = q * y + y := by rw [Int.add_mul, Int.one_mul]
  have h3 : X / y = q + (X - q * y) / y := by
    rw [← Int.mul_add_ediv_right q (X - q * y) (by omega)]; congr 1; omega
  rw [h3, Int.ediv_eq_zero_of_lt (by omega) (by omega)]; omega
/-- One guess less: what it leaves is y1 more. -/
theorem dv_step {y1 u q r : Int} (hq : u = q * y1 + r) : u = (q - 1) * y1 + (r + y1) := by
  rw [Int.sub_mul, Int.one_mul]; omega
/-- Two digits, one behind the other. -/
theorem dv_two (X d B y : Int) (hy : 0 < y) : (X * B + d) / y = X / y * B + (X % y * B + d) / y ∧ (X * B + d) % y = (X % y * B + d) % y := by
  have h : X * B + d = (X % y * B + d) + X / y * B * y := by
    have h1 := Int.mul_ediv_add_emod X y
    have h2 : X * B = y * (X / y) * B + X % y * B := by rw [← Int.add_mul, h1]
    have h3 : y * (X / y) * B = X / y * B * y := by rw [Int.mul_comm y, Int.mul_assoc, Int.mul_comm y B, ← Int.mul_assoc]
    omega
  rw [h]
  exact ⟨by rw [Int.add_mul_ediv_right _ _ (by omega)]; omega, by rw [Int.add_mul_emod_self_right]⟩
/-- Both times a power: the same quotient, and what is left times the power. -/
theorem dv_scale (X y P : Int) (hP : 0 < P) : X * P / (y * P) = X / y ∧ X * P % (y * P) / P = X % y := by
  refine ⟨Int.mul_ediv_mul_of_pos_left X y hP, ?_⟩
  rw [Int.mul_comm X P, Int.mul_comm y P, Int.mul_emod_mul_of_pos X y hP, Int.mul_comm, Int.mul_ediv_cancel _ (by omega)]
end Ty
end Go.Proofs.Ytobhmadckoemdaa
