import Derived.Test.YtobhmadckoemdaaTyA
import Derived.Laws.MathBits
namespace Go.Proofs.Ytobhmadckoemdaa
namespace Ty
open Go.RowKit
set_option linter.unusedVariables false
theorem ret_two {k1 k2 : IntKind} {a b c d : Int} (h : a = c) (h2 : b = d) : Ending.returned (.tuple #[.int k1 a, .int k2 b]) = .returned (.tuple #[.int k1 c, .int k2 d]) := by rw [h, h2]
theorem and32 (x : Int) (h0 : 0 ≤ x) (h1 : x < 18446744073709551616) : bits .and .u64 x 4294967295 = x % 4294967296 := by
  rw [u64_and x 4294967295 h0 h1 (by omega) (by omega)]
  obtain ⟨n, rfl⟩ := Int.eq_ofNat_of_zero_le h0
  have e : n &&& (2 ^ 32 - 1) = n % 2 ^ 32 := Nat.and_two_pow_sub_one_eq_mod n 32
  have e2 : (4294967295 : Int).toNat = 2 ^ 32 - 1 := by decide
  rw [e2, Int.toNat_natCast, e]; simp
/-- What a product by y carries into word i. -/
def cm (A y : Int) (i : Nat) : Int := A % 2 ^ (64 * i) * y / 2 ^ (64 * i)
theorem cm_zero (A y : Int) : cm A y 0 = 0 := by unfold cm; simp [Int.emod_one]
theorem cm_b (A y : Int) (i : Nat) (h0 : 0 ≤ y) (h1 : y < 18446744073709551616) : 0 ≤ cm A y i ∧ cm A y i < 18446744073709551616 := by
  unfold cm
  have hP := pw (64 * i)
  generalize (2 : Int) ^ (64 * i) = P at *
  have r1 := Int.emod_nonneg A (Int.ne_of_gt hP)
  have r2 := Int.emod_lt_of_pos A hP
  refine ⟨Int.ediv_nonneg (Int.mul_nonneg r1 h0) (by omega), Int.ediv_lt_of_lt_mul hP ?_⟩
  have h3 : A % P * y ≤ A % P * 18446744073709551615 := Int.mul_le_mul_of_nonneg_left (by omega) r1
  omega
theorem mul_step (A y : Int) (i : Nat) : (wd A i * y + cm A y i) % 18446744073709551616 = wd (A * y) i ∧ (wd A i * y + cm A y i) / 18446744073709551616 = cm A y (i + 1) := by
  unfold wd cm
  have e1 : (2 : Int) ^ (64 * (i + 1)) = 2 ^ (64 * i) * 18446744073709551616 := by rw [← two64, ← Int.pow_add]; congr 1
  rw [e1]
  have hP := pw (64 * i)
  generalize (2 : Int) ^ (64 * i) = P at *
  have ea := split P A hP
  have ec := split P (A % P * y) hP
  have r1 := Int.emod_nonneg (A % P * y) (Int.ne_of_gt hP)
  have r2 := Int.emod_lt_of_pos (A % P * y) hP
  rw [low_succ P _ A hP (by decide)]
  constructor
  · have e3 : A * y / P = A / P * y + A % P * y / P := by
      have e4 : A * y = A % P * y + P * (A / P * y) := by
        have : A * y = (P * (A / P) + A % P) * y := by rw [← ea]
        rw [this, Int.add_mul, Int.mul_assoc]; omega
      rw [e4, Int.add_mul_ediv_left _ _ (Int.ne_of_gt hP)]; omega
    rw [e3]
    have e5 : A / P % 18446744073709551616 * y + A % P * y / P = A / P * y + A % P * y / P + 18446744073709551616 * (-(A / P / 18446744073709551616) * y) := by
      have h := Int.mul_ediv_add_emod (A / P) 18446744073709551616
      have h2 : A / P * y = (18446744073709551616 * (A / P / 18446744073709551616) + A / P % 18446744073709551616) * y := by rw [h]
      rw [Int.neg_mul, Int.mul_neg, ← Int.mul_assoc]
      rw [Int.add_mul] at h2; omega
    rw [e5, Int.add_mul_emod_self_left]
  · have e3 : (P * (A / P % 18446744073709551616) + A % P) * y = P * (A / P % 18446744073709551616 * y + A % P * y / P) + A % P * y % P := by
      rw [Int.add_mul, Int.mul_add, Int.mul_assoc]; omega
    rw [e3, div_mul P _ _ _ hP r1 r2 (by decide)]
end Ty
end Go.Proofs.Ytobhmadckoemdaa
