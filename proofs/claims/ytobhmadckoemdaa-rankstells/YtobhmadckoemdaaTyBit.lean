import Derived.Test.YtobhmadckoemdaaTyNum
namespace Go.Proofs.Ytobhmadckoemdaa
namespace Ty
open Go.RowKit
set_option linter.unusedVariables false
def bit (N : Int) (i : Nat) : Int := N / 2 ^ i % 2
theorem bit_dg (N : Int) (i : Nat) : bit N i = dg 1 N i := by unfold bit dg; rw [Nat.one_mul]; rfl
theorem bit_b (N : Int) (i : Nat) : 0 ≤ bit N i ∧ bit N i ≤ 1 := by unfold bit; omega
theorem bit_add (A B : Int) (i : Nat) : (bit A i + bit B i + cr 1 A B i) % 2 = bit (A + B) i ∧ (bit A i + bit B i + cr 1 A B i) / 2 = cr 1 A B (i + 1) := by
  have h := add_step 1 A B i
  rw [bit_dg, bit_dg, bit_dg]; exact h
theorem bit_not (A : Int) (i : Nat) : 1 - bit A i = bit (-A - 1) i := by
  unfold bit
  have hP := pw i
  generalize (2 : Int) ^ i = P at *
  have e : (-A - 1) / P = -(A / P) - 1 := by
    have h1 := Int.mul_ediv_add_emod A P
    have r1 := Int.emod_nonneg A (Int.ne_of_gt hP)
    have r2 := Int.emod_lt_of_pos A hP
    have e2 : -A - 1 = (P - 1 - A % P) + P * (-(A / P) - 1) := by rw [Int.mul_sub, Int.mul_neg]; omega
    rw [e2, Int.add_mul_ediv_left _ _ (Int.ne_of_gt hP), Int.ediv_eq_zero_of_lt (by omega) (by omega)]; omega
  rw [e]; omega
/-- Of a number without what is above: a bit of it. -/
theorem mod_div (X : Int) (r m : Nat) (h : r < m) : X % 2 ^ m / 2 ^ r % 2 = X / 2 ^ r % 2 := by
  have e : (2 : Int) ^ m = 2 ^ r * (2 * 2 ^ (m - r - 1)) := by
    rw [show (2 : Int) * 2 ^ (m - r - 1) = 2 ^ (m - r - 1 + 1) from by rw [Int.pow_succ, Int.mul_comm], ← Int.pow_add]; congr 1; omega
  rw [e]
  have hP := pw r
  have hR := pw (m - r - 1)
  generalize (2 : Int) ^ r = P at *
  generalize (2 : Int) ^ (m - r - 1) = R at *
  rw [low_succ P (2 * R) X hP (by omega), Int.add_comm, Int.add_mul_ediv_left _ _ (Int.ne_of_gt hP), Int.ediv_eq_zero_of_lt (Int.emod_nonneg _ (Int.ne_of_gt hP)) (Int.emod_lt_of_pos _ hP), Int.zero_add]
  rw [Int.emod_emod_of_dvd _ (Int.dvd_mul_right _ _)]
theorem bit_wd (A : Int) (i : Nat) : wd A (i / 64) / 2 ^ (i % 64) % 2 = bit A i := by
  unfold wd bit
  rw [← two64, mod_div _ _ 64 (Nat.mod_lt _ (by omega)), Int.ediv_ediv_of_nonneg (Int.le_of_lt (pw _)), ← Int.pow_add, Nat.div_add_mod]
theorem bit_mod (A : Int) (i m : Nat) (h : i < m) : bit (A % 2 ^ m) i = bit A i := by unfold bit; exact mod_div A i m h
theorem low_bit (N : Int) (k : Nat) : N % 2 ^ (k + 1) = 2 ^ k * bit N k + N % 2 ^ k := by
  unfold bit
  rw [Int.pow_succ, low_succ _ 2 N (pw k) (by decide)]
theorem wd_low (N : Int) (k j : Nat) (h : j ≠ k / 64) : wd (N % 2 ^ (k + 1)) j = wd (N % 2 ^ k) j := by
  rw [low_bit]
  have hb := bit_b N k
  generalize bit N k = b at *
  have hl0 := Int.emod_nonneg N (Int.ne_of_gt (pw k))
  have hl1 := Int.emod_lt_of_pos N (pw k)
  generalize N % 2 ^ k = L at *
  unfold wd
  by_cases hj : j < k / 64
  · have e : (2 : Int) ^ k = 2 ^ (64 * j) * (18446744073709551616 * 2 ^ (k - 64 * (j + 1))) := by
      rw [← two64, ← Int.pow_add, ← Int.pow_add]; congr 1; omega
    rw [e, Int.mul_assoc, Int.add_comm, Int.add_mul_ediv_left _ _ (Int.ne_of_gt (pw _)), Int.mul_assoc, Int.add_mul_emod_self_left]
  · have e : (2 : Int) ^ (64 * j) = 2 ^ (k + 1) * 2 ^ (64 * j - (k + 1)) := by rw [← Int.pow_add]; congr 1; omega
    have hk : (2 : Int) ^ (k + 1) = 2 * 2 ^ k := by rw [Int.pow_succ]; omega
    have h1 : L < 2 ^ (64 * j) := by
      rw [e, hk]
      have : (2 * 2 ^ k) * 1 ≤ (2 * (2 : Int) ^ k) * 2 ^ (64 * j - (k + 1)) := Int.mul_le_mul_of_nonneg_left (by have := pw (64 * j - (k + 1)); omega) (by omega)
      omega
    have h2 : 2 ^ k * b + L < 2 ^ (64 * j) := by
      rw [e, hk]
      have : (2 * 2 ^ k) * 1 ≤ (2 * (2 : Int) ^ k) * 2 ^ (64 * j - (k + 1)) := Int.mul_le_mul_of_nonneg_left (by have := pw (64 * j - (k + 1)); omega) (by omega)
      have : 2 ^ k * b ≤ (2 : Int) ^ k * 1 := Int.mul_le_mul_of_nonneg_left hb.2 (by omega)
      omega
    rw [Int.ediv_eq_zero_of_lt hl0 h1, Int.ediv_eq_zero_of_lt (Int.add_nonneg (Int.mul_nonneg (Int.le_of_lt (pw k)) hb.1) hl0) h2]
theorem wd_at (N : Int) (k : Nat) : wd (N % 2 ^ k) (k / 64) < 2 ^ (k % 64) ∧ wd (N % 2 ^ (k + 1)) (k / 64) = 2 ^ (k % 64) * bit N k + wd (N % 2 ^ k) (k / 64) := by
  rw [low_bit]
  have hb := bit_b N k
  generalize bit N k = b at *
  have hl0 := Int.emod_nonneg N (Int.ne_of_gt (pw k))
  have hl1 := Int.emod_lt_of_pos N (pw k)
  generalize N % 2 ^ k = L at *
  unfold wd
  have e : (2 : Int) ^ k = 2 ^ (64 * (k / 64)) * 2 ^ (k % 64) := by rw [← Int.pow_add]; congr 1; omega
  rw [e, Int.mul_assoc, Int.add_comm (2 ^ (64 * (k / 64)) * _) L, Int.add_mul_ediv_left _ _ (Int.ne_of_gt (pw _))]
  rw [e] at hl1
  have hP := pw (64 * (k / 64))
  have h1 : L / 2 ^ (64 * (k / 64)) < 2 ^ (k % 64) := Int.ediv_lt_of_lt_mul hP (by rw [Int.mul_comm]; exact hl1)
  have h2 : 0 ≤ L / 2 ^ (64 * (k / 64)) := Int.ediv_nonneg hl0 (by omega)
  generalize L / 2 ^ (64 * (k / 64)) = x at *
  have h3 : (2 : Int) ^ (k % 64) * 2 ≤ 18446744073709551616 := by
    rw [← Int.pow_succ, ← two64]
    have : 2 ^ (k % 64 + 1) ≤ 2 ^ 64 := Nat.pow_le_pow_right (by omega) (by omega)
    exact_mod_cast this
  have hp := pw (k % 64)
  have h4 : (2 : Int) ^ (k % 64) * b ≤ 2 ^ (k % 64) * 1 := Int.mul_le_mul_of_nonneg_left hb.2 (by omega)
  have h5 : 0 ≤ (2 : Int) ^ (k % 64) * b := Int.mul_nonneg (by omega) hb.1
  rw [Int.emod_eq_of_lt h2 (by omega), Int.emod_eq_of_lt (by omega) (by omega)]
  exact ⟨h1, by omega⟩
theorem or_pow (x : Int) (p : Nat) (h0 : 0 ≤ x) (h1 : x < 2 ^ p) (hp : p < 64) : bits .or .u64 x (2 ^ p) = 2 ^ p + x := by
  have hP := pw p
  have hP2 : (2 : Int) ^ p < 18446744073709551616 := by
    rw [← two64]
    have : 2 ^ p < 2 ^ 64 := Nat.pow_lt_pow_right (by omega) (by omega)
    exact_mod_cast this
  have hc : bits .or .u64 x (2 ^ p) = bits .or .u64 (2 ^ p) x := by
    rw [u64_or _ _ h0 (by omega) (by omega) hP2, u64_or _ _ (by omega) hP2 h0 (by omega), Nat.or_comm]
  rw [hc, bits_join .u64 64 (by decide) (fun n a b => by rw [IntKind.wrap_u64]; omega) p _ _ (by omega) (by simp) (by simpa using hP2) h0 h1 (by
    have : (2 : Int) ^ p * 2 ≤ 18446744073709551616 := by
      rw [← Int.pow_succ, ← two64]
      have : 2 ^ (p + 1) ≤ 2 ^ 64 := Nat.pow_le_pow_right (by omega) (by omega)
      exact_mod_cast this
    simp; omega)]
theorem bit_zero_up (N : Int) (i m : Nat) (h0 : 0 ≤ N) (h1 : N < 2 ^ m) (h : m ≤ i) : bit N i = 0 := by
  unfold bit
  have : (2 : Int) ^ m ≤ 2 ^ i := by exact_mod_cast Nat.pow_le_pow_right (by omega : 0 < 2) h
  rw [Int.ediv_eq_zero_of_lt h0 (by omega)]; rfl
theorem bit_shift (m : Int) (s i : Nat) : bit (m * 2 ^ s) (s + i) = bit m i := by
  unfold bit
  rw [Int.pow_add, ← Int.ediv_ediv_of_nonneg (Int.le_of_lt (pw s)), Int.mul_ediv_cancel _ (Int.ne_of_gt (pw s))]
theorem bit_shift_low (m : Int) (s i : Nat) (h : i < s) : bit (m * 2 ^ s) i = 0 := by
  unfold bit
  have e : (2 : Int) ^ s = 2 ^ i * (2 * 2 ^ (s - i - 1)) := by
    rw [show (2 : Int) * 2 ^ (s - i - 1) = 2 ^ (s - i - 1 + 1) from by rw [Int.pow_succ, Int.mul_comm], ← Int.pow_add]; congr 1; omega
  rw [e, show m * (2 ^ i * (2 * 2 ^ (s - i - 1))) = (m * (2 * 2 ^ (s - i - 1))) * 2 ^ i from by rw [Int.mul_comm (2 ^ i), ← Int.mul_assoc], Int.mul_ediv_cancel _ (Int.ne_of_gt (pw i))]
  rw [show m * (2 * 2 ^ (s - i - 1)) = 2 * (m * 2 ^ (s - i - 1)) from by rw [← Int.mul_assoc, Int.mul_comm m 2, Int.mul_assoc], Int.mul_emod_right]
end Ty
end Go.Proofs.Ytobhmadckoemdaa
