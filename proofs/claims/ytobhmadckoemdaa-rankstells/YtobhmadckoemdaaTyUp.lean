import Derived.Test.YtobhmadckoemdaaTyBit
namespace Go.Proofs.Ytobhmadckoemdaa
namespace Ty
open Go.RowKit
set_option linter.unusedVariables false
/-- What a shift by p carries into word j. -/
def lo (A : Int) (p j : Nat) : Int := A % 2 ^ (64 * j) * 2 ^ p / 2 ^ (64 * j)
theorem lo_zero (A : Int) (p : Nat) : lo A p 0 = 0 := by unfold lo; simp [Int.emod_one]
theorem lo_b (A : Int) (p j : Nat) : 0 ≤ lo A p j ∧ lo A p j < 2 ^ p := by
  unfold lo
  have hP := pw (64 * j)
  have hp := pw p
  have r1 := Int.emod_nonneg A (Int.ne_of_gt hP)
  have r2 := Int.emod_lt_of_pos A hP
  refine ⟨Int.ediv_nonneg (Int.mul_nonneg r1 (by omega)) (by omega), Int.ediv_lt_of_lt_mul hP ?_⟩
  rw [Int.mul_comm (2 ^ p)]
  exact Int.mul_lt_mul_of_pos_right r2 hp
theorem lo_succ (A : Int) (p j : Nat) (hp : p < 64) : wd A j / 2 ^ (64 - p) = lo A p (j + 1) := by
  unfold lo wd
  have e1 : (2 : Int) ^ (64 * (j + 1)) = 2 ^ (64 * j) * 18446744073709551616 := by rw [← two64, ← Int.pow_add]; congr 1
  have e2 : (2 : Int) ^ (64 * (j + 1)) = 2 ^ (64 * j) * 2 ^ (64 - p) * 2 ^ p := by rw [← Int.pow_add, ← Int.pow_add]; congr 1; omega
  have e3 : A % 2 ^ (64 * (j + 1)) * 2 ^ p / 2 ^ (64 * (j + 1)) = A % 2 ^ (64 * (j + 1)) / (2 ^ (64 * j) * 2 ^ (64 - p)) := by
    rw [show A % 2 ^ (64 * (j + 1)) * 2 ^ p / 2 ^ (64 * (j + 1)) = A % 2 ^ (64 * (j + 1)) * 2 ^ p / (2 ^ (64 * j) * 2 ^ (64 - p) * 2 ^ p) from by rw [← e2]]
    exact Int.mul_ediv_mul_of_pos_left _ _ (pw p)
  rw [e3, e1, ← Int.ediv_ediv_of_nonneg (Int.le_of_lt (pw _)), low_succ _ _ A (pw _) (by decide)]
  congr 1
  rw [Int.add_comm, Int.add_mul_ediv_left _ _ (Int.ne_of_gt (pw _)), Int.ediv_eq_zero_of_lt (Int.emod_nonneg _ (Int.ne_of_gt (pw _))) (Int.emod_lt_of_pos _ (pw _)), Int.zero_add]
theorem shl_mod (q l : Int) (p : Nat) (hp : p < 64) (h0 : 0 ≤ l) (h1 : l < 2 ^ p) : (2 ^ p * q + l) % 18446744073709551616 = (q % 18446744073709551616 * 2 ^ p) % 18446744073709551616 + l ∧ bits .or .u64 ((q % 18446744073709551616 * 2 ^ p) % 18446744073709551616) l = (q % 18446744073709551616 * 2 ^ p) % 18446744073709551616 + l := by
  have e : (18446744073709551616 : Int) = 2 ^ p * 2 ^ (64 - p) := by rw [← two64, ← Int.pow_add]; congr 1; omega
  have hP := pw p
  have hR := pw (64 - p)
  have h2 : (q % 18446744073709551616 * 2 ^ p) % 18446744073709551616 = 2 ^ p * (q % 2 ^ (64 - p)) := by
    rw [e, Int.mul_comm _ (2 ^ p), Int.mul_emod_mul_of_pos _ _ hP, Int.emod_emod_of_dvd _ (Int.dvd_mul_left _ _)]
  rw [h2]
  have q0 := Int.emod_nonneg q (Int.ne_of_gt hR)
  have q1 := Int.emod_lt_of_pos q hR
  have h3 : 2 ^ p * (q % 2 ^ (64 - p)) + 2 ^ p ≤ 18446744073709551616 := by
    have : (2 : Int) ^ p * (q % 2 ^ (64 - p) + 1) ≤ 2 ^ p * 2 ^ (64 - p) := Int.mul_le_mul_of_nonneg_left (by omega) (by omega)
    rw [Int.mul_add, ← e] at this; omega
  have h4 : (0 : Int) ≤ 2 ^ p * (q % 2 ^ (64 - p)) := Int.mul_nonneg (by omega) q0
  constructor
  · rw [e, low_succ _ _ _ hP hR]
    rw [Int.add_comm (2 ^ p * q) l, Int.add_mul_ediv_left _ _ (Int.ne_of_gt hP), Int.ediv_eq_zero_of_lt h0 h1, Int.zero_add, Int.add_mul_emod_self_left, Int.emod_eq_of_lt h0 h1]
  · rw [bits_join .u64 64 (by decide) (fun n a b => by rw [IntKind.wrap_u64]; omega) p _ _ h4 (by simp) (by simp; omega) h0 h1 (by simp; omega)]
theorem up_word (A : Int) (p j W k : Nat) (hp : p < 64) (hk : k = 64 * W + p) : bits .or .u64 ((wd A j * 2 ^ p) % 18446744073709551616) (lo A p j) = wd (A * 2 ^ k) (W + j) := by
  have hl := lo_b A p j
  have h := shl_mod (A / 2 ^ (64 * j)) (lo A p j) p hp hl.1 hl.2
  show bits .or .u64 ((A / 2 ^ (64 * j) % 18446744073709551616 * 2 ^ p) % 18446744073709551616) (lo A p j) = A * 2 ^ k / 2 ^ (64 * (W + j)) % 18446744073709551616
  rw [h.2, ← h.1]
  congr 1
  have e1 : (2 : Int) ^ k = 2 ^ p * 2 ^ (64 * W) := by rw [← Int.pow_add, hk, Nat.add_comm]
  have e2 : (2 : Int) ^ (64 * (W + j)) = 2 ^ (64 * j) * 2 ^ (64 * W) := by rw [← Int.pow_add]; congr 1; omega
  rw [e1, e2, ← Int.mul_assoc, Int.mul_ediv_mul_of_pos_left _ _ (pw _)]
  unfold lo
  have hP := pw (64 * j)
  have ea := split (2 ^ (64 * j)) A hP
  generalize (2 : Int) ^ (64 * j) = P at *
  have e3 : A * 2 ^ p = A % P * 2 ^ p + P * (2 ^ p * (A / P)) := by
    have : A * 2 ^ p = (P * (A / P) + A % P) * 2 ^ p := by rw [← ea]
    rw [this, Int.add_mul, Int.mul_assoc, Int.mul_comm (A / P)]; omega
  rw [e3, Int.add_mul_ediv_left _ _ (Int.ne_of_gt hP)]; omega
theorem up_low (A : Int) (k j : Nat) (h : j < k / 64) : wd (A * 2 ^ k) j = 0 := by
  unfold wd
  have e : (2 : Int) ^ k = 2 ^ (64 * j) * (18446744073709551616 * 2 ^ (k - 64 * (j + 1))) := by
    rw [← two64, ← Int.pow_add, ← Int.pow_add]; congr 1; omega
  rw [e, show A * (2 ^ (64 * j) * (18446744073709551616 * 2 ^ (k - 64 * (j + 1)))) = 2 ^ (64 * j) * (A * (18446744073709551616 * 2 ^ (k - 64 * (j + 1)))) from by rw [← Int.mul_assoc, Int.mul_comm A, Int.mul_assoc], Int.mul_ediv_cancel_left _ (Int.ne_of_gt (pw _))]
  rw [show A * (18446744073709551616 * 2 ^ (k - 64 * (j + 1))) = 18446744073709551616 * (A * 2 ^ (k - 64 * (j + 1))) from by rw [← Int.mul_assoc, Int.mul_comm A, Int.mul_assoc], Int.mul_emod_right]
end Ty
end Go.Proofs.Ytobhmadckoemdaa
