import Derived.Test.YtbnmjmlcedkoaabGreatDoorTyDi
import Derived.Test.YtbnmjmlcedkoaabGreatDoorTyTm
namespace Go.Proofs.YtbnmjmlcedkoaabGreatDoor
namespace Ty
open Go.RowKit
set_option linter.unusedVariables false
/-- What is left behind i digits behind the point, in units. -/
def fr (N : Int) (i : Nat) : Int := N * 10 ^ i % 2 ^ 149
theorem fr_b (N : Int) (i : Nat) : 0 ≤ fr N i ∧ fr N i < 2 ^ 149 := by
  have h := pw 149
  exact ⟨Int.emod_nonneg _ (Int.ne_of_gt h), Int.emod_lt_of_pos _ h⟩
theorem fr_step (N : Int) (i : Nat) : fr N (i + 1) + dB N i * 2 ^ 149 = fr N i * 10 := by
  have h149 := pw 149
  have h235 := pw 235
  have e384 : (2 : Int) ^ (64 * 6) = 2 ^ 149 * 2 ^ 235 := by rw [← Int.pow_add]
  have e1 : dB N i = fr N i * 10 / 2 ^ 149 := by
    unfold dB cm fr
    rw [e384, show N * 2 ^ 235 * 10 ^ i = 2 ^ 235 * (N * 10 ^ i) by rw [Int.mul_comm N, Int.mul_assoc], Int.mul_comm (2 ^ 149) (2 ^ 235)]
    rw [Int.mul_emod_mul_of_pos _ _ h235, Int.mul_assoc, Int.mul_ediv_mul_of_pos _ _ h235]
  have e2 : fr N (i + 1) = fr N i * 10 % 2 ^ 149 := by
    unfold fr
    rw [Int.pow_succ, ← Int.mul_assoc, Int.mul_emod (N * 10 ^ i) 10, Int.mul_emod (N * 10 ^ i % 2 ^ 149) 10, Int.emod_emod_of_dvd _ (Int.dvd_refl _)]
  rw [e1, e2]
  have := Int.emod_add_mul_ediv (fr N i * 10) (2 ^ 149)
  rw [Int.mul_comm (2 ^ 149)] at this
  exact this
theorem fr_zero (N : Int) : fr N 0 = N % 2 ^ 149 := by unfold fr; rw [Int.pow_zero, Int.mul_one]
theorem fr_end (N : Int) : fr N 149 = 0 := by
  unfold fr
  rw [show (10 : Int) = 2 * 5 from rfl, Int.mul_pow, Int.mul_comm (2 ^ 149), ← Int.mul_assoc, Int.mul_emod_left]
/-- The first digits ahead of the point. -/
def pre (N : Int) (k : Nat) : Int := N / 2 ^ 149 / 10 ^ (71 - k)
theorem pre_step (N : Int) (k : Nat) (h : k < 71) : pre N (k + 1) = pre N k * 10 + dA N (70 - k) := by
  unfold pre dA
  have e : (10 : Int) ^ (71 - k) = 10 ^ (70 - k) * 10 := by rw [show 71 - k = (70 - k) + 1 by omega, Int.pow_succ]
  rw [show 71 - (k + 1) = 70 - k by omega, e, ← Int.ediv_ediv_of_nonneg (Int.pow_nonneg (by omega))]
  generalize N / 2 ^ 149 / 10 ^ (70 - k) = x
  omega
theorem pre_end (N : Int) : pre N 71 = N / 2 ^ 149 := by unfold pre; simp
theorem pre_zero (N : Int) (n0 : 0 ≤ N) (n1 : N ≤ 2 ^ 383) : pre N 0 = 0 := by
  unfold pre
  have h149 := pw 149
  refine Int.ediv_eq_zero_of_lt (Int.ediv_nonneg n0 (by omega)) (Int.ediv_lt_of_lt_mul h149 ?_)
  have e : (2 : Int) ^ 383 = 2 ^ 234 * 2 ^ 149 := by rw [← Int.pow_add]
  have h10 : (2 : Int) ^ 234 < 10 ^ 71 := by decide
  rw [e] at n1
  refine Int.lt_of_le_of_lt n1 ?_
  exact Int.mul_lt_mul_of_pos_right h10 h149
/-- The digits as bytes. -/
def dL (N : Int) : List UInt8 := (List.range 220).map fun j => UInt8.ofNat (dgt N j).toNat
theorem dgt_b (N : Int) (j : Nat) : 48 ≤ dgt N j ∧ dgt N j ≤ 57 := by
  unfold dgt
  split
  · have := dA_b N (70 - j); omega
  · have := dB_b N (j - 71); omega
theorem dL_len (N : Int) : (dL N).length = 220 := by simp [dL]
theorem u8_of (x : Int) (h0 : 0 ≤ x) (h1 : x ≤ 255) : ((UInt8.ofNat x.toNat).toNat : Int) = x := by
  rw [UInt8.toNat_ofNat']
  rw [Nat.mod_eq_of_lt (by omega)]
  omega
theorem dL_get (N : Int) (j : Nat) (h : j < 220) : ((((dL N).getD j 0).toNat : Nat) : Int) = dgt N j := by
  have e : (dL N).getD j 0 = UInt8.ofNat (dgt N j).toNat := by simp [dL, List.getD, h]
  rw [e]
  have := dgt_b N j
  exact u8_of _ (by omega) (by omega)
theorem dL_dg (N : Int) : Dg (dL N) := by
  intro b hb
  obtain ⟨j, hj, rfl⟩ := List.mem_map.1 hb
  have h := dgt_b N j
  have e := u8_of (dgt N j) (by omega) (by omega)
  omega
/-- Bytes as cells. -/
def dv (T : List UInt8) : Array Value := (T.map fun b => Value.int .u8 b.toNat).toArray
theorem dv_dL (N : Int) : dv (dL N) = dgs N := by
  apply Array.ext_getElem?
  intro i
  by_cases hi : i < 220
  · rw [dgs_get N i hi, ← dL_get N i hi]
    simp [dv, List.getD, dL, hi]
  · rw [Array.getElem?_eq_none (by simp [dv, dL_len]; omega), Array.getElem?_eq_none (by rw [dgs_size]; omega)]
end Ty
end Go.Proofs.YtbnmjmlcedkoaabGreatDoor
