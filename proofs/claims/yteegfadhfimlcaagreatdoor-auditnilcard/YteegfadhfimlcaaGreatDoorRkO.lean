import Derived.Test.YteegfadhfimlcaaGreatDoorNzA
import Ieee.Arith
namespace Go.Proofs.YteegfadhfimlcaaGreatDoor
namespace Fl
open Go.RowKit Ieee
set_option linter.unusedVariables false
theorem c_sw : single.signWeight = 2147483648 := by decide
theorem c_bi : single.binade = 8388608 := by decide
theorem c_in : single.infRung = 2139095040 := by decide
theorem c_lp : single.leastPlace = -149 := by decide
theorem c_fb : single.fractionBits = 23 := by decide
/-- What a word stands for, written out. -/
theorem rd (w : Nat) : single.read w = if w % 2147483648 < 8388608 then .number (w / 2147483648 % 2 == 1) (w % 2147483648) (-149)
    else if w % 2147483648 < 2139095040 then .number (w / 2147483648 % 2 == 1) (8388608 + w % 2147483648 % 8388608) (-149 + (w % 2147483648 / 8388608 - 1 : Nat))
    else if w % 2147483648 = 2139095040 then .infinity (w / 2147483648 % 2 == 1) else .nan (w / 2147483648 % 2 == 1) (w % 2147483648 - 2139095040) := by
  unfold Format.read; simp only [c_sw, c_bi, c_in, c_lp]
theorem neg0 (w : Nat) (h : w < 2147483648) : (w / 2147483648 % 2 == 1) = false := by
  have : w / 2147483648 = 0 := by omega
  simp [this]
theorem neg1 (w : Nat) (h : 2147483648 ≤ w) (h2 : w < 4294967296) : (w / 2147483648 % 2 == 1) = true := by
  have : w / 2147483648 = 1 := by omega
  simp [this]
theorem cmp_lt {a b : Int} (h : a < b) : compare a b = .lt := by simp [compare, compareOfLessAndEq, h]
theorem cmp_gt {a b : Int} (h : b < a) : compare a b = .gt := by
  have h1 : ¬ a < b := by omega
  have h2 : ¬ a = b := by omega
  simp [compare, compareOfLessAndEq, h1, h2]
theorem cmp_eq (a : Int) : compare a a = .eq := by simp [compare, compareOfLessAndEq]
theorem ord_num (s t : Bool) (m n : Nat) (i j : Int) : Datum.order (.number s m i) (.number t n j) = some (compare (signed s m (i - min i j).toNat) (signed t n (j - min i j).toNat)) := rfl
theorem read0 : single.read 0 = .number false 0 (-149) := by rw [rd]; rfl
theorem read1 : single.read 1065353216 = .number false 8388608 (-23) := by rw [rd]; rfl
theorem sgn_f (m k : Nat) : signed false m k = ((m * 2 ^ k : Nat) : Int) := by simp [signed, Nat.shiftLeft_eq]
theorem sgn_t (m k : Nat) : signed true m k = - ((m * 2 ^ k : Nat) : Int) := by simp [signed, Nat.shiftLeft_eq]
theorem sgn0 (k : Nat) : signed false 0 k = 0 := by simp [sgn_f]
theorem pos_mul (m k : Nat) (h : 0 < m) : (0 : Int) < ((m * 2 ^ k : Nat) : Int) := by
  have := Nat.mul_pos h (Nat.two_pow_pos k); omega
/-- Above 0. -/
theorem gt0 (d : Nat) (h : 0 < d) (h2 : d ≤ 2139095040) : single.order d 0 = some .gt := by
  unfold Format.order
  rw [read0, rd, Nat.mod_eq_of_lt (show d < 2147483648 by omega), neg0 d (by omega)]
  by_cases h3 : d < 8388608
  · rw [if_pos h3, ord_num, sgn0, sgn_f, cmp_gt (pos_mul _ _ h)]
  rw [if_neg h3]
  by_cases h4 : d < 2139095040
  · rw [if_pos h4, ord_num, sgn0, sgn_f, cmp_gt (pos_mul _ _ (by omega))]
  rw [if_neg h4, if_pos (by omega)]
  rfl
/-- Not above 0. -/
theorem le0 (d : Nat) (h1 : d < 4294967296) (h : d = 0 ∨ 2139095040 < d) : (single.order d 0 == some .gt) = false := by
  unfold Format.order
  rw [read0, rd]
  rcases h with h | h
  · subst h
    rw [if_pos (by decide), ord_num, show ((0 / 2147483648 % 2 == 1 : Bool)) = false from rfl, sgn0, cmp_eq]; rfl
  by_cases h2 : d < 2147483648
  · rw [Nat.mod_eq_of_lt h2, if_neg (by omega), if_neg (by omega), if_neg (by omega)]; rfl
  rw [neg1 d (by omega) h1]
  by_cases h3 : d % 2147483648 < 8388608
  · rw [if_pos h3, ord_num, sgn0, sgn_t]
    rcases Nat.eq_zero_or_pos (d % 2147483648) with h5 | h5
    · rw [h5, Nat.zero_mul, show (-((0 : Nat) : Int)) = 0 from rfl, cmp_eq]; rfl
    · rw [cmp_lt (by have := pos_mul (d % 2147483648) ((-149 : Int) - min (-149) (-149)).toNat h5; omega)]; rfl
  rw [if_neg h3]
  by_cases h4 : d % 2147483648 < 2139095040
  · rw [if_pos h4, ord_num, sgn0, sgn_t]
    rw [cmp_lt (by have := pos_mul (8388608 + d % 2147483648 % 8388608) ((-149 + ((d % 2147483648 / 8388608 - 1 : Nat) : Int) : Int) - min (-149 + ((d % 2147483648 / 8388608 - 1 : Nat) : Int)) (-149)).toNat (by omega); omega)]; rfl
  rw [if_neg h4]
  split <;> rfl
/-- Below 1. -/
theorem lt1 (d : Nat) (h : d < 1065353216) : single.order d 1065353216 = some .lt := by
  unfold Format.order
  rw [read1, rd, Nat.mod_eq_of_lt (show d < 2147483648 by omega), neg0 d (by omega)]
  by_cases h3 : d < 8388608
  · rw [if_pos h3, ord_num, sgn_f, sgn_f, cmp_lt ?_]
    rw [show ((-149 : Int) - min (-149) (-23)).toNat = 0 from rfl, show ((-23 : Int) - min (-149) (-23)).toNat = 126 from rfl]
    have : (8388608 : Nat) ≤ 8388608 * 2 ^ 126 := by decide
    rw [Nat.pow_zero, Nat.mul_one]; omega
  rw [if_neg h3, if_pos (by omega), ord_num, sgn_f, sgn_f, cmp_lt ?_]
  have hk : ∃ k : Nat, d / 8388608 - 1 = k ∧ k ≤ 125 := ⟨_, rfl, by omega⟩
  obtain ⟨k, hk, hk2⟩ := hk
  rw [hk, show (-149 + (k : Int) - min (-149 + (k : Int)) (-23)).toNat = 0 by omega, show ((-23 : Int) - min (-149 + (k : Int)) (-23)).toNat = 126 - k by omega]
  have h5 : 2 ^ 1 ≤ 2 ^ (126 - k) := Nat.pow_le_pow_right (by omega) (by omega)
  have h6 : 8388608 * 2 ≤ 8388608 * 2 ^ (126 - k) := Nat.mul_le_mul_left _ (by omega)
  rw [Nat.pow_zero, Nat.mul_one]
  omega
/-- Not below 1. -/
theorem ge1 (d : Nat) (h : 1065353216 ≤ d) (h2 : d ≤ 2139095040) : (single.order d 1065353216 == some .lt) = false := by
  unfold Format.order
  rw [read1, rd, Nat.mod_eq_of_lt (show d < 2147483648 by omega), neg0 d (by omega), if_neg (by omega)]
  by_cases h4 : d < 2139095040
  · rw [if_pos h4, ord_num, sgn_f, sgn_f]
    have hk : ∃ k : Nat, d / 8388608 - 1 = k ∧ 126 ≤ k := ⟨_, rfl, by omega⟩
    obtain ⟨k, hk, hk2⟩ := hk
    rw [hk, show (-149 + (k : Int) - min (-149 + (k : Int)) (-23)).toNat = k - 126 by omega, show ((-23 : Int) - min (-149 + (k : Int)) (-23)).toNat = 0 by omega, Nat.pow_zero, Nat.mul_one]
    have h5 : 1 ≤ 2 ^ (k - 126) := Nat.two_pow_pos _
    have h6 : (8388608 + d % 8388608) * 1 ≤ (8388608 + d % 8388608) * 2 ^ (k - 126) := Nat.mul_le_mul_left _ h5
    by_cases h7 : (8388608 + d % 8388608) * 2 ^ (k - 126) = 8388608
    · rw [h7, cmp_eq]; rfl
    · rw [cmp_gt (by omega)]; rfl
  rw [if_neg h4, if_pos (by omega)]; rfl
end Fl
end Go.Proofs.YteegfadhfimlcaaGreatDoor
