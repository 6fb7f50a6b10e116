import Derived.WalkKit
namespace Go.Proofs.YtgoigcpdfecfhaaGreatDoor
namespace Cl
open Go.RowKit
theorem andNot_top (u : Int) (h0 : 0 ≤ u) (h1 : u < 4294967296) : bits .andNot .u32 u 2147483648 = u % 2147483648 := by
  rw [u32_andNot u 2147483648 h0 h1 (by omega) (by omega)]
  obtain ⟨n, rfl⟩ := Int.eq_ofNat_of_zero_le h0
  have e : n &&& (2 ^ 31 - 1) = n % 2 ^ 31 := Nat.and_two_pow_sub_one_eq_mod n 31
  have e2 : (4294967295 - (2147483648 : Int).toNat) = 2 ^ 31 - 1 := by decide
  rw [e2, Int.toNat_natCast, e]; simp
theorem and_low (u : Int) (h0 : 0 ≤ u) (h1 : u < 4294967296) : bits .and .u32 u 8388607 = u % 8388608 := by
  rw [u32_and u 8388607 h0 h1 (by omega) (by omega)]
  obtain ⟨n, rfl⟩ := Int.eq_ofNat_of_zero_le h0
  have e : n &&& (2 ^ 23 - 1) = n % 2 ^ 23 := Nat.and_two_pow_sub_one_eq_mod n 23
  have e2 : (8388607 : Int).toNat = 2 ^ 23 - 1 := by decide
  rw [e2, Int.toNat_natCast, e]; simp
theorem or_bit (m : Int) (h0 : 0 ≤ m) (h1 : m < 8388608) : bits .or .u32 m 8388608 = m + 8388608 := by
  have hc : bits .or .u32 m 8388608 = bits .or .u32 8388608 m := by
    rw [u32_or m _ h0 (by omega) (by omega) (by omega), u32_or _ m (by omega) (by omega) h0 (by omega), Nat.or_comm]
  rw [hc, bits_join .u32 32 (by decide) (fun n a b => by rw [IntKind.wrap_u32]; omega) 23 8388608 m (by decide) (by decide) (by decide) h0 (by omega) (by omega)]; omega
/-- The lowest bit that is set. -/
def tz (n : Nat) : Nat → Nat
  | 0 => 0
  | f + 1 => if n % 2 = 0 then tz (n / 2) f + 1 else 0
theorem tz_spec (f n : Nat) (h0 : 0 < n) (h1 : n < 2 ^ f) : tz n f < f ∧ ∃ j, n = 2 ^ tz n f * (2 * j + 1) := by
  induction f generalizing n with
  | zero => omega
  | succ f ih =>
    unfold tz
    split
    · rename_i h
      obtain ⟨h2, j, hj⟩ := ih (n / 2) (by omega) (by rw [Nat.pow_succ] at h1; omega)
      refine ⟨by omega, j, ?_⟩
      rw [Nat.pow_succ, Nat.mul_assoc, Nat.mul_comm 2, ← Nat.mul_assoc, ← hj]; omega
    · exact ⟨by omega, n / 2, by rw [Nat.pow_zero]; omega⟩
theorem and_compl (k a : Nat) (h : a < 2 ^ k) : a &&& (2 ^ k - 1 - a) = 0 := by
  have e : (BitVec.ofNat k a &&& ~~~ BitVec.ofNat k a) = 0#k := by simp
  have e2 := congrArg BitVec.toNat e
  rw [BitVec.toNat_and, BitVec.toNat_not, BitVec.toNat_ofNat, Nat.mod_eq_of_lt h] at e2
  simpa using e2
theorem two_mul_and (a b : Nat) : (2 * a) &&& (2 * b) = 2 * (a &&& b) := by
  apply Nat.eq_of_testBit_eq; intro i
  cases i with
  | zero => simp
  | succ i =>
    rw [Nat.testBit_and]
    simp only [Nat.testBit_succ]
    rw [show 2 * a / 2 = a from by omega, show 2 * b / 2 = b from by omega, show 2 * (a &&& b) / 2 = a &&& b from by omega, Nat.testBit_and]
theorem odd_and (a b : Nat) : (2 * a + 1) &&& (2 * b + 1) = 2 * (a &&& b) + 1 := by
  apply Nat.eq_of_testBit_eq; intro i
  cases i with
  | zero => simp
  | succ i =>
    rw [Nat.testBit_and]
    simp only [Nat.testBit_succ]
    rw [show (2 * a + 1) / 2 = a from by omega, show (2 * b + 1) / 2 = b from by omega, show (2 * (a &&& b) + 1) / 2 = a &&& b from by omega, Nat.testBit_and]
theorem low_bit (t : Nat) : ∀ k j, t < k → 2 ^ t * (2 * j + 1) < 2 ^ k → (2 ^ t * (2 * j + 1)) &&& (2 ^ k - 2 ^ t * (2 * j + 1)) = 2 ^ t := by
  induction t with
  | zero =>
    intro k j hk h
    obtain ⟨k, rfl⟩ : ∃ m, k = m + 1 := ⟨k - 1, by omega⟩
    rw [Nat.pow_zero, Nat.one_mul] at *
    rw [Nat.pow_succ] at *
    rw [show 2 ^ k * 2 - (2 * j + 1) = 2 * (2 ^ k - 1 - j) + 1 from by omega, odd_and, and_compl k j (by omega)]
  | succ t ih =>
    intro k j hk h
    obtain ⟨k, rfl⟩ : ∃ m, k = m + 1 := ⟨k - 1, by omega⟩
    have e1 : 2 ^ (t + 1) * (2 * j + 1) = 2 * (2 ^ t * (2 * j + 1)) := by rw [Nat.pow_succ, Nat.mul_comm (2 ^ t) 2, Nat.mul_assoc]
    have e3 : 2 ^ (k + 1) = 2 * 2 ^ k := by rw [Nat.pow_succ, Nat.mul_comm]
    have e4 : 2 ^ (t + 1) = 2 * 2 ^ t := by rw [Nat.pow_succ, Nat.mul_comm]
    rw [e1, e3] at h
    rw [e1, e3, e4]
    have h5 : 2 ^ t * (2 * j + 1) < 2 ^ k := by omega
    have h6 := ih k j (by omega) h5
    generalize 2 ^ t * (2 * j + 1) = x at *
    rw [show 2 * 2 ^ k - 2 * x = 2 * (2 ^ k - x) from by omega, two_mul_and, h6]
def tzI (u : Int) : Int := (tz u.toNat 32 : Int)
theorem and_neg (u : Int) (h0 : 0 < u) (h1 : u < 4294967296) : bits .and .u32 u (IntKind.u32.wrap (-u)) = 2 ^ tz u.toNat 32 := by
  have e : IntKind.u32.wrap (-u) = 4294967296 - u := by rw [IntKind.wrap_u32]; omega
  rw [e, u32_and u _ (by omega) h1 (by omega) (by omega)]
  obtain ⟨n, rfl⟩ := Int.eq_ofNat_of_zero_le (show 0 ≤ u by omega)
  obtain ⟨h2, j, hj⟩ := tz_spec 32 n (by omega) (by omega)
  have e2 : (4294967296 - (n : Int)).toNat = 2 ^ 32 - n := by omega
  rw [e2, Int.toNat_natCast]
  have h3 := low_bit (tz n 32) 32 j h2 (by rw [← hj]; omega)
  rw [← hj] at h3
  rw [h3]; simp
def tab : List Int := [0, 1, 28, 2, 29, 14, 24, 3, 30, 22, 20, 15, 25, 17, 4, 8, 31, 27, 13, 23, 21, 19, 16, 7, 26, 12, 18, 6, 11, 5, 10, 9]
def idx (t : Nat) : Nat := 2 ^ t * 125613361 % 4294967296 / 134217728
theorem tab_idx : ∀ t : Fin 32, idx t.val < 32 ∧ tab.getD (idx t.val) 0 = (t.val : Int) := by decide +kernel
end Cl
end Go.Proofs.YtgoigcpdfecfhaaGreatDoor
