import Derived.Test.YtgoigcpdfecfhaaGreatDoorClMath
namespace Go.Proofs.YtgoigcpdfecfhaaGreatDoor
namespace Cl
open Go.RowKit
theorem and_neg64 (u : Int) (h0 : 0 < u) (h1 : u < 18446744073709551616) : bits .and .u64 u (IntKind.u64.wrap (-u)) = 2 ^ tz u.toNat 64 := by
  have e : IntKind.u64.wrap (-u) = 18446744073709551616 - u := by rw [IntKind.wrap_u64]; omega
  rw [e, u64_and u _ (by omega) h1 (by omega) (by omega)]
  obtain ⟨n, rfl⟩ := Int.eq_ofNat_of_zero_le (show 0 ≤ u by omega)
  obtain ⟨h2, j, hj⟩ := tz_spec 64 n (by omega) (by omega)
  have e2 : (18446744073709551616 - (n : Int)).toNat = 2 ^ 64 - n := by omega
  rw [e2, Int.toNat_natCast]
  have h3 := low_bit (tz n 64) 64 j h2 (by rw [← hj]; omega)
  rw [← hj] at h3
  rw [h3]; simp
def tab64 : List Int := [0, 1, 56, 2, 57, 49, 28, 3, 61, 58, 42, 50, 38, 29, 17, 4, 62, 47, 59, 36, 45, 43, 51, 22, 53, 39, 33, 30, 24, 18, 12, 5, 63, 55, 48, 27, 60, 41, 37, 16, 46, 35, 44, 21, 52, 32, 23, 11, 54, 26, 40, 15, 34, 20, 31, 10, 25, 14, 19, 9, 13, 8, 7, 6]
def idx64 (t : Nat) : Nat := 2 ^ t * 285870213051353865 % 18446744073709551616 / 288230376151711744
theorem tab_idx64 : ∀ t : Fin 64, idx64 t.val < 64 ∧ tab64.getD (idx64 t.val) 0 = (t.val : Int) := by decide +kernel
theorem tz_ge (k : Nat) : ∀ x y f : Nat, x = 2 ^ k * y → 0 < x → x < 2 ^ f → k ≤ tz x f := by
  induction k with
  | zero => intros; omega
  | succ k ih =>
    intro x y f hx h0 h1
    have e : x = 2 * (2 ^ k * y) := by rw [hx, Nat.pow_succ, Nat.mul_comm (2 ^ k) 2, Nat.mul_assoc]
    cases f with
    | zero => omega
    | succ f =>
      unfold tz
      rw [if_pos (by omega)]
      have := ih (x / 2) y f (by omega) (by omega) (by rw [Nat.pow_succ] at h1; omega)
      omega
theorem tz_odd (k : Nat) : ∀ x y f : Nat, x = 2 ^ k * y → y % 2 = 1 → x < 2 ^ f → tz x f = k := by
  induction k with
  | zero =>
    intro x y f hx hy h1
    rw [Nat.pow_zero, Nat.one_mul] at hx
    cases f with
    | zero => omega
    | succ f => unfold tz; rw [if_neg (by omega)]
  | succ k ih =>
    intro x y f hx hy h1
    have e : x = 2 * (2 ^ k * y) := by rw [hx, Nat.pow_succ, Nat.mul_comm (2 ^ k) 2, Nat.mul_assoc]
    cases f with
    | zero =>
      have : 0 < 2 ^ k := Nat.two_pow_pos k
      have : 0 < 2 ^ k * y := Nat.mul_pos this (by omega)
      omega
    | succ f =>
      unfold tz
      rw [if_pos (by omega)]
      have := ih (x / 2) y f (by omega) hy (by rw [Nat.pow_succ] at h1; omega)
      omega
/-- The number of the bits at the end that are 0; 64, if there is no other. -/
def tzx (x : Nat) : Nat := if x = 0 then 64 else tz x 64
/-- A vertex's number in its own set. -/
def nu (x : Nat) : Nat := min (1 + tzx x) 15
theorem nu_b (x : Nat) : 1 ≤ nu x ∧ nu x ≤ 15 := by unfold nu; omega
theorem nu_end (x r y : Nat) (h1 : 1 ≤ r) (h15 : r ≤ 15) (hx : x < 18446744073709551616) (hd : x = 2 ^ (r - 1) * y) (hy : r = 15 ∨ y % 2 = 1) : nu x = r := by
  have hx2 : x < 2 ^ 64 := by omega
  unfold nu tzx
  by_cases h0 : x = 0
  · rw [if_pos h0]
    rcases hy with h | h
    · omega
    · have : 0 < 2 ^ (r - 1) := Nat.two_pow_pos _
      have : 0 < 2 ^ (r - 1) * y := Nat.mul_pos this (by omega)
      omega
  · rw [if_neg h0]
    rcases hy with h | h
    · have := tz_ge (r - 1) x y 64 hd (by omega) hx2
      omega
    · have := tz_odd (r - 1) x y 64 hd h hx2
      omega
theorem tzx_b (x : Nat) (hx : x < 18446744073709551616) : tzx x ≤ 64 := by
  unfold tzx
  split
  · omega
  · have := (tz_spec 64 x (by omega) (by omega)).1; omega
end Cl
end Go.Proofs.YtgoigcpdfecfhaaGreatDoor
