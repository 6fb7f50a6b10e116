import Derived.Test.YtbnmjmlcedkoaabGreatDoorTyA
import Derived.Laws.MathBits
import Derived.Test.YtbnmjmlcedkoaabGreatDoorTyGa
namespace Go.Proofs.YtbnmjmlcedkoaabGreatDoor
namespace Ty
open Go.RowKit
set_option linter.unusedVariables false
theorem ret_two {k1 k2 : IntKind} {a b c d : Int} (h : a = c) (h2 : b = d) : Ending.returned (.tuple #[.int k1 a, .int k2 b]) = .returned (.tuple #[.int k1 c, .int k2 d]) := by rw [h, h2]
theorem and32 (x : Int) (h0 : 0 ≤ x) (h1 : x < 18446744073709551616) : bits .and .u64 x 4294967295 = x % 4294967296 := by
  rw [u64_and x 4294967295 h0 h1 (by omega) (by omega)]
  obtain ⟨n, rfl⟩ := Int.eq_ofNat_of_zero_le h0
  have e : n &&& (2 ^ 32 - 1) = n % 2 ^ 32 := Nat.and_two_pow_sub_one_eq_mod n 32
  have e2 : (4294967295 : Int).toNat = 2 ^ 32 - 1 := by decide
  rw [e2, Int.toNat_natCast, e]; simp
set_option maxHeartbeats 800000 in
theorem mul64_any (x y : Int) (hx0 : 0 ≤ x) (hx : x < 18446744073709551616) (hy0 : 0 ≤ y) (hy : y < 18446744073709551616) (w : World) :
    Calls Tryz.prog 71 #[.int .u64 x, .int .u64 y] w fun e w' => e = .returned (.tuple #[.int .u64 (x * y / 18446744073709551616), .int .u64 (x * y % 18446744073709551616)]) ∧ w' = w := by
  have H := mul64_arith x y hx0 hx hy0 hy
  have HH : Hid (x * y / 18446744073709551616 = _) := H.symm
  have a1 := and32 x hx0 hx
  have a2 := and32 y hy0 hy
  clear H
  go_enter Tryz.func71, Tryz.ntmps71
  go_wp2
  go_ret2
  refine ⟨ret_two ?_ (by rw [IntKind.wrap_u64]), rfl⟩
  rw [and32 _ (wrap_u64_nonneg _) (by rw [IntKind.wrap_u64]; omega)]
  simp only [IntKind.wrap_u64]
  exact mul64_arith x y hx0 hx hy0 hy
/-- What a product by y carries into word i. -/
def cm (A y : Int) (i : Nat) : Int := A % 2 ^ (64 * i) * y / 2 ^ (64 * i)
theorem cm_zero (A y : Int) : cm A y 0 = 0 := by unfold cm; simp [Int.emod_one]
theorem cm_b (A y : Int) (i : Nat) (h0 : 0 ≤ y) (h1 : y < 18446744073709551616) : 0 ≤ cm A y i ∧ cm A y i < 18446744073709551616 := by
  unfold cm
  have hP := pw (64 * i)
  generalize (2 : Int) ^ (64 * i) = P at *
  have r1 := Int.emod_nonneg A (Int.ne_of_gt hP)
  have r2 := Int.emod_lt_of_pos A hP
  refine ⟨Int.ediv_nonneg (Int.mul_nonneg r1 h0) (by omega), Int.ediv_lt_of_lt_mul hP ?_⟩
  have h3 : A % P * y ≤ A % P * 18446744073709551615 := Int.mul_le_mul_of_nonneg_left (by omega) r1
  omega
theorem mul_step (A y : Int) (i : Nat) : (wd A i * y + cm A y i) % 18446744073709551616 = wd (A * y) i ∧ (wd A i * y + cm A y i) / 18446744073709551616 = cm A y (i + 1) := by
  unfold wd cm
  have e1 : (2 : Int) ^ (64 * (i + 1)) = 2 ^ (64 * i) * 18446744073709551616 := by rw [← two64, ← Int.pow_add]; congr 1
  rw [e1]
  have hP := pw (64 * i)
  generalize (2 : Int) ^ (64 * i) = P at *
  have ea := split P A hP
  have ec := split P (A % P * y) hP
  have r1 := Int.emod_nonneg (A % P * y) (Int.ne_of_gt hP)
  have r2 := Int.emod_lt_of_pos (A % P * y) hP
  rw [low_succ P _ A hP (by decide)]
  constructor
  · have e3 : A * y / P = A / P * y + A % P * y / P := by
      have e4 : A * y = A % P * y + P * (A / P * y) := by
        have : A * y = (P * (A / P) + A % P) * y := by rw [← ea]
        rw [this, Int.add_mul, Int.mul_assoc]; omega
      rw [e4, Int.add_mul_ediv_left _ _ (Int.ne_of_gt hP)]; omega
    rw [e3]
    have e5 : A / P % 18446744073709551616 * y + A % P * y / P = A / P * y + A % P * y / P + 18446744073709551616 * (-(A / P / 18446744073709551616) * y) := by
      have h := Int.mul_ediv_add_emod (A / P) 18446744073709551616
      have h2 : A / P * y = (18446744073709551616 * (A / P / 18446744073709551616) + A / P % 18446744073709551616) * y := by rw [h]
      rw [Int.neg_mul, Int.mul_neg, ← Int.mul_assoc]
      rw [Int.add_mul] at h2; omega
    rw [e5, Int.add_mul_emod_self_left]
  · have e3 : (P * (A / P % 18446744073709551616) + A % P) * y = P * (A / P % 18446744073709551616 * y + A % P * y / P) + A % P * y % P := by
      rw [Int.add_mul, Int.mul_add, Int.mul_assoc]; omega
    rw [e3, div_mul P _ _ _ hP r1 r2 (by decide)]
end Ty
end Go.Proofs.YtbnmjmlcedkoaabGreatDoor
namespace Go.Proofs.YtbnmjmlcedkoaabGreatDoor
namespace Ty
open Go.RowKit
set_option linter.unusedVariables false
def bit (N : Int) (i : Nat) : Int := N / 2 ^ i % 2
theorem bit_dg (N : Int) (i : Nat) : bit N i = dg 1 N i := by unfold bit dg; rw [Nat.one_mul]; rfl
theorem bit_b (N : Int) (i : Nat) : 0 ≤ bit N i ∧ bit N i ≤ 1 := by unfold bit; omega
theorem bit_add (A B : Int) (i : Nat) : (bit A i + bit B i + cr 1 A B i) % 2 = bit (A + B) i ∧ (bit A i + bit B i + cr 1 A B i) / 2 = cr 1 A B (i + 1) := by
  have h := add_step 1 A B i
  rw [bit_dg, bit_dg, bit_dg]; exact h
theorem bit_not (A : Int) (i : Nat) : 1 - bit A i = bit (-A - 1) i := by
  unfold bit
  have hP := pw i
  generalize (2 : Int) ^ i = P at *
  have e : (-A - 1) / P = -(A / P) - 1 := by
    have h1 := Int.mul_ediv_add_emod A P
    have r1 := Int.emod_nonneg A (Int.ne_of_gt hP)
    have r2 := Int.emod_lt_of_pos A hP
    have e2 : -A - 1 = (P - 1 - A % P) + P * (-(A / P) - 1) := by rw [Int.mul_sub, Int.mul_neg]; omega
    rw [e2, Int.add_mul_ediv_left _ _ (Int.ne_of_gt hP), Int.ediv_eq_zero_of_lt (by omega) (by omega)]; omega
  rw [e]; omega
/-- Of a number without what is above: a bit of it. -/
theorem mod_div (X : Int) (r m : Nat) (h : r < m) : X % 2 ^ m / 2 ^ r % 2 = X / 2 ^ r % 2 := by
  have e : (2 : Int) ^ m = 2 ^ r * (2 * 2 ^ (m - r - 1)) := by
    rw [show (2 : Int) * 2 ^ (m - r - 1) = 2 ^ (m - r - 1 + 1) from by rw [Int.pow_succ, Int.mul_comm], ← Int.pow_add]; congr 1; omega
  rw [e]
  have hP := pw r
  have hR := pw (m - r - 1)
  generalize (2 : Int) ^ r = P at *
  generalize (2 : Int) ^ (m - r - 1) = R at *
  rw [low_succ P (2 * R) X hP (by omega), Int.add_comm, Int.add_mul_ediv_left _ _ (Int.ne_of_gt hP), Int.ediv_eq_zero_of_lt (Int.emod_nonneg _ (Int.ne_of_gt hP)) (Int.emod_lt_of_pos _ hP), Int.zero_add]
  rw [Int.emod_emod_of_dvd _ (Int.dvd_mul_right _ _)]
theorem bit_wd (A : Int) (i : Nat) : wd A (i / 64) / 2 ^ (i % 64) % 2 = bit A i := by
  unfold wd bit
  rw [← two64, mod_div _ _ 64 (Nat.mod_lt _ (by omega)), Int.ediv_ediv_of_nonneg (Int.le_of_lt (pw _)), ← Int.pow_add, Nat.div_add_mod]
theorem bit_mod (A : Int) (i m : Nat) (h : i < m) : bit (A % 2 ^ m) i = bit A i := by unfold bit; exact mod_div A i m h
theorem low_bit (N : Int) (k : Nat) : N % 2 ^ (k + 1) = 2 ^ k * bit N k + N % 2 ^ k := by
  unfold bit
  rw [Int.pow_succ, low_succ _ 2 N (pw k) (by decide)]
theorem wd_low (N : Int) (k j : Nat) (h : j ≠ k / 64) : wd (N % 2 ^ (k + 1)) j = wd (N % 2 ^ k) j := by
  rw [low_bit]
  have hb := bit_b N k
  generalize bit N k = b at *
  have hl0 := Int.emod_nonneg N (Int.ne_of_gt (pw k))
  have hl1 := Int.emod_lt_of_pos N (pw k)
  generalize N % 2 ^ k = L at *
  unfold wd
  by_cases hj : j < k / 64
  · have e : (2 : Int) ^ k = 2 ^ (64 * j) * (18446744073709551616 * 2 ^ (k - 64 * (j + 1))) := by
      rw [← two64, ← Int.pow_add, ← Int.pow_add]; congr 1; omega
    rw [e, Int.mul_assoc, Int.add_comm, Int.add_mul_ediv_left _ _ (Int.ne_of_gt (pw _)), Int.mul_assoc, Int.add_mul_emod_self_left]
  · have e : (2 : Int) ^ (64 * j) = 2 ^ (k + 1) * 2 ^ (64 * j - (k + 1)) := by rw [← Int.pow_add]; congr 1; omega
    have hk : (2 : Int) ^ (k + 1) = 2 * 2 ^ k := by rw [Int.pow_succ]; omega
    have h1 : L < 2 ^ (64 * j) := by
      rw [e, hk]
      have : (2 * 2 ^ k) * 1 ≤ (2 * (2 : Int) ^ k) * 2 ^ (64 * j - (k + 1)) := Int.mul_le_mul_of_nonneg_left (by have := pw (64 * j - (k + 1)); omega) (by omega)
      omega
    have h2 : 2 ^ k * b + L < 2 ^ (64 * j) := by
      rw [e, hk]
      have : (2 * 2 ^ k) * 1 ≤ (2 * (2 : Int) ^ k) * 2 ^ (64 * j - (k + 1)) := Int.mul_le_mul_of_nonneg_left (by have := pw (64 * j - (k + 1)); omega) (by omega)
      have : 2 ^ k * b ≤ (2 : Int) ^ k * 1 := Int.mul_le_mul_of_nonneg_left hb.2 (by omega)
      omega
    rw [Int.ediv_eq_zero_of_lt hl0 h1, Int.ediv_eq_zero_of_lt (Int.add_nonneg (Int.mul_nonneg (Int.le_of_lt (pw k)) hb.1) hl0) h2]
theorem wd_at (N : Int) (k : Nat) : wd (N % 2 ^ k) (k / 64) < 2 ^ (k % 64) ∧ wd (N % 2 ^ (k + 1)) (k / 64) = 2 ^ (k % 64) * bit N k + wd (N % 2 ^ k) (k / 64) := by
  rw [low_bit]
  have hb := bit_b N k
  generalize bit N k = b at *
  have hl0 := Int.emod_nonneg N (Int.ne_of_gt (pw k))
  have hl1 := Int.emod_lt_of_pos N (pw k)
  generalize N % 2 ^ k = L at *
  unfold wd
  have e : (2 : Int) ^ k = 2 ^ (64 * (k / 64)) * 2 ^ (k % 64) := by rw [← Int.pow_add]; congr 1; omega
  rw [e, Int.mul_assoc, Int.add_comm (2 ^ (64 * (k / 64)) * _) L, Int.add_mul_ediv_left _ _ (Int.ne_of_gt (pw _))]
  rw [e] at hl1
  have hP := pw (64 * (k / 64))
  have h1 : L / 2 ^ (64 * (k / 64)) < 2 ^ (k % 64) := Int.ediv_lt_of_lt_mul hP (by rw [Int.mul_comm]; exact hl1)
  have h2 : 0 ≤ L / 2 ^ (64 * (k / 64)) := Int.ediv_nonneg hl0 (by omega)
  generalize L / 2 ^ (64 * (k / 64)) = x at *
  have h3 : (2 : Int) ^ (k % 64) * 2 ≤ 18446744073709551616 := by
    rw [← Int.pow_succ, ← two64]
    have : 2 ^ (k % 64 + 1) ≤ 2 ^ 64 := Nat.pow_le_pow_right (by omega) (by omega)
    exact_mod_cast this
  have hp := pw (k % 64)
  have h4 : (2 : Int) ^ (k % 64) * b ≤ 2 ^ (k % 64) * 1 := Int.mul_le_mul_of_nonneg_left hb.2 (by omega)
  have h5 : 0 ≤ (2 : Int) ^ (k % 64) * b := Int.mul_nonneg (by omega) hb.1
  rw [Int.emod_eq_of_lt h2 (by omega), Int.emod_eq_of_lt (by omega) (by omega)]
  exact ⟨h1, by omega⟩
theorem or_pow (x : Int) (p : Nat) (h0 : 0 ≤ x) (h1 : x < 2 ^ p) (hp : p < 64) : bits .or .u64 x (2 ^ p) = 2 ^ p + x := by
  have hP := pw p
  have hP2 : (2 : Int) ^ p < 18446744073709551616 := by
    rw [← two64]
    have : 2 ^ p < 2 ^ 64 := Nat.pow_lt_pow_right (by omega) (by omega)
    exact_mod_cast this
  have hc : bits .or .u64 x (2 ^ p) = bits .or .u64 (2 ^ p) x := by
    rw [u64_or _ _ h0 (by omega) (by omega) hP2, u64_or _ _ (by omega) hP2 h0 (by omega), Nat.or_comm]
  rw [hc, bits_join .u64 64 (by decide) (fun n a b => by rw [IntKind.wrap_u64]; omega) p _ _ (by omega) (by simp) (by simpa using hP2) h0 h1 (by
    have : (2 : Int) ^ p * 2 ≤ 18446744073709551616 := by
      rw [← Int.pow_succ, ← two64]
      have : 2 ^ (p + 1) ≤ 2 ^ 64 := Nat.pow_le_pow_right (by omega) (by omega)
      exact_mod_cast this
    simp; omega)]
theorem bit_zero_up (N : Int) (i m : Nat) (h0 : 0 ≤ N) (h1 : N < 2 ^ m) (h : m ≤ i) : bit N i = 0 := by
  unfold bit
  have : (2 : Int) ^ m ≤ 2 ^ i := by exact_mod_cast Nat.pow_le_pow_right (by omega : 0 < 2) h
  rw [Int.ediv_eq_zero_of_lt h0 (by omega)]; rfl
theorem bit_shift (m : Int) (s i : Nat) : bit (m * 2 ^ s) (s + i) = bit m i := by
  unfold bit
  rw [Int.pow_add, ← Int.ediv_ediv_of_nonneg (Int.le_of_lt (pw s)), Int.mul_ediv_cancel _ (Int.ne_of_gt (pw s))]
theorem bit_shift_low (m : Int) (s i : Nat) (h : i < s) : bit (m * 2 ^ s) i = 0 := by
  unfold bit
  have e : (2 : Int) ^ s = 2 ^ i * (2 * 2 ^ (s - i - 1)) := by
    rw [show (2 : Int) * 2 ^ (s - i - 1) = 2 ^ (s - i - 1 + 1) from by rw [Int.pow_succ, Int.mul_comm], ← Int.pow_add]; congr 1; omega
  rw [e, show m * (2 ^ i * (2 * 2 ^ (s - i - 1))) = (m * (2 * 2 ^ (s - i - 1))) * 2 ^ i from by rw [Int.mul_comm (2 ^ i), ← Int.mul_assoc], Int.mul_ediv_cancel _ (Int.ne_of_gt (pw i))]
  rw [show m * (2 * 2 ^ (s - i - 1)) = 2 * (m * 2 ^ (s - i - 1)) from by rw [← Int.mul_assoc, Int.mul_comm m 2, Int.mul_assoc], Int.mul_emod_right]
end Ty
end Go.Proofs.YtbnmjmlcedkoaabGreatDoor
namespace Go.Proofs.YtbnmjmlcedkoaabGreatDoor
namespace Ty
open Go.RowKit
set_option linter.unusedVariables false
/-- What a shift by p carries into word j. -/
def lo (A : Int) (p j : Nat) : Int := A % 2 ^ (64 * j) * 2 ^ p / 2 ^ (64 * j)
theorem lo_zero (A : Int) (p : Nat) : lo A p 0 = 0 := by unfold lo; simp [Int.emod_one]
theorem lo_b (A : Int) (p j : Nat) : 0 ≤ lo A p j ∧ lo A p j < 2 ^ p := by
  unfold lo
  have hP := pw (64 * j)
  have hp := pw p
  have r1 := Int.emod_nonneg A (Int.ne_of_gt hP)
  have r2 := Int.emod_lt_of_pos A hP
  refine ⟨Int.ediv_nonneg (Int.mul_nonneg r1 (by omega)) (by omega), Int.ediv_lt_of_lt_mul hP ?_⟩
  rw [Int.mul_comm (2 ^ p)]
  exact Int.mul_lt_mul_of_pos_right r2 hp
theorem lo_succ (A : Int) (p j : Nat) (hp : p < 64) : wd A j / 2 ^ (64 - p) = lo A p (j + 1) := by
  unfold lo wd
  have e1 : (2 : Int) ^ (64 * (j + 1)) = 2 ^ (64 * j) * 18446744073709551616 := by rw [← two64, ← Int.pow_add]; congr 1
  have e2 : (2 : Int) ^ (64 * (j + 1)) = 2 ^ (64 * j) * 2 ^ (64 - p) * 2 ^ p := by rw [← Int.pow_add, ← Int.pow_add]; congr 1; omega
  have e3 : A % 2 ^ (64 * (j + 1)) * 2 ^ p / 2 ^ (64 * (j + 1)) = A % 2 ^ (64 * (j + 1)) / (2 ^ (64 * j) * 2 ^ (64 - p)) := by
    rw [show A % 2 ^ (64 * (j + 1)) * 2 ^ p / 2 ^ (64 * (j + 1)) = A % 2 ^ (64 * (j + 1)) * 2 ^ p / (2 ^ (64 * j) * 2 ^ (64 - p) * 2 ^ p) from by rw [← e2]]
    exact Int.mul_ediv_mul_of_pos_left _ _ (pw p)
  rw [e3, e1, ← Int.ediv_ediv_of_nonneg (Int.le_of_lt (pw _)), low_succ _ _ A (pw _) (by decide)]
  congr 1
  rw [Int.add_comm, Int.add_mul_ediv_left _ _ (Int.ne_of_gt (pw _)), Int.ediv_eq_zero_of_lt (Int.emod_nonneg _ (Int.ne_of_gt (pw _))) (Int.emod_lt_of_pos _ (pw _)), Int.zero_add]
theorem shl_mod (q l : Int) (p : Nat) (hp : p < 64) (h0 : 0 ≤ l) (h1 : l < 2 ^ p) : (2 ^ p * q + l) % 18446744073709551616 = (q % 18446744073709551616 * 2 ^ p) % 18446744073709551616 + l ∧ bits .or .u64 ((q % 18446744073709551616 * 2 ^ p) % 18446744073709551616) l = (q % 18446744073709551616 * 2 ^ p) % 18446744073709551616 + l := by
  have e : (18446744073709551616 : Int) = 2 ^ p * 2 ^ (64 - p) := by rw [← two64, ← Int.pow_add]; congr 1; omega
  have hP := pw p
  have hR := pw (64 - p)
  have h2 : (q % 18446744073709551616 * 2 ^ p) % 18446744073709551616 = 2 ^ p * (q % 2 ^ (64 - p)) := by
    rw [e, Int.mul_comm _ (2 ^ p), Int.mul_emod_mul_of_pos _ _ hP, Int.emod_emod_of_dvd _ (Int.dvd_mul_left _ _)]
  rw [h2]
  have q0 := Int.emod_nonneg q (Int.ne_of_gt hR)
  have q1 := Int.emod_lt_of_pos q hR
  have h3 : 2 ^ p * (q % 2 ^ (64 - p)) + 2 ^ p ≤ 18446744073709551616 := by
    have : (2 : Int) ^ p * (q % 2 ^ (64 - p) + 1) ≤ 2 ^ p * 2 ^ (64 - p) := Int.mul_le_mul_of_nonneg_left (by omega) (by omega)
    rw [Int.mul_add, ← e] at this; omega
  have h4 : (0 : Int) ≤ 2 ^ p * (q % 2 ^ (64 - p)) := Int.mul_nonneg (by omega) q0
  constructor
  · rw [e, low_succ _ _ _ hP hR]
    rw [Int.add_comm (2 ^ p * q) l, Int.add_mul_ediv_left _ _ (Int.ne_of_gt hP), Int.ediv_eq_zero_of_lt h0 h1, Int.zero_add, Int.add_mul_emod_self_left, Int.emod_eq_of_lt h0 h1]
  · rw [bits_join .u64 64 (by decide) (fun n a b => by rw [IntKind.wrap_u64]; omega) p _ _ h4 (by simp) (by simp; omega) h0 h1 (by simp; omega)]
theorem up_word (A : Int) (p j W k : Nat) (hp : p < 64) (hk : k = 64 * W + p) : bits .or .u64 ((wd A j * 2 ^ p) % 18446744073709551616) (lo A p j) = wd (A * 2 ^ k) (W + j) := by
  have hl := lo_b A p j
  have h := shl_mod (A / 2 ^ (64 * j)) (lo A p j) p hp hl.1 hl.2
  show bits .or .u64 ((A / 2 ^ (64 * j) % 18446744073709551616 * 2 ^ p) % 18446744073709551616) (lo A p j) = A * 2 ^ k / 2 ^ (64 * (W + j)) % 18446744073709551616
  rw [h.2, ← h.1]
  congr 1
  have e1 : (2 : Int) ^ k = 2 ^ p * 2 ^ (64 * W) := by rw [← Int.pow_add, hk, Nat.add_comm]
  have e2 : (2 : Int) ^ (64 * (W + j)) = 2 ^ (64 * j) * 2 ^ (64 * W) := by rw [← Int.pow_add]; congr 1; omega
  rw [e1, e2, ← Int.mul_assoc, Int.mul_ediv_mul_of_pos_left _ _ (pw _)]
  unfold lo
  have hP := pw (64 * j)
  have ea := split (2 ^ (64 * j)) A hP
  generalize (2 : Int) ^ (64 * j) = P at *
  have e3 : A * 2 ^ p = A % P * 2 ^ p + P * (2 ^ p * (A / P)) := by
    have : A * 2 ^ p = (P * (A / P) + A % P) * 2 ^ p := by rw [← ea]
    rw [this, Int.add_mul, Int.mul_assoc, Int.mul_comm (A / P)]; omega
  rw [e3, Int.add_mul_ediv_left _ _ (Int.ne_of_gt hP)]; omega
theorem up_low (A : Int) (k j : Nat) (h : j < k / 64) : wd (A * 2 ^ k) j = 0 := by
  unfold wd
  have e : (2 : Int) ^ k = 2 ^ (64 * j) * (18446744073709551616 * 2 ^ (k - 64 * (j + 1))) := by
    rw [← two64, ← Int.pow_add, ← Int.pow_add]; congr 1; omega
  rw [e, show A * (2 ^ (64 * j) * (18446744073709551616 * 2 ^ (k - 64 * (j + 1)))) = 2 ^ (64 * j) * (A * (18446744073709551616 * 2 ^ (k - 64 * (j + 1)))) from by rw [← Int.mul_assoc, Int.mul_comm A, Int.mul_assoc], Int.mul_ediv_cancel_left _ (Int.ne_of_gt (pw _))]
  rw [show A * (18446744073709551616 * 2 ^ (k - 64 * (j + 1))) = 18446744073709551616 * (A * 2 ^ (k - 64 * (j + 1))) from by rw [← Int.mul_assoc, Int.mul_comm A, Int.mul_assoc], Int.mul_emod_right]
end Ty
end Go.Proofs.YtbnmjmlcedkoaabGreatDoor
namespace Go.Proofs.YtbnmjmlcedkoaabGreatDoor
namespace Ty
open Go.RowKit
set_option linter.unusedVariables false
theorem len_pow (y : Int) (h0 : 0 < y) (h1 : y < 18446744073709551616) : ∃ S : Nat, S < 64 ∧ Rd.len y + S = 64 ∧ 9223372036854775808 ≤ y * 2 ^ S ∧ y * 2 ^ S < 18446744073709551616 := by
  obtain ⟨n, rfl⟩ : ∃ n : Nat, y = n := ⟨y.toNat, by omega⟩
  have hb := Rd.log2_b n (by omega)
  have hl : Rd.len (n : Int) = (Nat.log2 n : Int) + 1 := by
    unfold Rd.len Rd.lg
    rw [if_neg (by omega), Int.toNat_natCast]
  have hlt : Nat.log2 n < 64 := by
    by_cases h : Nat.log2 n < 64
    · exact h
    · have h2 : 2 ^ 64 ≤ 2 ^ Nat.log2 n := Nat.pow_le_pow_right (by omega) (by omega)
      have h3 : (2 : Nat) ^ 64 = 18446744073709551616 := by decide
      omega
  refine ⟨63 - Nat.log2 n, by omega, by rw [hl]; omega, ?_, ?_⟩
  · have h2 : 2 ^ Nat.log2 n * 2 ^ (63 - Nat.log2 n) ≤ n * 2 ^ (63 - Nat.log2 n) := Nat.mul_le_mul_right _ hb.1
    rw [← Nat.pow_add, show Nat.log2 n + (63 - Nat.log2 n) = 63 from by omega] at h2
    have h3 : (2 : Nat) ^ 63 = 9223372036854775808 := by decide
    rw [h3] at h2
    have h4 : ((n * 2 ^ (63 - Nat.log2 n) : Nat) : Int) = (n : Int) * 2 ^ (63 - Nat.log2 n) := by rw [Int.natCast_mul, Int.natCast_pow]; rfl
    rw [← h4]; omega
  · have h2 : n * 2 ^ (63 - Nat.log2 n) < 2 ^ (Nat.log2 n + 1) * 2 ^ (63 - Nat.log2 n) := Nat.mul_lt_mul_of_pos_right hb.2 (Nat.pow_pos (by omega))
    rw [← Nat.pow_add, show Nat.log2 n + 1 + (63 - Nat.log2 n) = 64 from by omega] at h2
    have h3 : (2 : Nat) ^ 64 = 18446744073709551616 := by decide
    rw [h3] at h2
    have h4 : ((n * 2 ^ (63 - Nat.log2 n) : Nat) : Int) = (n : Int) * 2 ^ (63 - Nat.log2 n) := by rw [Int.natCast_mul, Int.natCast_pow]; rfl
    rw [← h4]; omega
/-- What is divided, moved up by S places, in its two words. -/
theorem dv_norm (hi lo y : Int) (S : Nat) (hS : S < 64) (hy : y * 2 ^ S < 18446744073709551616) (h0 : 0 ≤ hi) (h1 : hi < y) (l0 : 0 ≤ lo) (l1 : lo < 18446744073709551616) :
    ∃ u, bits .or .u64 (hi * 2 ^ S % 18446744073709551616) (lo / 2 ^ (64 - S)) = u ∧ 0 ≤ u ∧ u < y * 2 ^ S ∧ (hi * 18446744073709551616 + lo) * 2 ^ S = u * 18446744073709551616 + lo * 2 ^ S % 18446744073709551616 := by
  have e : (18446744073709551616 : Int) = 2 ^ S * 2 ^ (64 - S) := by rw [← two64, ← Int.pow_add]; congr 1; omega
  have hP := pw S
  have hR := pw (64 - S)
  have hl0 : 0 ≤ lo / 2 ^ (64 - S) := Int.ediv_nonneg l0 (by omega)
  have hl1 : lo / 2 ^ (64 - S) < 2 ^ S := Int.ediv_lt_of_lt_mul hR (by rw [← e]; exact l1)
  have hs := shl_mod hi (lo / 2 ^ (64 - S)) S hS hl0 hl1
  have hh : hi * 2 ^ S + 2 ^ S ≤ y * 2 ^ S := by
    have : (hi + 1) * 2 ^ S ≤ y * 2 ^ S := Int.mul_le_mul_of_nonneg_right (by omega) (by omega)
    rw [Int.add_mul, Int.one_mul] at this; exact this
  have hn : 0 ≤ hi * 2 ^ S := Int.mul_nonneg h0 (by omega)
  have hsm : hi < 18446744073709551616 := by
    have : y * 1 ≤ y * 2 ^ S := Int.mul_le_mul_of_nonneg_left (by omega) (by omega)
    omega
  rw [Int.emod_eq_of_lt h0 hsm] at hs
  refine ⟨hi * 2 ^ S + lo / 2 ^ (64 - S), ?_, by omega, by omega, ?_⟩
  · rw [hs.2, Int.emod_eq_of_lt hn (by omega)]
  · have h3 : lo * 2 ^ S % 18446744073709551616 = lo % 2 ^ (64 - S) * 2 ^ S := by
      rw [e, Int.mul_comm lo, Int.mul_emod_mul_of_pos _ _ hP, Int.mul_comm]
    have h4 := Int.mul_ediv_add_emod lo (2 ^ (64 - S))
    have h5 : lo * 2 ^ S = lo / 2 ^ (64 - S) * 18446744073709551616 + lo % 2 ^ (64 - S) * 2 ^ S := by
      have : lo * 2 ^ S = (2 ^ (64 - S) * (lo / 2 ^ (64 - S)) + lo % 2 ^ (64 - S)) * 2 ^ S := by rw [h4]
      rw [this, Int.add_mul, e, Int.mul_comm (2 ^ (64 - S)) (lo / _), Int.mul_assoc, Int.mul_comm (2 ^ (64 - S)) (2 ^ S)]
    rw [h3, Int.add_mul, h5, Int.add_mul]
    have h6 : hi * 18446744073709551616 * 2 ^ S = hi * 2 ^ S * 18446744073709551616 := by rw [Int.mul_assoc, Int.mul_comm _ (2 ^ S), ← Int.mul_assoc]
    rw [h6]; omega
def LI (u d Y y1 q r : Int) : Prop := u = q * y1 + r ∧ 0 ≤ r ∧ r < 4294967296 ∧ 0 ≤ q ∧ q ≤ 4294967297 ∧ u * 4294967296 + d < (q + 1) * Y
/-- What a divisor of 64 bits with its highest bit set is in two halves. -/
def Hv (Y y1 y0 : Int) : Prop := Y = y1 * 4294967296 + y0 ∧ 2147483648 ≤ y1 ∧ y1 < 4294967296 ∧ 0 ≤ y0 ∧ y0 < 4294967296
theorem hv_of (Y : Int) (h : 9223372036854775808 ≤ Y) (h1 : Y < 18446744073709551616) : Hv Y (Y / 4294967296) (Y % 4294967296) := ⟨by omega, by omega, by omega, by omega, by omega⟩
theorem li_start {u d Y y1 y0 : Int} (hv : Hv Y y1 y0) (u0 : 0 ≤ u) (u1 : u < Y) (d0 : 0 ≤ d) (d1 : d < 4294967296) : LI u d Y y1 (u / y1) (u % y1) := by
  obtain ⟨rfl, a, b, c, e⟩ := hv
  have h1 := Int.mul_ediv_add_emod u y1
  have h2 := Int.emod_nonneg u (show y1 ≠ 0 by omega)
  have h3 := Int.emod_lt_of_pos u (show 0 < y1 by omega)
  have h4 : u = u / y1 * y1 + u % y1 := by rw [Int.mul_comm]; exact h1.symm
  have h0 : 0 ≤ u / y1 := Int.ediv_nonneg u0 (by omega)
  refine ⟨h4, h2, by omega, h0, dv_first (y1 := y1) (by omega) (by omega) e u1 h4 h2, ?_⟩
  refine dv_low ?_ d1 c h0 (by omega)
  rw [Int.add_mul, Int.one_mul]; omega
theorem mul_small {q y : Int} (h0 : 0 ≤ q) (h1 : q < 4294967296) (y0 : 0 ≤ y) (y1 : y < 4294967296) : 0 ≤ q * y ∧ q * y < 18446744073709551616 := by
  have a : q * y ≤ 4294967295 * y := Int.mul_le_mul_of_nonneg_right (by omega) y0
  have b : 0 ≤ q * y := Int.mul_nonneg h0 y0
  omega
/-- Too great: one less. -/
theorem li_pos {u d Y y1 y0 q r : Int} (hv : Hv Y y1 y0) (h : LI u d Y y1 q r) (u0 : 0 ≤ u) (u1 : u < Y) (d0 : 0 ≤ d) (d1 : d < 4294967296) (hc : 4294967296 ≤ q ∨ q * y0 > 4294967296 * r + d) : q * Y > u * 4294967296 + d ∧ 1 ≤ q := by
  obtain ⟨h1, h2, h3, h4, h5, h6⟩ := h
  have key : q * Y > u * 4294967296 + d := by
    rcases hc with hc | hc
    · exact dv_big hc u1 u0 d1 (by omega)
    · obtain ⟨rfl, _⟩ := hv
      exact (dv_iff h1).2 hc
  refine ⟨key, ?_⟩
  by_cases h : 1 ≤ q
  · exact h
  · have : q = 0 := by omega
    rw [this, Int.zero_mul] at key; omega
theorem li_next {u d Y y1 y0 q r : Int} (hv : Hv Y y1 y0) (h : LI u d Y y1 q r) (u0 : 0 ≤ u) (u1 : u < Y) (d0 : 0 ≤ d) (d1 : d < 4294967296) (hc : 4294967296 ≤ q ∨ q * y0 > 4294967296 * r + d) (hr : r + y1 < 4294967296) : LI u d Y y1 (q - 1) (r + y1) := by
  obtain ⟨k1, k2⟩ := li_pos hv h u0 u1 d0 d1 hc
  obtain ⟨h1, h2, h3, h4, h5, h6⟩ := h
  obtain ⟨_, a, b, c, e⟩ := hv
  exact ⟨dv_step h1, by omega, hr, by omega, by omega, by rw [show q - 1 + 1 = q from by omega]; omega⟩
theorem li_break {u d Y y1 y0 q r : Int} (hv : Hv Y y1 y0) (h : LI u d Y y1 q r) (u0 : 0 ≤ u) (u1 : u < Y) (d0 : 0 ≤ d) (d1 : d < 4294967296) (hc : 4294967296 ≤ q ∨ q * y0 > 4294967296 * r + d) (hr : 4294967296 ≤ r + y1) : (u * 4294967296 + d) / Y = q - 1 := by
  obtain ⟨k1, k2⟩ := li_pos hv h u0 u1 d0 d1 hc
  obtain ⟨h1, h2, h3, h4, h5, h6⟩ := h
  have hv' := hv
  obtain ⟨e0, a, b, c, e⟩ := hv
  refine dv_end ?_ (by rw [show q - 1 + 1 = q from by omega]; omega) (by omega)
  rw [e0]
  intro hh
  have := (dv_iff (dv_step h1)).1 hh
  exact dv_break (by omega) c e hr d0 this
theorem li_end {u d Y y1 y0 q r : Int} (hv : Hv Y y1 y0) (h : LI u d Y y1 q r) (u0 : 0 ≤ u) (u1 : u < Y) (d0 : 0 ≤ d) (d1 : d < 4294967296) (hc : ¬ q * y0 > 4294967296 * r + d) : (u * 4294967296 + d) / Y = q := by
  obtain ⟨h1, h2, h3, h4, h5, h6⟩ := h
  obtain ⟨e0, a, b, c, e⟩ := hv
  refine dv_end ?_ h6 (by omega)
  rw [e0]
  intro hh
  exact hc ((dv_iff h1).1 hh)
/-- A digit is below 2^32, and what is left is below the divisor. -/
theorem dv_dig {u d Y : Int} (u0 : 0 ≤ u) (u1 : u < Y) (d0 : 0 ≤ d) (d1 : d < 4294967296) : 0 ≤ (u * 4294967296 + d) / Y ∧ (u * 4294967296 + d) / Y < 4294967296 ∧ 0 ≤ (u * 4294967296 + d) % Y ∧ (u * 4294967296 + d) % Y < Y := by
  refine ⟨Int.ediv_nonneg (by omega) (by omega), Int.ediv_lt_of_lt_mul (by omega) ?_, Int.emod_nonneg _ (by omega), Int.emod_lt_of_pos _ (by omega)⟩
  have : 4294967296 * (u + 1) ≤ 4294967296 * Y := Int.mul_le_mul_of_nonneg_left (by omega) (by omega)
  omega
/-- What is left, in words of 64 bits. -/
theorem dv_rest {X Y : Int} (hY : 0 < Y) (h1 : Y ≤ 18446744073709551616) : (X - X / Y * Y) % 18446744073709551616 = X % Y := by
  have h := Int.mul_ediv_add_emod X Y
  have e : X - X / Y * Y = X % Y := by rw [Int.mul_comm]; omega
  have a := Int.emod_nonneg X (show Y ≠ 0 by omega)
  have b := Int.emod_lt_of_pos X hY
  rw [e, Int.emod_eq_of_lt a (by omega)]
theorem lz_any (x : Int) (S : Nat) (h0 : 0 ≤ x) (h1 : x < 18446744073709551616) (hS : Rd.len x + S = 64) (w : World) :
    Calls Tryz.prog 105 #[.int .u64 x] w fun e w' => e = .returned (.int .i64 (S : Int)) ∧ w' = w := by
  have hb := Rd.len_b x h0 h1
  have hw : IntKind.i64.wrap (64 - Rd.len x) = (S : Int) := by rw [IntKind.wrap_i64]; omega
  have HS : Hid (Rd.len x + S = 64) := hS
  clear hS
  go_enter Tryz.func105, Tryz.ntmps105
  go_wp2_with (fail)
  refine (Rd.len_any x h0 h1 _).mono ?_
  rintro e9 w9 ⟨rfl, hw9⟩
  subst w9
  go_wp2
  go_ret
  refine ⟨Rd.ret_int ?_, rfl⟩
  have := HS.out
  omega
theorem li_wrap {u d Y y1 y0 : Int} (hv : Hv Y y1 y0) (u0 : 0 ≤ u) (u1 : u < Y) (d0 : 0 ≤ d) (d1 : d < 4294967296) : ∃ q r, IntKind.u64.wrap (u.tdiv y1) = q ∧ IntKind.u64.wrap (u - IntKind.u64.wrap (q * y1)) = r ∧ LI u d Y y1 q r := by
  have h := li_start hv u0 u1 d0 d1
  have hv' := hv
  obtain ⟨e, a, b, c, f⟩ := hv
  have hq : IntKind.u64.wrap (u.tdiv y1) = u / y1 := by
    rw [IntKind.wrap_u64, Int.tdiv_eq_ediv_of_nonneg u0]
    obtain ⟨h1, h2, h3, h4, h5, h6⟩ := h
    omega
  refine ⟨u / y1, u % y1, hq, ?_, h⟩
  have h1 := Int.mul_ediv_add_emod u y1
  obtain ⟨g1, h2, h3, h4, h5, h6⟩ := h
  rw [IntKind.wrap_u64, IntKind.wrap_u64]
  generalize u / y1 * y1 = z at *
  omega
/-- The tests of a round, in words. -/
theorem dv_tests {u d Y y1 y0 q r : Int} (hv : Hv Y y1 y0) (h : LI u d Y y1 q r) (d0 : 0 ≤ d) (d1 : d < 4294967296) (hq : q < 4294967296) : IntKind.u64.wrap (q * y0) = q * y0 ∧ IntKind.u64.wrap (IntKind.u64.wrap (4294967296 * r) + d) = 4294967296 * r + d := by
  obtain ⟨h1, h2, h3, h4, h5, h6⟩ := h
  obtain ⟨e, a, b, c, f⟩ := hv
  have := mul_small h4 hq c f
  simp only [IntKind.wrap_u64]
  omega
theorem dv_less {u d Y y1 y0 q r : Int} (hv : Hv Y y1 y0) (h : LI u d Y y1 q r) (hq : 1 ≤ q) : IntKind.u64.wrap (q - 1) = q - 1 ∧ IntKind.u64.wrap (r + y1) = r + y1 := by
  obtain ⟨h1, h2, h3, h4, h5, h6⟩ := h
  obtain ⟨e, a, b, c, f⟩ := hv
  simp only [IntKind.wrap_u64]
  omega
theorem dv_second {u d Y X : Int} (hX : (u * 4294967296 + d) / Y = X) (h0 : 9223372036854775808 ≤ Y) (h1 : Y < 18446744073709551616) : IntKind.u64.wrap (IntKind.u64.wrap (IntKind.u64.wrap (u * 4294967296) + d) - IntKind.u64.wrap (X * Y)) = (u * 4294967296 + d) % Y := by
  rw [← dv_rest (X := u * 4294967296 + d) (Y := Y) (by omega) (by omega), hX]
  simp only [IntKind.wrap_u64]
  generalize X * Y = z
  omega
theorem dv_third {X1 X2 : Int} (a : 0 ≤ X1) (b : X1 < 4294967296) (c : 0 ≤ X2) (d : X2 < 4294967296) : IntKind.u64.wrap (IntKind.u64.wrap (X1 * 4294967296) + X2) = X1 * 4294967296 + X2 := by
  simp only [IntKind.wrap_u64]; omega
set_option maxRecDepth 4000 in
set_option maxHeartbeats 3200000 in
theorem div64_big (hi lo y Y y1 y0 u t d1 d0 : Int) (S : Nat) (hS : S < 64) (hlen : Rd.len y + S = 64) (hy0 : 0 < y) (hy1 : y < 18446744073709551616) (hh0 : 0 < hi) (hh1 : hi < y) (l0 : 0 ≤ lo) (l1 : lo < 18446744073709551616)
    (eY : IntKind.u64.wrap (y * 2 ^ S) = Y) (hv : Hv Y y1 y0) (e1 : Y / 4294967296 = y1) (e2 : bits .and .u64 Y 4294967295 = y0) (e3 : bits .or .u64 (IntKind.u64.wrap (hi * 2 ^ S)) (lo / 2 ^ (64 - S)) = u) (e4 : IntKind.u64.wrap (lo * 2 ^ S) = t) (e5 : t / 4294967296 = d1) (e6 : bits .and .u64 t 4294967295 = d0) (u0 : 0 ≤ u) (u1 : u < Y) (a0 : 0 ≤ d1) (a1 : d1 < 4294967296) (b0 : 0 ≤ d0) (b1 : d0 < 4294967296) (w : World) :
    Calls Tryz.prog 87 #[.int .u64 hi, .int .u64 lo, .int .u64 y] w fun e w' => e = .returned (.tuple #[.int .u64 ((u * 4294967296 + d1) / Y * 4294967296 + ((u * 4294967296 + d1) % Y * 4294967296 + d0) / Y), .int .u64 (((u * 4294967296 + d1) % Y * 4294967296 + d0) % Y / 2 ^ S)]) ∧ w' = w := by
  have HL : Hid (∀ w, Calls Tryz.prog 105 #[.int .u64 y] w fun e w' => e = .returned (.int .i64 (S : Int)) ∧ w' = w) := fun w => lz_any y S (by omega) hy1 hlen w
  obtain ⟨q9, r9, e7, e8, li9⟩ := li_wrap hv u0 u1 a0 a1
  have LS : Hid (LI u d1 Y y1 q9 r9) := li9
  have HV : Hid (Hv Y y1 y0) := hv
  have hYb : 9223372036854775808 ≤ Y ∧ Y < 18446744073709551616 := by obtain ⟨k, m1, m2, m3, m4⟩ := hv; omega
  have hy1p : 0 < y1 := by obtain ⟨k, m1, m2, m3, m4⟩ := hv; omega
  have hy10 : (y1 == 0) = false := by obtain ⟨k, m1, m2, m3, m4⟩ := hv; exact beq_false_of_ne (by omega)
  obtain ⟨g1, g2, g3, g4⟩ := dv_dig u0 u1 a0 a1
  have gs := dv_second (u := u) (d := d1) (Y := Y) rfl hYb.1 hYb.2
  obtain ⟨X1, hX1⟩ : ∃ X1, X1 = (u * 4294967296 + d1) / Y := ⟨_, rfl⟩
  obtain ⟨v, hv9⟩ : ∃ v, v = (u * 4294967296 + d1) % Y := ⟨_, rfl⟩
  rw [← hX1] at g1 g2 gs
  rw [← hv9] at g3 g4 gs
  rw [← hX1, ← hv9]
  have HX1 : Hid (X1 = (u * 4294967296 + d1) / Y) := hX1
  clear hX1 hv9
  obtain ⟨q8, r8, e9, e10, li8⟩ := li_wrap hv g3 g4 b0 b1
  have LT : Hid (LI v d0 Y y1 q8 r8) := li8
  obtain ⟨i1, i2, i3, i4⟩ := dv_dig g3 g4 b0 b1
  have gt := dv_second (u := v) (d := d0) (Y := Y) rfl hYb.1 hYb.2
  obtain ⟨X2, hX2⟩ : ∃ X2, X2 = (v * 4294967296 + d0) / Y := ⟨_, rfl⟩
  obtain ⟨z, hz9⟩ : ∃ z, z = (v * 4294967296 + d0) % Y := ⟨_, rfl⟩
  rw [← hX2] at i1 i2 gt
  rw [← hz9] at i3 i4 gt
  rw [← hX2, ← hz9]
  have HX2 : Hid (X2 = (v * 4294967296 + d0) / Y) := hX2
  have g5 := dv_third g1 g2 i1 i2
  clear hX2 hz9 hlen li8 li9 hv
  have hyI : ¬ y ≤ hi := by omega
  go_enter Tryz.func87, Tryz.ntmps87
  go_wp2_with (fail)
  refine (HL.out _).mono ?_
  rintro e9 w9 ⟨rfl, hw9⟩
  subst w9
  go_wp2
  clear e1 e2 e3 e4 e5 e6 e7 e8 eY hyI HL
  go_loop [15, 16] (fun q r => ∃ Q R, q = .int .u64 Q ∧ r = .int .u64 R ∧ LI u d1 Y y1 Q R) (fun q _ => (intOf q).toNat)
  case atStart => exact ⟨_, _, rfl, rfl, LS.out⟩
  case round =>
    clear LS
    obtain ⟨Q, R, rfl, rfl, li⟩ := hrel
    have LQ : Hid (LI u d1 Y y1 Q R) := li
    have hQ0 : 0 ≤ Q := li.2.2.2.1
    by_cases hb : 4294967296 ≤ Q
    · clear li
      have hor : 4294967296 ≤ Q ∨ Q * y0 > 4294967296 * R + d1 := Or.inl hb
      have hp := (li_pos HV.out LQ.out u0 u1 a0 a1 hor).2
      obtain ⟨w1, w2⟩ := dv_less HV.out LQ.out hp
      by_cases hr : R + y1 < 4294967296
      · have hr2 : ¬ 4294967296 ≤ R + y1 := by omega
        have LN : Hid (LI u d1 Y y1 (Q - 1) (R + y1)) := li_next HV.out LQ.out u0 u1 a0 a1 hor hr
        clear hr hor
        go_wp2
        go_round
        case rel => exact ⟨_, _, rfl, rfl, LN.out⟩
        case measure => simp [intOf]; omega
      · have hr2 : 4294967296 ≤ R + y1 := by omega
        have hx : X1 = Q - 1 := HX1.out.trans (li_break HV.out LQ.out u0 u1 a0 a1 hor hr2)
        have w3 : IntKind.u64.wrap (Q - 1) = X1 := w1.trans hx.symm
        clear w1
        clear hr hx hor
        go_wp2
        clear w3 w2 hr2 hp hQ0 LQ
        go_loop [18, 16] (fun q r => ∃ Q R, q = .int .u64 Q ∧ r = .int .u64 R ∧ LI v d0 Y y1 Q R) (fun q _ => (intOf q).toNat)
        case atStart => exact ⟨_, _, rfl, rfl, LT.out⟩
        case round =>
          clear LT
          obtain ⟨Q, R, rfl, rfl, li⟩ := hrel
          have LQ : Hid (LI v d0 Y y1 Q R) := li
          have hQ0 : 0 ≤ Q := li.2.2.2.1
          by_cases hb : 4294967296 ≤ Q
          · clear li
            have hor : 4294967296 ≤ Q ∨ Q * y0 > 4294967296 * R + d0 := Or.inl hb
            have hp := (li_pos HV.out LQ.out g3 g4 b0 b1 hor).2
            obtain ⟨w1, w2⟩ := dv_less HV.out LQ.out hp
            by_cases hr : R + y1 < 4294967296
            · have hr2 : ¬ 4294967296 ≤ R + y1 := by omega
              have LN : Hid (LI v d0 Y y1 (Q - 1) (R + y1)) := li_next HV.out LQ.out g3 g4 b0 b1 hor hr
              clear hr hor
              go_wp2
              go_round
              case rel => exact ⟨_, _, rfl, rfl, LN.out⟩
              case measure => simp [intOf]; omega
            · have hr2 : 4294967296 ≤ R + y1 := by omega
              have hx : X2 = Q - 1 := HX2.out.trans (li_break HV.out LQ.out g3 g4 b0 b1 hor hr2)
              have w3 : IntKind.u64.wrap (Q - 1) = X2 := w1.trans hx.symm
              clear w1
              clear hr hx hor
              go_wp2
              clear w3 w2 hr2 hp hQ0 LQ
              go_ret2
              exact ⟨ret_two (by first | rfl | exact g5) (by first | rfl | exact congrArg (· / 2 ^ S) gt), rfl⟩
          · obtain ⟨t1, t2⟩ := dv_tests HV.out LQ.out b0 b1 (by omega)
            clear li
            have hb2 : Q < 4294967296 := by omega
            by_cases hc : Q * y0 > 4294967296 * R + d0
            · have hor : 4294967296 ≤ Q ∨ Q * y0 > 4294967296 * R + d0 := Or.inr hc
              have hp := (li_pos HV.out LQ.out g3 g4 b0 b1 hor).2
              obtain ⟨w1, w2⟩ := dv_less HV.out LQ.out hp
              by_cases hr : R + y1 < 4294967296
              · have hr2 : ¬ 4294967296 ≤ R + y1 := by omega
                have LN : Hid (LI v d0 Y y1 (Q - 1) (R + y1)) := li_next HV.out LQ.out g3 g4 b0 b1 hor hr
                clear hr hor
                go_wp2
                go_round
                case rel => exact ⟨_, _, rfl, rfl, LN.out⟩
                case measure => simp [intOf]; omega
              · have hr2 : 4294967296 ≤ R + y1 := by omega
                have hx : X2 = Q - 1 := HX2.out.trans (li_break HV.out LQ.out g3 g4 b0 b1 hor hr2)
                have w3 : IntKind.u64.wrap (Q - 1) = X2 := w1.trans hx.symm
                clear w1
                clear hr hx hor
                go_wp2
                clear w3 w2 hr2 hp hQ0 LQ
                go_ret2
                exact ⟨ret_two (by first | rfl | exact g5) (by first | rfl | exact congrArg (· / 2 ^ S) gt), rfl⟩
            · have hx : X2 = Q := HX2.out.trans (li_end HV.out LQ.out g3 g4 b0 b1 hc)
              subst Q
              go_wp2
              clear LQ t1 t2 hc hb hb2 hQ0
              go_ret2
              exact ⟨ret_two (by first | rfl | exact g5) (by first | rfl | exact congrArg (· / 2 ^ S) gt), rfl⟩
    · obtain ⟨t1, t2⟩ := dv_tests HV.out LQ.out a0 a1 (by omega)
      clear li
      have hb2 : Q < 4294967296 := by omega
      by_cases hc : Q * y0 > 4294967296 * R + d1
      · have hor : 4294967296 ≤ Q ∨ Q * y0 > 4294967296 * R + d1 := Or.inr hc
        have hp := (li_pos HV.out LQ.out u0 u1 a0 a1 hor).2
        obtain ⟨w1, w2⟩ := dv_less HV.out LQ.out hp
        by_cases hr : R + y1 < 4294967296
        · have hr2 : ¬ 4294967296 ≤ R + y1 := by omega
          have LN : Hid (LI u d1 Y y1 (Q - 1) (R + y1)) := li_next HV.out LQ.out u0 u1 a0 a1 hor hr
          clear hr hor
          go_wp2
          go_round
          case rel => exact ⟨_, _, rfl, rfl, LN.out⟩
          case measure => simp [intOf]; omega
        · have hr2 : 4294967296 ≤ R + y1 := by omega
          have hx : X1 = Q - 1 := HX1.out.trans (li_break HV.out LQ.out u0 u1 a0 a1 hor hr2)
          have w3 : IntKind.u64.wrap (Q - 1) = X1 := w1.trans hx.symm
          clear w1
          clear hr hx hor
          go_wp2
          clear w3 w2 hr2 hp hQ0 LQ
          go_loop [18, 16] (fun q r => ∃ Q R, q = .int .u64 Q ∧ r = .int .u64 R ∧ LI v d0 Y y1 Q R) (fun q _ => (intOf q).toNat)
          case atStart => exact ⟨_, _, rfl, rfl, LT.out⟩
          case round =>
            clear LT
            obtain ⟨Q, R, rfl, rfl, li⟩ := hrel
            have LQ : Hid (LI v d0 Y y1 Q R) := li
            have hQ0 : 0 ≤ Q := li.2.2.2.1
            by_cases hb : 4294967296 ≤ Q
            · clear li
              have hor : 4294967296 ≤ Q ∨ Q * y0 > 4294967296 * R + d0 := Or.inl hb
              have hp := (li_pos HV.out LQ.out g3 g4 b0 b1 hor).2
              obtain ⟨w1, w2⟩ := dv_less HV.out LQ.out hp
              by_cases hr : R + y1 < 4294967296
              · have hr2 : ¬ 4294967296 ≤ R + y1 := by omega
                have LN : Hid (LI v d0 Y y1 (Q - 1) (R + y1)) := li_next HV.out LQ.out g3 g4 b0 b1 hor hr
                clear hr hor
                go_wp2
                go_round
                case rel => exact ⟨_, _, rfl, rfl, LN.out⟩
                case measure => simp [intOf]; omega
              · have hr2 : 4294967296 ≤ R + y1 := by omega
                have hx : X2 = Q - 1 := HX2.out.trans (li_break HV.out LQ.out g3 g4 b0 b1 hor hr2)
                have w3 : IntKind.u64.wrap (Q - 1) = X2 := w1.trans hx.symm
                clear w1
                clear hr hx hor
                go_wp2
                clear w3 w2 hr2 hp hQ0 LQ
                go_ret2
                exact ⟨ret_two (by first | rfl | exact g5) (by first | rfl | exact congrArg (· / 2 ^ S) gt), rfl⟩
            · obtain ⟨t1, t2⟩ := dv_tests HV.out LQ.out b0 b1 (by omega)
              clear li
              have hb2 : Q < 4294967296 := by omega
              by_cases hc : Q * y0 > 4294967296 * R + d0
              · have hor : 4294967296 ≤ Q ∨ Q * y0 > 4294967296 * R + d0 := Or.inr hc
                have hp := (li_pos HV.out LQ.out g3 g4 b0 b1 hor).2
                obtain ⟨w1, w2⟩ := dv_less HV.out LQ.out hp
                by_cases hr : R + y1 < 4294967296
                · have hr2 : ¬ 4294967296 ≤ R + y1 := by omega
                  have LN : Hid (LI v d0 Y y1 (Q - 1) (R + y1)) := li_next HV.out LQ.out g3 g4 b0 b1 hor hr
                  clear hr hor
                  go_wp2
                  go_round
                  case rel => exact ⟨_, _, rfl, rfl, LN.out⟩
                  case measure => simp [intOf]; omega
                · have hr2 : 4294967296 ≤ R + y1 := by omega
                  have hx : X2 = Q - 1 := HX2.out.trans (li_break HV.out LQ.out g3 g4 b0 b1 hor hr2)
                  have w3 : IntKind.u64.wrap (Q - 1) = X2 := w1.trans hx.symm
                  clear w1
                  clear hr hx hor
                  go_wp2
                  clear w3 w2 hr2 hp hQ0 LQ
                  go_ret2
                  exact ⟨ret_two (by first | rfl | exact g5) (by first | rfl | exact congrArg (· / 2 ^ S) gt), rfl⟩
              · have hx : X2 = Q := HX2.out.trans (li_end HV.out LQ.out g3 g4 b0 b1 hc)
                subst Q
                go_wp2
                clear LQ t1 t2 hc hb hb2 hQ0
                go_ret2
                exact ⟨ret_two (by first | rfl | exact g5) (by first | rfl | exact congrArg (· / 2 ^ S) gt), rfl⟩
      · have hx : X1 = Q := HX1.out.trans (li_end HV.out LQ.out u0 u1 a0 a1 hc)
        subst Q
        go_wp2
        clear LQ t1 t2 hc hb hb2 hQ0
        go_loop [18, 16] (fun q r => ∃ Q R, q = .int .u64 Q ∧ r = .int .u64 R ∧ LI v d0 Y y1 Q R) (fun q _ => (intOf q).toNat)
        case atStart => exact ⟨_, _, rfl, rfl, LT.out⟩
        case round =>
          clear LT
          obtain ⟨Q, R, rfl, rfl, li⟩ := hrel
          have LQ : Hid (LI v d0 Y y1 Q R) := li
          have hQ0 : 0 ≤ Q := li.2.2.2.1
          by_cases hb : 4294967296 ≤ Q
          · clear li
            have hor : 4294967296 ≤ Q ∨ Q * y0 > 4294967296 * R + d0 := Or.inl hb
            have hp := (li_pos HV.out LQ.out g3 g4 b0 b1 hor).2
            obtain ⟨w1, w2⟩ := dv_less HV.out LQ.out hp
            by_cases hr : R + y1 < 4294967296
            · have hr2 : ¬ 4294967296 ≤ R + y1 := by omega
              have LN : Hid (LI v d0 Y y1 (Q - 1) (R + y1)) := li_next HV.out LQ.out g3 g4 b0 b1 hor hr
              clear hr hor
              go_wp2
              go_round
              case rel => exact ⟨_, _, rfl, rfl, LN.out⟩
              case measure => simp [intOf]; omega
            · have hr2 : 4294967296 ≤ R + y1 := by omega
              have hx : X2 = Q - 1 := HX2.out.trans (li_break HV.out LQ.out g3 g4 b0 b1 hor hr2)
              have w3 : IntKind.u64.wrap (Q - 1) = X2 := w1.trans hx.symm
              clear w1
              clear hr hx hor
              go_wp2
              clear w3 w2 hr2 hp hQ0 LQ
              go_ret2
              exact ⟨ret_two (by first | rfl | exact g5) (by first | rfl | exact congrArg (· / 2 ^ S) gt), rfl⟩
          · obtain ⟨t1, t2⟩ := dv_tests HV.out LQ.out b0 b1 (by omega)
            clear li
            have hb2 : Q < 4294967296 := by omega
            by_cases hc : Q * y0 > 4294967296 * R + d0
            · have hor : 4294967296 ≤ Q ∨ Q * y0 > 4294967296 * R + d0 := Or.inr hc
              have hp := (li_pos HV.out LQ.out g3 g4 b0 b1 hor).2
              obtain ⟨w1, w2⟩ := dv_less HV.out LQ.out hp
              by_cases hr : R + y1 < 4294967296
              · have hr2 : ¬ 4294967296 ≤ R + y1 := by omega
                have LN : Hid (LI v d0 Y y1 (Q - 1) (R + y1)) := li_next HV.out LQ.out g3 g4 b0 b1 hor hr
                clear hr hor
                go_wp2
                go_round
                case rel => exact ⟨_, _, rfl, rfl, LN.out⟩
                case measure => simp [intOf]; omega
              · have hr2 : 4294967296 ≤ R + y1 := by omega
                have hx : X2 = Q - 1 := HX2.out.trans (li_break HV.out LQ.out g3 g4 b0 b1 hor hr2)
                have w3 : IntKind.u64.wrap (Q - 1) = X2 := w1.trans hx.symm
                clear w1
                clear hr hx hor
                go_wp2
                clear w3 w2 hr2 hp hQ0 LQ
                go_ret2
                exact ⟨ret_two (by first | rfl | exact g5) (by first | rfl | exact congrArg (· / 2 ^ S) gt), rfl⟩
            · have hx : X2 = Q := HX2.out.trans (li_end HV.out LQ.out g3 g4 b0 b1 hc)
              subst Q
              go_wp2
              clear LQ t1 t2 hc hb hb2 hQ0
              go_ret2
              exact ⟨ret_two (by first | rfl | exact g5) (by first | rfl | exact congrArg (· / 2 ^ S) gt), rfl⟩
end Ty
end Go.Proofs.YtbnmjmlcedkoaabGreatDoor
namespace Go.Proofs.YtbnmjmlcedkoaabGreatDoor
namespace Ty
open Go.RowKit
set_option linter.unusedVariables false
theorem quo_b {hi lo y : Int} (h0 : 0 ≤ hi) (h1 : hi < y) (l0 : 0 ≤ lo) (l1 : lo < 18446744073709551616) : 0 ≤ (hi * 18446744073709551616 + lo) / y ∧ (hi * 18446744073709551616 + lo) / y < 18446744073709551616 ∧ 0 ≤ (hi * 18446744073709551616 + lo) % y ∧ (hi * 18446744073709551616 + lo) % y < y := by
  refine ⟨Int.ediv_nonneg (by omega) (by omega), Int.ediv_lt_of_lt_mul (by omega) ?_, Int.emod_nonneg _ (by omega), Int.emod_lt_of_pos _ (by omega)⟩
  have : 18446744073709551616 * (hi + 1) ≤ 18446744073709551616 * y := Int.mul_le_mul_of_nonneg_left (by omega) (by omega)
  omega
/-- Both words of what is divided, in halves: the quotient by two digits, and what is left. -/
theorem dv_all {X y P Y u t : Int} (hP : 0 < P) (hY : y * P = Y) (hy : 0 < Y) (hX : X * P = u * 18446744073709551616 + t) :
    (u * 4294967296 + t / 4294967296) / Y * 4294967296 + ((u * 4294967296 + t / 4294967296) % Y * 4294967296 + t % 4294967296) / Y = X / y ∧ ((u * 4294967296 + t / 4294967296) % Y * 4294967296 + t % 4294967296) % Y / P = X % y := by
  obtain ⟨h1, h2⟩ := dv_two (u * 4294967296 + t / 4294967296) (t % 4294967296) 4294967296 Y hy
  have e : (u * 4294967296 + t / 4294967296) * 4294967296 + t % 4294967296 = X * P := by rw [hX]; omega
  rw [e] at h1 h2
  rw [← h1, ← h2, ← hY]
  exact dv_scale X y P hP
set_option maxHeartbeats 800000 in
theorem div64_any (hi lo y : Int) (h0 : 0 ≤ hi) (h1 : hi < y) (hy : y < 18446744073709551616) (l0 : 0 ≤ lo) (l1 : lo < 18446744073709551616) (w : World) :
    Calls Tryz.prog 87 #[.int .u64 hi, .int .u64 lo, .int .u64 y] w fun e w' => e = .returned (.tuple #[.int .u64 ((hi * 18446744073709551616 + lo) / y), .int .u64 ((hi * 18446744073709551616 + lo) % y)]) ∧ ∃ m, w' = w.drewN m := by
  by_cases hz : hi = 0
  · subst hz
    rw [show (0 : Int) * 18446744073709551616 + lo = lo from by omega]
    have hyI : ¬ y ≤ 0 := by omega
    have hyp : (y == 0) = false := beq_false_of_ne (by omega)
    have e1 : IntKind.u64.wrap (lo.tdiv y) = lo / y := by
      rw [IntKind.wrap_u64, Int.tdiv_eq_ediv_of_nonneg l0]
      have a := Int.ediv_nonneg l0 (show 0 ≤ y by omega)
      have b := Int.ediv_le_self y l0
      omega
    have e2 : lo.tmod y = lo % y := Int.tmod_eq_emod_of_nonneg l0
    have e3 : IntKind.u64.wrap (lo % y) = lo % y := by
      rw [IntKind.wrap_u64]
      have a := Int.emod_nonneg lo (show y ≠ 0 by omega)
      have b := Int.emod_lt_of_pos lo (show 0 < y by omega)
      omega
    go_enter Tryz.func87, Tryz.ntmps87
    go_wp2
    go_quiet (fail)
    go_wp2
    go_ret2
    exact ⟨ret_two (by first | rfl | exact e1) (by first | rfl | exact e2 | exact e3), _, rfl⟩
  · obtain ⟨S, hS, hlen, n1, n2⟩ := len_pow y (by omega) hy
    obtain ⟨u, e3, u0, u1, hX⟩ := dv_norm hi lo y S hS n2 h0 h1 l0 l1
    obtain ⟨Y, eY⟩ : ∃ Y, Y = y * 2 ^ S := ⟨_, rfl⟩
    obtain ⟨t, et⟩ : ∃ t, t = lo * 2 ^ S % 18446744073709551616 := ⟨_, rfl⟩
    have tb : 0 ≤ t ∧ t < 18446744073709551616 := by omega
    rw [← eY] at n1 n2 u1
    rw [← et] at hX
    obtain ⟨k1, k2⟩ := dv_all (X := hi * 18446744073709551616 + lo) (y := y) (P := 2 ^ S) (Y := Y) (u := u) (t := t) (pw S) eY.symm (by omega) hX
    refine (div64_big hi lo y Y (Y / 4294967296) (Y % 4294967296) u t (t / 4294967296) (t % 4294967296) S hS hlen (by omega) hy (by omega) h1 l0 l1 (by rw [IntKind.wrap_u64, ← eY]; omega) (hv_of Y n1 n2) rfl (and32 Y (by omega) n2) (by rw [IntKind.wrap_u64]; exact e3) (by rw [IntKind.wrap_u64]; exact et.symm) rfl (and32 t tb.1 tb.2) u0 u1 (by omega) (by omega) (by omega) (by omega) w).mono ?_
    rintro e9 w9 ⟨rfl, rfl⟩
    exact ⟨by rw [k1, k2], 0, rfl⟩
end Ty
end Go.Proofs.YtbnmjmlcedkoaabGreatDoor
namespace Go.Proofs.YtbnmjmlcedkoaabGreatDoor
namespace Ty
open Go.RowKit
set_option linter.unusedVariables false
set_option maxHeartbeats 800000 in
theorem eq6 (T : TypeId) (hu : Tryz.prog.underlying T = some (.array 6 22)) (a0 a1 a2 a3 a4 a5 b0 b1 b2 b3 b4 b5 : Int) (w : World) :
    (Op.equalIn 10000 T (.agg #[.int .u64 a0, .int .u64 a1, .int .u64 a2, .int .u64 a3, .int .u64 a4, .int .u64 a5]) (.agg #[.int .u64 b0, .int .u64 b1, .int .u64 b2, .int .u64 b3, .int .u64 b4, .int .u64 b5])).run Tryz.prog w = .ok (a0 == b0 && a1 == b1 && a2 == b2 && a3 == b3 && a4 == b4 && a5 == b5) w := by
  have uU := Tryz.underlying22
  have aU := Tryz.isAgg22
  have zU := Tryz.sizeOf22
  rw [show (10000 : Nat) = 9999 + 1 from rfl, Op.equalIn]
  simp only [Sem.run_bind, run_underlying hu, Result.andThen_ok]
  simp only [Std.Legacy.Range.forIn_eq_forIn_range', Std.Legacy.Range.size, Nat.sub_zero, Nat.add_sub_cancel, Nat.div_one, List.range'_succ, List.range'_zero, List.forIn_cons, List.forIn_nil]
  go_simp
  by_cases h0 : a0 = b0
  · by_cases h1 : a1 = b1
    · by_cases h2 : a2 = b2
      · by_cases h3 : a3 = b3
        · by_cases h4 : a4 = b4 <;> by_cases h5 : a5 = b5 <;> simp [h0, h1, h2, h3, h4, h5]
        · simp [h0, h1, h2, h3]
      · simp [h0, h1, h2]
    · simp [h0, h1]
  · simp [h0]
/-- Do two numbers have the same six words? -/
def same (N M : Int) : Bool := wd N 0 == wd M 0 && wd N 1 == wd M 1 && wd N 2 == wd M 2 && wd N 3 == wd M 3 && wd N 4 == wd M 4 && wd N 5 == wd M 5
theorem eq_sm (T : TypeId) (hu : Tryz.prog.underlying T = some (.array 6 22)) (N M : Int) (w : World) : (Op.equalIn 10000 T (.agg (sm N)) (.agg (sm M))).run Tryz.prog w = .ok (same N M) w := eq6 T hu _ _ _ _ _ _ _ _ _ _ _ _ w
theorem same_refl (N : Int) : same N N = true := by unfold same; simp
end Ty
end Go.Proofs.YtbnmjmlcedkoaabGreatDoor
