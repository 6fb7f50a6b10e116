import Derived.WalkKit
import Derived.WalkSmall
namespace Go.Proofs.YtgoigcpdfecfhaaGreatDoor
namespace Rd
open Go.RowKit
def lg (x : Int) : Int := (Nat.log2 x.toNat : Int)
def len (x : Int) : Int := if x ≤ 0 then 0 else lg x + 1
theorem log2_of (n k : Nat) (h : 2 ^ k ≤ n) (h2 : n < 2 ^ (k + 1)) : Nat.log2 n = k := by
  have : n ≠ 0 := by have := Nat.two_pow_pos k; omega
  exact (Nat.log2_eq_iff this).2 ⟨h, h2⟩
theorem log2_b (n : Nat) (h : n ≠ 0) : 2 ^ Nat.log2 n ≤ n ∧ n < 2 ^ (Nat.log2 n + 1) := (Nat.log2_eq_iff h).1 rfl
theorem log2_div (n k : Nat) (h : 2 ^ k ≤ n) : Nat.log2 (n / 2 ^ k) + k = Nat.log2 n := by
  have hk := Nat.two_pow_pos k
  have hq : 0 < n / 2 ^ k := Nat.div_pos h hk
  have hb := log2_b (n / 2 ^ k) (by omega)
  refine (log2_of n _ ?_ ?_).symm
  · rw [Nat.pow_add]; exact Nat.le_trans (Nat.mul_le_mul_right _ hb.1) (Nat.div_mul_le_self n (2 ^ k))
  · have h3 : n < (n / 2 ^ k + 1) * 2 ^ k := by
      rw [Nat.add_mul, Nat.one_mul]; have h5 := Nat.div_add_mod n (2 ^ k); have := Nat.mod_lt n hk; rw [Nat.mul_comm] at h5; omega
    have h4 : (n / 2 ^ k + 1) * 2 ^ k ≤ 2 ^ (Nat.log2 (n / 2 ^ k) + 1) * 2 ^ k := Nat.mul_le_mul_right _ hb.2
    rw [show Nat.log2 (n / 2 ^ k) + k + 1 = (Nat.log2 (n / 2 ^ k) + 1) + k from by omega, Nat.pow_add]; omega
theorem len_div (x : Int) (k : Nat) (h : (2 : Int) ^ k ≤ x) : len (x / 2 ^ k) + k = len x := by
  have hp : (0 : Int) < 2 ^ k := by exact_mod_cast Nat.two_pow_pos k
  obtain ⟨n, rfl⟩ := Int.eq_ofNat_of_zero_le (show 0 ≤ x by omega)
  have h' : 2 ^ k ≤ n := by exact_mod_cast h
  have hq : 0 < n / 2 ^ k := Nat.div_pos h' (Nat.two_pow_pos k)
  have hn : 0 < n := by have := Nat.two_pow_pos k; omega
  have e : (n : Int) / 2 ^ k = ((n / 2 ^ k : Nat) : Int) := by simp
  rw [e]; unfold len lg
  rw [if_neg (by omega), if_neg (by omega), Int.toNat_natCast, Int.toNat_natCast]
  have := log2_div n k h'; omega
theorem len_32 (x : Int) (h : 4294967296 ≤ x) : len (x / 4294967296) + 32 = len x := len_div x 32 h
theorem len_16 (x : Int) (h : 65536 ≤ x) : len (x / 65536) + 16 = len x := len_div x 16 h
theorem len_8 (x : Int) (h : 256 ≤ x) : len (x / 256) + 8 = len x := len_div x 8 h
def tab : ByteArray := ⟨#[0, 1, 2, 2, 3, 3, 3, 3, 4, 4, 4, 4, 4, 4, 4, 4, 5, 5, 5, 5, 5, 5, 5, 5, 5, 5, 5, 5, 5, 5, 5, 5, 6, 6, 6, 6, 6, 6, 6, 6, 6, 6, 6, 6, 6, 6, 6, 6, 6, 6, 6, 6, 6, 6, 6, 6, 6, 6, 6, 6, 6, 6, 6, 6, 7, 7, 7, 7, 7, 7, 7, 7, 7, 7, 7, 7, 7, 7, 7, 7, 7, 7, 7, 7, 7, 7, 7, 7, 7, 7, 7, 7, 7, 7, 7, 7, 7, 7, 7, 7, 7, 7, 7, 7, 7, 7, 7, 7, 7, 7, 7, 7, 7, 7, 7, 7, 7, 7, 7, 7, 7, 7, 7, 7, 7, 7, 7, 7, 8, 8, 8, 8, 8, 8, 8, 8, 8, 8, 8, 8, 8, 8, 8, 8, 8, 8, 8, 8, 8, 8, 8, 8, 8, 8, 8, 8, 8, 8, 8, 8, 8, 8, 8, 8, 8, 8, 8, 8, 8, 8, 8, 8, 8, 8, 8, 8, 8, 8, 8, 8, 8, 8, 8, 8, 8, 8, 8, 8, 8, 8, 8, 8, 8, 8, 8, 8, 8, 8, 8, 8, 8, 8, 8, 8, 8, 8, 8, 8, 8, 8, 8, 8, 8, 8, 8, 8, 8, 8, 8, 8, 8, 8, 8, 8, 8, 8, 8, 8, 8, 8, 8, 8, 8, 8, 8, 8, 8, 8, 8, 8, 8, 8, 8, 8, 8, 8, 8, 8, 8, 8, 8, 8, 8, 8, 8, 8]⟩
set_option maxRecDepth 100000 in
theorem tab_get (x : Int) (h0 : 0 ≤ x) (h1 : x < 256) (h : x.toNat < tab.size) : ((tab[x.toNat]'h).toNat : Int) = len x := by
  have H : ∀ k : Fin 256, (((tab.data.toList[k.val]'k.isLt).toNat : Nat) : Int) = if k.val = 0 then 0 else (Nat.log2 k.val : Int) + 1 := by decide +kernel
  obtain ⟨n, rfl⟩ := Int.eq_ofNat_of_zero_le h0
  have hn : n < 256 := by omega
  have := H ⟨n, hn⟩
  unfold len lg
  simp only [Int.toNat_natCast]
  by_cases hz : n = 0
  · subst hz; rfl
  · rw [if_neg (by omega)]; rw [if_neg hz] at this; exact this
theorem len_b (x : Int) (h0 : 0 ≤ x) (h1 : x < 18446744073709551616) : 0 ≤ len x ∧ len x ≤ 64 := by
  unfold len lg
  obtain ⟨n, rfl⟩ := Int.eq_ofNat_of_zero_le h0
  split
  · omega
  · rw [Int.toNat_natCast]
    have := (log2_b n (by omega)).1
    have h2 : Nat.log2 n < 64 := by
      apply Nat.lt_of_not_le; intro hc
      have : 2 ^ 64 ≤ 2 ^ Nat.log2 n := Nat.pow_le_pow_right (by omega) hc
      omega
    omega
def near (m d : Int) : Int := if d ≤ 0 then IntKind.u64.wrap (m * 2 ^ min (-d).toNat 64) else if 64 < d then 0 else
  if 2 ^ (d.toNat - 1) < m % 2 ^ d.toNat ∨ (m % 2 ^ d.toNat = 2 ^ (d.toNat - 1) ∧ m / 2 ^ d.toNat % 2 = 1) then m / 2 ^ d.toNat + 1 else m / 2 ^ d.toNat
theorem near_mid (m d : Int) (h0 : 0 < d) (h1 : d ≤ 64) : near m d = if 2 ^ (d.toNat - 1) < m % 2 ^ d.toNat ∨ (m % 2 ^ d.toNat = 2 ^ (d.toNat - 1) ∧ m / 2 ^ d.toNat % 2 = 1) then m / 2 ^ d.toNat + 1 else m / 2 ^ d.toNat := by
  unfold near; rw [if_neg (by omega), if_neg (by omega)]
theorem pw (d : Int) (h0 : 0 < d) (h1 : d ≤ 64) : (0 : Int) < 2 ^ (d.toNat - 1) ∧ (2 : Int) ^ (d.toNat - 1) ≤ 9223372036854775808 ∧ (2 : Int) ^ d.toNat = 2 * 2 ^ (d.toNat - 1) := by
  have e : d.toNat = (d.toNat - 1) + 1 := by omega
  have hl : d.toNat - 1 ≤ 63 := by omega
  refine ⟨by exact_mod_cast Nat.two_pow_pos _, ?_, ?_⟩
  · have : 2 ^ (d.toNat - 1) ≤ 2 ^ 63 := Nat.pow_le_pow_right (by omega) hl
    have h2 : ((2 ^ (d.toNat - 1) : Nat) : Int) ≤ ((2 ^ 63 : Nat) : Int) := by exact_mod_cast this
    simpa using h2
  · rw [e, Nat.add_sub_cancel, Int.pow_succ, Int.mul_comm]
/-- what the walk's wraps are -/
theorem parts (m d : Int) (m0 : 0 ≤ m) (m1 : m < 18446744073709551616) (h0 : 0 < d) (h1 : d ≤ 64) :
    IntKind.u64.wrap (2 ^ (d.toNat - 1)) = 2 ^ (d.toNat - 1) ∧ IntKind.u64.wrap (m - IntKind.u64.wrap (m / 2 ^ d.toNat * 2 ^ d.toNat)) = m % 2 ^ d.toNat ∧ IntKind.u64.wrap (m / 2 ^ d.toNat + 1) = m / 2 ^ d.toNat + 1 ∧ 0 ≤ m / 2 ^ d.toNat ∧ m / 2 ^ d.toNat ≤ 9223372036854775807 := by
  obtain ⟨p0, p1, p2⟩ := pw d h0 h1
  generalize (2 : Int) ^ (d.toNat - 1) = p at *
  rw [p2]
  have q0 : 0 ≤ m / (2 * p) := Int.ediv_nonneg m0 (by omega)
  have q1 : m / (2 * p) ≤ 9223372036854775807 := by
    have : m / (2 * p) ≤ m / 2 := by
      rw [← Int.ediv_ediv_of_nonneg (by omega)]
      exact Int.ediv_le_self _ (by omega)
    omega
  have e : 2 * p * (m / (2 * p)) + m % (2 * p) = m := Int.mul_ediv_add_emod m (2 * p)
  have r0 : 0 ≤ m % (2 * p) := Int.emod_nonneg _ (by omega)
  have r1 : m % (2 * p) < 2 * p := Int.emod_lt_of_pos _ (by omega)
  have em : m / (2 * p) * (2 * p) = 2 * p * (m / (2 * p)) := Int.mul_comm _ _
  have t0 : 0 ≤ 2 * p * (m / (2 * p)) := Int.mul_nonneg (by omega) q0
  rw [em]
  generalize 2 * p * (m / (2 * p)) = t at *
  generalize m / (2 * p) = q at *
  generalize m % (2 * p) = r at *
  simp only [IntKind.wrap_u64]
  omega
theorem near_b (m d : Int) (h0 : 0 ≤ m) (h1 : m < 18446744073709551616) : 0 ≤ near m d ∧ near m d < 18446744073709551616 := by
  unfold near
  split
  · simp only [IntKind.wrap_u64]; omega
  split
  · omega
  have e := parts m d h0 h1 (by omega) (by omega)
  split <;> omega
/-- The float32 nearest to m * 2^e, by its bits. -/
def last (m e : Int) : Int := max (e + lg m - 23) (-149)
def sg (neg : Bool) : Int := if neg then 2147483648 else 0
theorem sg_b (neg : Bool) : 0 ≤ sg neg ∧ sg neg ≤ 2147483648 := by cases neg <;> decide
def rnd (neg : Bool) (m e : Int) : Int :=
  sg neg + if m = 0 ∨ e < -300 then 0 else if 200 < e then 2139095040
  else min (IntKind.u64.wrap ((last m e + 149) * 8388608 + near m (last m e - e))) 2139095040
theorem lg_nonneg (m : Int) : 0 ≤ lg m := by unfold lg; omega
end Rd
end Go.Proofs.YtgoigcpdfecfhaaGreatDoor
