import Derived.Test.YtobhmadckoemdaaTyLm
namespace Go.Proofs.Ytobhmadckoemdaa
namespace Rd
open Go.RowKit
def near (m d : Int) : Int := if d ≤ 0 then IntKind.u64.wrap (m * 2 ^ min (-d).toNat 64) else if 64 < d then 0 else
  if 2 ^ (d.toNat - 1) < m % 2 ^ d.toNat ∨ (m % 2 ^ d.toNat = 2 ^ (d.toNat - 1) ∧ m / 2 ^ d.toNat % 2 = 1) then m / 2 ^ d.toNat + 1 else m / 2 ^ d.toNat
theorem near_mid (m d : Int) (h0 : 0 < d) (h1 : d ≤ 64) : near m d = if 2 ^ (d.toNat - 1) < m % 2 ^ d.toNat ∨ (m % 2 ^ d.toNat = 2 ^ (d.toNat - 1) ∧ m / 2 ^ d.toNat % 2 = 1) then m / 2 ^ d.toNat + 1 else m / 2 ^ d.toNat := by
  unfold near; rw [if_neg (by omega), if_neg (by omega)]
theorem pw (d : Int) (h0 : 0 < d) (h1 : d ≤ 64) : (0 : Int) < 2 ^ (d.toNat - 1) ∧ (2 : Int) ^ (d.toNat - 1) ≤ 9223372036854775808 ∧ (2 : Int) ^ d.toNat = 2 * 2 ^ (d.toNat - 1) := by
  have e : d.toNat = (d.toNat - 1) + 1 := by omega
  have hl : d.toNat - 1 ≤ 63 := by omega
  refine ⟨by exact_mod_cast Nat.two_pow_pos _, ?_, ?_⟩
  · have : 2 ^ (d.toNat - 1) ≤ 2 ^ 63 := Nat.pow_le_pow_right (by omega) hl
    have h2 : ((2 ^ (d.toNat - 1) : Nat) : Int) ≤ ((2 ^ 63 : Nat) : Int) := by exact_mod_cast this
    simpa using h2
  · rw [e, Nat.add_sub_cancel, Int.pow_succ, Int.mul_comm]
/-- what the walk's wraps are -/
theorem parts (m d : Int) (m0 : 0 ≤ m) (m1 : m < 18446744073709551616) (h0 : 0 < d) (h1 : d ≤ 64) :
    IntKind.u64.wrap (2 ^ (d.toNat - 1)) = 2 ^ (d.toNat - 1) ∧ IntKind.u64.wrap (m - IntKind.u64.wrap (m / 2 ^ d.toNat * 2 ^ d.toNat)) = m % 2 ^ d.toNat ∧ IntKind.u64.wrap (m / 2 ^ d.toNat + 1) = m / 2 ^ d.toNat + 1 ∧ 0 ≤ m / 2 ^ d.toNat ∧ m / 2 ^ d.toNat ≤ 9223372036854775807 := by
  obtain ⟨p0, p1, p2⟩ := pw d h0 h1
  generalize (2 : Int) ^ (d.toNat - 1) = p at *
  rw [p2]
  have q0 : 0 ≤ m / (2 * p) := Int.ediv_nonneg m0 (by omega)
  have q1 : m / (2 * p) ≤ 9223372036854775807 := by
    have : m / (2 * p) ≤ m / 2 := by
      rw [← Int.ediv_ediv_of_nonneg (by omega)]
      exact Int.ediv_le_self _ (by omega)
    omega
  have e : 2 * p * (m / (2 * p)) + m % (2 * p) = m := Int.mul_ediv_add_emod m (2 * p)
  have r0 : 0 ≤ m % (2 * p) := Int.emod_nonneg _ (by omega)
  have r1 : m % (2 * p) < 2 * p := Int.emod_lt_of_pos _ (by omega)
  have em : m / (2 * p) * (2 * p) = 2 * p * (m / (2 * p)) := Int.mul_comm _ _
  have t0 : 0 ≤ 2 * p * (m / (2 * p)) := Int.mul_nonneg (by omega) q0
  rw [em]
  generalize 2 * p * (m / (2 * p)) = t at *
  generalize m / (2 * p) = q at *
  generalize m % (2 * p) = r at *
  simp only [IntKind.wrap_u64]
  omega
theorem near_b (m d : Int) (h0 : 0 ≤ m) (h1 : m < 18446744073709551616) : 0 ≤ near m d ∧ near m d < 18446744073709551616 := by
  unfold near
  split
  · simp only [IntKind.wrap_u64]; omega
  split
  · omega
  have e := parts m d h0 h1 (by omega) (by omega)
  split <;> omega
/-- The float32 nearest to m * 2^e, by its bits. -/
def last (m e : Int) : Int := max (e + lg m - 23) (-149)
def sg (neg : Bool) : Int := if neg then 2147483648 else 0
theorem sg_b (neg : Bool) : 0 ≤ sg neg ∧ sg neg ≤ 2147483648 := by cases neg <;> decide
def rnd (neg : Bool) (m e : Int) : Int :=
  sg neg + if m = 0 ∨ e < -300 then 0 else if 200 < e then 2139095040
  else min (IntKind.u64.wrap ((last m e + 149) * 8388608 + near m (last m e - e))) 2139095040
theorem lg_nonneg (m : Int) : 0 ≤ lg m := by unfold lg; omega
end Rd
end Go.Proofs.Ytobhmadckoemdaa
