import Derived.Test.YtbbpnlflihhflaaDoorRdRef
namespace Go.Proofs.YtbbpnlflihhflaaDoor
namespace Hx
open Go.RowKit
set_option linter.unusedVariables false
theorem lg_mul (n t : Nat) (h : 0 < n) : Nat.log2 (n * 2 ^ t) = Nat.log2 n + t := by
  have hb := Rd.log2_b n (by omega)
  refine Rd.log2_of _ _ ?_ ?_
  · rw [Nat.pow_add]; exact Nat.mul_le_mul_right _ hb.1
  · rw [show Nat.log2 n + t + 1 = (Nat.log2 n + 1) + t by omega, Nat.pow_add]
    exact Nat.mul_lt_mul_of_pos_right hb.2 (Nat.two_pow_pos t)
theorem lg_mulI (m : Int) (t : Nat) (h : 0 < m) : Rd.lg (m * 2 ^ t) = Rd.lg m + t := by
  obtain ⟨n, rfl⟩ := Int.eq_ofNat_of_zero_le (show 0 ≤ m by omega)
  have e : (n : Int) * 2 ^ t = ((n * 2 ^ t : Nat) : Int) := by simp
  unfold Rd.lg
  rw [e, Int.toNat_natCast, Int.toNat_natCast, lg_mul n t (by omega)]
  omega
theorem lg_23 (m : Int) (h0 : 0 < m) (h1 : m < 16777216) : Rd.lg m ≤ 23 ∧ (8388608 ≤ m → Rd.lg m = 23) := by
  obtain ⟨n, rfl⟩ := Int.eq_ofNat_of_zero_le (show 0 ≤ m by omega)
  have hb := Rd.log2_b n (by omega)
  have h2 : Nat.log2 n < 24 := by
    apply Nat.lt_of_not_le; intro hc
    have := Nat.pow_le_pow_right (n := 2) (by omega) hc
    omega
  unfold Rd.lg
  rw [Int.toNat_natCast]
  refine ⟨by omega, fun h => ?_⟩
  have h3 : 23 ≤ Nat.log2 n := by
    apply Nat.le_of_not_lt; intro hc
    have := Nat.pow_le_pow_right (n := 2) (by omega) (show Nat.log2 n + 1 ≤ 23 by omega)
    omega
  omega
/-- A number that a float32 is, is rounded to it. -/
theorem rnd_exact (neg : Bool) (m e M E : Int) (t : Nat) (h0 : 0 < m) (h1 : m < 16777216) (he : -149 ≤ e) (he2 : e ≤ 104) (hn : e = -149 ∨ 8388608 ≤ m)
    (hA : (M = m * 2 ^ t ∧ E = e - t ∧ t ≤ 24) ∨ (m = M * 2 ^ t ∧ E = e + t ∧ t ≤ 24)) : Rd.rnd neg M E = Rd.sg neg + ((e + 149) * 8388608 + m) := by
  have hl := lg_23 m h0 h1
  have hw : IntKind.u64.wrap m = m := by rw [IntKind.wrap_u64]; omega
  have key : ∀ M E, ¬ M = 0 → -300 ≤ E → E ≤ 200 → Rd.last M E = e → Rd.near M (e - E) = m → Rd.rnd neg M E = Rd.sg neg + ((e + 149) * 8388608 + m) := fun M E a b c d f => by
    unfold Rd.rnd
    rw [if_neg (c := M = 0 ∨ E < -300) (by omega), if_neg (by omega), d, f, IntKind.wrap_u64]
    omega
  rcases hA with ⟨hM, hE, ht⟩ | ⟨hM, hE, ht⟩
  · have hp : (0 : Int) < 2 ^ t := by exact_mod_cast Nat.two_pow_pos t
    have hM0 : 0 < M := by rw [hM]; exact Int.mul_pos h0 hp
    have hlm : Rd.lg M = Rd.lg m + t := by rw [hM]; exact lg_mulI m t h0
    refine key M E (by omega) (by omega) (by omega) (by unfold Rd.last; omega) ?_
    rw [show e - E = (t : Int) by omega]
    by_cases h : t = 0
    · subst h
      unfold Rd.near
      rw [if_pos (by omega), hM]
      simp [hw]
    · rw [Rd.near_mid M t (by omega) (by omega)]
      rw [show ((t : Int)).toNat = t by omega]
      have hd : M / 2 ^ t = m := by rw [hM]; exact Int.mul_ediv_cancel _ (by omega)
      have hr : M % 2 ^ t = 0 := by rw [hM]; exact Int.mul_emod_left _ _
      have hq : (0 : Int) < 2 ^ (t - 1) := by exact_mod_cast Nat.two_pow_pos (t - 1)
      rw [hd, hr, if_neg (by omega)]
  · have hp : (0 : Int) < 2 ^ t := by exact_mod_cast Nat.two_pow_pos t
    have hM0 : 0 < M := by
      apply Int.lt_of_not_ge
      intro hc
      have : M * 2 ^ t ≤ 0 := Int.mul_nonpos_of_nonpos_of_nonneg hc (by omega)
      omega
    have hlm : Rd.lg m = Rd.lg M + t := by rw [hM]; exact lg_mulI M t hM0
    have hg0 := Rd.lg_nonneg M
    refine key M E (by omega) (by omega) (by omega) (by unfold Rd.last; omega) ?_
    rw [show e - E = -(t : Int) by omega]
    unfold Rd.near
    rw [if_pos (by omega), show min (-(-(t : Int))).toNat 64 = t by omega, ← hM, hw]
end Hx
end Go.Proofs.YtbbpnlflihhflaaDoor
