import Derived.Test.YtdphfhpohlodcabOrRnd
import Derived.Test.YtdphfhpohlodcabOrParts
namespace Go.Proofs.Ytdphfhpohlodcab
namespace Od
open Go.RowKit Rd Cl
set_option linter.unusedVariables false
/-- A number of just 24 bits, at least 2^-172; a multiple of 2^-149. -/
structure Nm (x e : Int) : Prop where
  lo : 8388608 ≤ x
  hi : x < 16777216
  el : -172 ≤ e
  eh : e ≤ 104
  dv : e < -149 → (2 : Int) ^ (-149 - e).toNat ∣ x
theorem pw (k n : Nat) (h : k ≤ n) : (2 : Int) ^ n = 2 ^ k * 2 ^ (n - k) := pow_split n k h
theorem or_one (c : Int) (h0 : 0 ≤ c) (h1 : c < 18446744073709551616) : c ≤ bits .or .u64 c 1 ∧ bits .or .u64 c 1 ≤ c + 1 := by
  rw [u64_or c 1 h0 h1 (by omega) (by omega)]
  obtain ⟨n, rfl⟩ := Int.eq_ofNat_of_zero_le h0
  have e1 : ((1 : Int).toNat) = 1 := rfl
  rw [e1, Int.toNat_natCast]
  have h2 : n ||| 1 = n ∨ n ||| 1 = n + 1 := by
    rcases Nat.mod_two_eq_zero_or_one n with h | h
    · right
      have := Nat.two_pow_add_eq_or_of_lt (i := 1) (b := 1) (by decide) (n / 2)
      rw [Nat.pow_one, show 2 * (n / 2) = n from by omega] at this; omega
    · left
      have e : n = 2 * (n / 2) + 1 := by omega
      have := Nat.two_pow_add_eq_or_of_lt (i := 1) (b := 1) (by decide) (n / 2)
      rw [Nat.pow_one] at this
      rw [e, this, Nat.or_assoc, Nat.or_self]
  rcases h2 with h | h <;> rw [h] <;> refine ⟨?_, ?_⟩ <;> omega
def cutv (y : Int) (d : Nat) : Int := y * 549755813888 / 2 ^ d
theorem cut_b (y : Int) (d : Nat) (h0 : 8388608 ≤ y) (h1 : y < 16777216) : 0 ≤ cutv y d ∧ cutv y d ≤ y * 549755813888 ∧ cutv y d * 2 ^ d ≤ y * 549755813888 := by
  have hp := p2 d
  unfold cutv
  refine ⟨Int.ediv_nonneg (by omega) (by omega), Int.ediv_le_self _ (by omega), Int.ediv_mul_le _ (by omega)⟩
/-- up to 39 places nothing is lost -/
theorem cut_exact (y : Int) (d : Nat) (h : d ≤ 39) : cutv y d = y * 2 ^ (39 - d) ∧ cutv y d * 2 ^ d = y * 549755813888 := by
  have hp := p2 d
  have e : (549755813888 : Int) = 2 ^ (39 - d) * 2 ^ d := by rw [← Int.pow_add, show 39 - d + d = 39 from by omega]; rfl
  have e2 : y * 549755813888 = y * 2 ^ (39 - d) * 2 ^ d := by rw [e, Int.mul_assoc]
  unfold cutv
  rw [e2, Int.mul_ediv_cancel _ (by omega)]
  exact ⟨rfl, rfl⟩
theorem cut_far (y : Int) (d : Nat) (h : 40 ≤ d) (h0 : 8388608 ≤ y) (h1 : y < 16777216) : cutv y d ≤ 8388607 := by
  have hp := p2 d
  unfold cutv
  have hq : (2 : Int) ^ d = 2 ^ 40 * 2 ^ (d - 40) := pw 40 d h
  have hr := p2 (d - 40)
  have : y * 549755813888 / 2 ^ d < 8388608 := by
    rw [Int.ediv_lt_iff_lt_mul hp, hq]
    generalize (2 : Int) ^ (d - 40) = r at *
    have : (8388608 : Int) * (2 ^ 40 * r) = 9223372036854775808 * r := by rw [← Int.mul_assoc]; rfl
    omega
  omega
/-- The sum is great enough. -/
theorem sum_ok (x e sm : Int) (h : Nm x e) (h0 : 0 ≤ sm) (h1 : sm ≤ 9223372036854775807) : 0 < x * 549755813888 + sm ∧ x * 549755813888 + sm < 18446744073709551616 ∧ (e - 39 < -149 → (2 : Int) ^ (-149 - (e - 39)).toNat ≤ x * 549755813888 + sm) := by
  obtain ⟨a1, a2, a3, a4, _⟩ := h
  refine ⟨by omega, by omega, fun _ => ?_⟩
  have h3 : (2 : Int) ^ (-149 - (e - 39)).toNat ≤ 2 ^ 62 := by
    have := Nat.pow_le_pow_right (n := 2) (by omega) (show (-149 - (e - 39)).toNat ≤ 62 by omega)
    exact_mod_cast this
  have h4 : (2 : Int) ^ 62 = 4611686018427387904 := by decide
  omega
theorem far_ok (x e f sm : Int) (h : Nm x e) (hf : -172 ≤ f) (hd : 40 ≤ e - f) (h0 : 0 ≤ sm) (h1 : sm ≤ 8388608) : 0 < x * 549755813888 - sm ∧ x * 549755813888 - sm < 18446744073709551616 ∧ (e - 39 < -149 → (2 : Int) ^ (-149 - (e - 39)).toNat ≤ x * 549755813888 - sm) := by
  obtain ⟨a1, a2, a3, a4, _⟩ := h
  refine ⟨by omega, by omega, fun _ => ?_⟩
  have h3 : (2 : Int) ^ (-149 - (e - 39)).toNat ≤ 2 ^ 22 := by
    have := Nat.pow_le_pow_right (n := 2) (by omega) (show (-149 - (e - 39)).toNat ≤ 22 by omega)
    exact_mod_cast this
  have h4 : (2 : Int) ^ 22 = 4194304 := by decide
  omega
theorem dvd_up (x e : Int) (h : Nm x e) (k : Nat) (hk : e < -110 → (k : Int) = -110 - e) (h110 : e < -110) : (2 : Int) ^ k ∣ x * 549755813888 := by
  have hk' := hk h110
  have e39 : (549755813888 : Int) = 2 ^ 39 := by decide
  rw [e39]
  by_cases hc : e < -149
  · have hd := h.dv hc
    have : (2 : Int) ^ k = 2 ^ (-149 - e).toNat * 2 ^ 39 := by rw [← Int.pow_add]; congr 1; omega
    rw [this]
    exact Int.mul_dvd_mul hd (Int.dvd_refl _)
  · rw [pw k 39 (by omega)]
    exact Int.dvd_trans (Int.dvd_mul_right _ _) (Int.dvd_mul_left _ _)
theorem dvd_low (y f e : Int) (h : Nm y f) (d k : Nat) (hd : (d : Int) = e - f) (hd2 : d ≤ 39) (h110 : e < -110) (hk : (k : Int) = -110 - e) : (2 : Int) ^ k ∣ y * 2 ^ (39 - d) := by
  by_cases hc : f < -149
  · have hv := h.dv hc
    have : (2 : Int) ^ k = 2 ^ (-149 - f).toNat * 2 ^ (39 - d) := by rw [← Int.pow_add]; congr 1; omega
    rw [this]
    exact Int.mul_dvd_mul hv (Int.dvd_refl _)
  · rw [pw k (39 - d) (by omega)]
    exact Int.dvd_trans (Int.dvd_mul_right _ _) (Int.dvd_mul_left _ _)
theorem near_dif (x e y f : Int) (h : Nm x e) (g : Nm y f) (d : Nat) (hd : (d : Int) = e - f) (hd2 : d ≤ 39) (hlt : e = f → y < x) :
    0 < x * 549755813888 - cutv y d ∧ x * 549755813888 - cutv y d < 18446744073709551616 ∧ (e - 39 < -149 → (2 : Int) ^ (-149 - (e - 39)).toNat ≤ x * 549755813888 - cutv y d) := by
  obtain ⟨c1, _⟩ := cut_exact y d hd2
  have hx1 := h.lo; have hx2 := h.hi; have hy1 := g.lo; have hy2 := g.hi
  have hpos : 0 < x * 549755813888 - cutv y d := by
    by_cases h0 : d = 0
    · subst h0
      rw [c1]
      have : y * 2 ^ (39 - 0) = y * 549755813888 := rfl
      have := hlt (by omega)
      omega
    · have h1 : (2 : Int) ^ (39 - d) ≤ 274877906944 := by
        have := Nat.pow_le_pow_right (n := 2) (by omega) (show 39 - d ≤ 38 by omega)
        have h2 : (2 : Int) ^ (39 - d) ≤ 2 ^ 38 := by exact_mod_cast this
        have h3 : (2 : Int) ^ 38 = 274877906944 := by decide
        omega
      have h2 : y * 2 ^ (39 - d) ≤ y * 274877906944 := Int.mul_le_mul_of_nonneg_left h1 (by omega)
      rw [c1]; omega
  have hcb := cut_b y d hy1 hy2
  refine ⟨hpos, by omega, fun hc => ?_⟩
  apply Int.le_of_dvd hpos
  have hk : (((-149 - (e - 39)).toNat : Nat) : Int) = -110 - e := by omega
  apply Int.dvd_sub
  · exact dvd_up x e h _ (fun _ => hk) (by omega)
  · rw [c1]; exact dvd_low y f e g d _ hd hd2 (by omega) hk
end Od
end Go.Proofs.Ytdphfhpohlodcab
