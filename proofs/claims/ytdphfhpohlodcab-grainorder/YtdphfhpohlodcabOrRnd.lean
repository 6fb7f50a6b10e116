import Derived.Test.YtdphfhpohlodcabOrRound
namespace Go.Proofs.Ytdphfhpohlodcab
namespace Rd
open Go.RowKit
set_option linter.unusedVariables false
theorem p2 (n : Nat) : (0 : Int) < 2 ^ n := by exact_mod_cast Nat.two_pow_pos n
theorem lg_b (m : Int) (h : 0 < m) : (2 : Int) ^ (lg m).toNat ≤ m ∧ m < 2 ^ ((lg m).toNat + 1) := by
  obtain ⟨n, rfl⟩ := Int.eq_ofNat_of_zero_le (show 0 ≤ m by omega)
  have hb := log2_b n (by omega)
  have e : (lg (n : Int)).toNat = Nat.log2 n := by unfold lg; simp
  rw [e]
  exact ⟨by exact_mod_cast hb.1, by exact_mod_cast hb.2⟩
theorem pow_split (a b : Nat) (h : b ≤ a) : (2 : Int) ^ a = 2 ^ b * 2 ^ (a - b) := by rw [← Int.pow_add]; congr 1; omega
/-- What is kept of a number that is not too small is not 0, and has at most 25 bits. -/
theorem near_ok (m e : Int) (hm : 0 < m) (hm2 : m < 18446744073709551616) (he : -300 ≤ e) (he2 : e ≤ 200) (hd : e < -149 → (2 : Int) ^ (-149 - e).toNat ≤ m) :
    1 ≤ near m (last m e - e) ∧ near m (last m e - e) ≤ 16777216 := by
  obtain ⟨l1, l2⟩ := lg_b m hm
  have l0 := lg_nonneg m
  have lb := len_b m (by omega) hm2
  have lg1 : len m = lg m + 1 := by unfold len; rw [if_neg (by omega)]
  have hL : e + lg m - 23 ≤ last m e := by unfold last; omega
  have hL2 : last m e = e + lg m - 23 ∨ last m e = -149 := by unfold last; omega
  have hL3 : -149 ≤ last m e := by unfold last; omega
  generalize hl : last m e = l at *
  generalize hg : (lg m).toNat = g at *
  have hgl : lg m = (g : Int) := by omega
  unfold near
  by_cases h0 : l - e ≤ 0
  · rw [if_pos h0]
    have hk : (-(l - e)).toNat ≤ 23 - g ∧ g ≤ 23 := by omega
    have hk2 : min (-(l - e)).toNat 64 = (-(l - e)).toNat := by omega
    rw [hk2]
    generalize (-(l - e)).toNat = k at *
    have hp := p2 k
    have h3 : m * 2 ^ k < 2 ^ (g + 1) * 2 ^ k := Int.mul_lt_mul_of_pos_right l2 hp
    have h4 : (2 : Int) ^ (g + 1) * 2 ^ k = 2 ^ (g + 1 + k) := by rw [← Int.pow_add]
    have h5 : (2 : Int) ^ (g + 1 + k) ≤ 16777216 := by
      have h1 : 2 ^ (g + 1 + k) ≤ 2 ^ 24 := Nat.pow_le_pow_right (by omega) (by omega)
      have h2 : ((2 ^ (g + 1 + k) : Nat) : Int) ≤ ((2 ^ 24 : Nat) : Int) := by exact_mod_cast h1
      simpa using h2
    have h6 : 1 * 2 ^ k ≤ m * 2 ^ k := Int.mul_le_mul_of_nonneg_right (by omega) (by omega)
    rw [IntKind.wrap_u64]
    omega
  · rw [if_neg h0]
    have hle : l - e ≤ 64 := by
      apply Int.le_of_not_gt; intro hc
      rcases hL2 with h | h
      · omega
      · have h7 := hd (by omega)
        have h8 : (2 : Int) ^ 65 ≤ 2 ^ (-149 - e).toNat := by
          rw [pow_split (-149 - e).toNat 65 (by omega)]
          have := p2 ((-149 - e).toNat - 65)
          omega
        omega
    rw [if_neg (by omega)]
    have hk : g - 23 ≤ (l - e).toNat := by omega
    have hge : (2 : Int) ^ (l - e).toNat ≤ m := by
      rcases hL2 with h | h
      · have h1 : (l - e).toNat ≤ g := by omega
        have h2 : (2 : Int) ^ (l - e).toNat ≤ 2 ^ g := by
          have := Nat.pow_le_pow_right (n := 2) (by omega) h1
          exact_mod_cast this
        omega
      · have h7 := hd (by omega)
        rw [show (l - e).toNat = (-149 - e).toNat from by omega]; exact h7
    generalize (l - e).toNat = k at *
    have hp := p2 k
    have q1 : 1 ≤ m / 2 ^ k := by
      have := Int.ediv_le_ediv hp hge
      rw [Int.ediv_self (by omega)] at this; exact this
    have q2 : m / 2 ^ k < 16777216 := by
      rw [Int.ediv_lt_iff_lt_mul hp]
      have h4 : (16777216 : Int) * 2 ^ k = 2 ^ (24 + k) := by rw [Int.pow_add]; rfl
      have h5 : (2 : Int) ^ (g + 1) ≤ 2 ^ (24 + k) := by
        have := Nat.pow_le_pow_right (n := 2) (by omega) (show g + 1 ≤ 24 + k by omega)
        exact_mod_cast this
      omega
    split <;> omega
theorem rnd_pos (neg : Bool) (m e : Int) (hm : 0 < m) (hm2 : m < 18446744073709551616) (he : -300 ≤ e) (he2 : e ≤ 200) (hd : e < -149 → (2 : Int) ^ (-149 - e).toNat ≤ m) :
    ∃ r, rnd neg m e = sg neg + r ∧ 0 < r ∧ r < 2147483648 := by
  obtain ⟨n1, n2⟩ := near_ok m e hm hm2 he he2 hd
  have hL3 : -149 ≤ last m e := by unfold last; omega
  have lb := len_b m (by omega) hm2
  have lg1 : len m = lg m + 1 := by unfold len; rw [if_neg (by omega)]
  have hL4 : last m e ≤ 300 := by unfold last; omega
  refine ⟨_, by unfold rnd; rw [if_neg (c := m = 0 ∨ e < -300) (by omega), if_neg (c := 200 < e) (by omega)], ?_, ?_⟩
  · rw [IntKind.wrap_u64]; omega
  · rw [IntKind.wrap_u64]; omega
end Rd
end Go.Proofs.Ytdphfhpohlodcab
