import Derived.Test.YtdphfhpohlodcabOrFull
namespace Go.Proofs.Ytdphfhpohlodcab
namespace Od
open Go.RowKit Rd Cl
set_option linter.unusedVariables false
theorem nm_of (s x e : Int) (h0 : 0 < s) (h1 : s < 2139095040) (h : Full s x e) : Nm x e := by
  obtain ⟨a1, a2, i, hx, he⟩ := h
  by_cases hs : s / 8388608 = 0
  · have hM : M0 s = s := by unfold M0; rw [if_pos hs]
    have hE : E0 s = -149 := by unfold E0; rw [if_pos hs]
    rw [hM] at hx
    have hi : i ≤ 23 := by
      apply Nat.le_of_not_lt; intro hc
      have q1 : (16777216 : Int) ≤ 2 ^ i := by
        have := Nat.pow_le_pow_right (n := 2) (by omega) (show 24 ≤ i by omega)
        have h2 : (2 : Int) ^ 24 ≤ 2 ^ i := by exact_mod_cast this
        have h3 : (2 : Int) ^ 24 = 16777216 := by decide
        omega
      have q2 : 1 * 2 ^ i ≤ s * 2 ^ i := Int.mul_le_mul_of_nonneg_right (by omega) (by omega)
      omega
    refine ⟨a1, a2, by omega, by omega, fun _ => ?_⟩
    rw [show (-149 - e).toNat = i from by omega, hx]
    exact Int.dvd_mul_left _ _
  · have hM : M0 s = s % 8388608 + 8388608 := by unfold M0; rw [if_neg hs]
    have hE : E0 s = s / 8388608 - 150 := by unfold E0; rw [if_neg hs]
    have hi : i = 0 := by
      apply Nat.eq_zero_of_not_pos; intro hc
      have q1 : (2 : Int) ≤ 2 ^ i := by
        have := Nat.pow_le_pow_right (n := 2) (by omega) (show 1 ≤ i by omega)
        exact_mod_cast this
      have q2 : M0 s * 2 ≤ M0 s * 2 ^ i := Int.mul_le_mul_of_nonneg_left q1 (by omega)
      omega
    exact ⟨a1, a2, by omega, by omega, fun _ => by omega⟩
/-- The order of the pairs is the order of the bits. -/
theorem lex (s t x e y f : Int) (s0 : 0 < s) (s1 : s < 2139095040) (t0 : 0 < t) (t1 : t < 2139095040) (hs : Full s x e) (ht : Full t y f) (h : t < s) : f < e ∨ (f = e ∧ y < x) := by
  obtain ⟨a1, a2, i, hx, he⟩ := hs
  obtain ⟨b1, b2, k, hy, hf⟩ := ht
  have norm : ∀ (z v : Int) (n : Nat), ¬ z / 8388608 = 0 → 0 < z → v = M0 z * 2 ^ n → v < 16777216 → n = 0 := by
    intro z v n hz hz0 hv hv2
    have hM : M0 z = z % 8388608 + 8388608 := by unfold M0; rw [if_neg hz]
    apply Nat.eq_zero_of_not_pos; intro hc
    have q1 : (2 : Int) ≤ 2 ^ n := by
      have := Nat.pow_le_pow_right (n := 2) (by omega) (show 1 ≤ n by omega)
      exact_mod_cast this
    have q2 : M0 z * 2 ≤ M0 z * 2 ^ n := Int.mul_le_mul_of_nonneg_left q1 (by omega)
    omega
  by_cases hs0 : s / 8388608 = 0
  · have hM : M0 s = s := by unfold M0; rw [if_pos hs0]
    have hE : E0 s = -149 := by unfold E0; rw [if_pos hs0]
    have ht0 : t / 8388608 = 0 := by omega
    have hM' : M0 t = t := by unfold M0; rw [if_pos ht0]
    have hE' : E0 t = -149 := by unfold E0; rw [if_pos ht0]
    rw [hM] at hx; rw [hM'] at hy
    have hik : i ≤ k := by
      apply Nat.le_of_not_lt; intro hc
      have q1 : (2 : Int) ^ i = 2 ^ (k + 1) * 2 ^ (i - (k + 1)) := pw (k + 1) i (by omega)
      have q2 : (2 : Int) ^ (k + 1) = 2 * 2 ^ k := by rw [Int.pow_succ, Int.mul_comm]
      have q3 := p2 k
      have q4 := p2 (i - (k + 1))
      have q5 : 2 ^ (k + 1) * 1 ≤ (2 : Int) ^ (k + 1) * 2 ^ (i - (k + 1)) := Int.mul_le_mul_of_nonneg_left (by omega) (by omega)
      have q6 : s * (2 * 2 ^ k) ≤ s * 2 ^ i := Int.mul_le_mul_of_nonneg_left (by omega) (by omega)
      have q7 : t * 2 ^ k < s * 2 ^ k := Int.mul_lt_mul_of_pos_right h q3
      have q8 : s * (2 * 2 ^ k) = 2 * (s * 2 ^ k) := by rw [← Int.mul_assoc, Int.mul_comm s 2, Int.mul_assoc]
      omega
    by_cases e' : i = k
    · subst e'
      have q7 : t * 2 ^ i < s * 2 ^ i := Int.mul_lt_mul_of_pos_right h (p2 i)
      omega
    · omega
  · have hE : E0 s = s / 8388608 - 150 := by unfold E0; rw [if_neg hs0]
    have hM : M0 s = s % 8388608 + 8388608 := by unfold M0; rw [if_neg hs0]
    have i0 := norm s x i hs0 s0 hx a2
    subst i0
    by_cases ht0 : t / 8388608 = 0
    · have hM' : M0 t = t := by unfold M0; rw [if_pos ht0]
      have hE' : E0 t = -149 := by unfold E0; rw [if_pos ht0]
      rw [hM'] at hy
      have hk : 1 ≤ k := by
        apply Nat.pos_of_ne_zero; intro hk; subst hk
        have : t * 2 ^ 0 = t := by simp
        omega
      omega
    · have hE' : E0 t = t / 8388608 - 150 := by unfold E0; rw [if_neg ht0]
      have hM' : M0 t = t % 8388608 + 8388608 := by unfold M0; rw [if_neg ht0]
      have k0 := norm t y k ht0 t0 hy b2
      subst k0
      have z1 : M0 s * 2 ^ 0 = M0 s := by simp
      have z2 : M0 t * 2 ^ 0 = M0 t := by simp
      omega
theorem same (s x e y f : Int) (s0 : 0 < s) (hs : Full s x e) (ht : Full s y f) : x = y ∧ e = f := by
  obtain ⟨a1, a2, i, hx, he⟩ := hs
  obtain ⟨b1, b2, k, hy, hf⟩ := ht
  have key : ∀ (i k : Nat) (x y : Int), x = M0 s * 2 ^ i → y = M0 s * 2 ^ k → 8388608 ≤ x → y < 16777216 → k ≤ i := by
    intro i k x y hx hy h1 h2
    apply Nat.le_of_not_lt; intro hc
    have q1 : (2 : Int) ^ k = 2 ^ (i + 1) * 2 ^ (k - (i + 1)) := pw (i + 1) k (by omega)
    have q2 : (2 : Int) ^ (i + 1) = 2 * 2 ^ i := by rw [Int.pow_succ, Int.mul_comm]
    have q3 := p2 i
    have q4 := p2 (k - (i + 1))
    have q5 : 2 ^ (i + 1) * 1 ≤ (2 : Int) ^ (i + 1) * 2 ^ (k - (i + 1)) := Int.mul_le_mul_of_nonneg_left (by omega) (by omega)
    have hm : 0 ≤ M0 s := by
      apply Int.le_of_not_gt; intro hn
      have : M0 s * 2 ^ i ≤ 0 := Int.mul_nonpos_of_nonpos_of_nonneg (by omega) (by omega)
      omega
    have q6 : M0 s * (2 * 2 ^ i) ≤ M0 s * 2 ^ k := Int.mul_le_mul_of_nonneg_left (by omega) hm
    have q8 : M0 s * (2 * 2 ^ i) = 2 * (M0 s * 2 ^ i) := by rw [← Int.mul_assoc, Int.mul_comm (M0 s) 2, Int.mul_assoc]
    omega
  have h1 := key i k x y hx hy a1 b2
  have h2 := key k i y x hy hx b1 a2
  obtain rfl : i = k := by omega
  exact ⟨by omega, by omega⟩
end Od
end Go.Proofs.Ytdphfhpohlodcab
