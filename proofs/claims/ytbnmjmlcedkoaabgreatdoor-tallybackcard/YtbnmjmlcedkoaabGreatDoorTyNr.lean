import Derived.Test.YtbnmjmlcedkoaabGreatDoorTyWk
namespace Go.Proofs.YtbnmjmlcedkoaabGreatDoor
namespace Ty
open Go.RowKit
set_option linter.unusedVariables false
/-- The units of a size. -/
def mg (z : Int) : Int := M0 z * 2 ^ S0 z
theorem mag_mg (u : Int) : mag u = mg (u % 2147483648) := rfl
theorem mg_of (K : Int) (d : Nat) (h0 : 0 ≤ K) (h1 : K ≤ 16777216) (h2 : 0 < d → 8388608 ≤ K) : mg ((d : Int) * 8388608 + K) = K * 2 ^ d := by
  unfold mg M0 S0
  by_cases e : K = 16777216
  · subst e
    rw [if_neg (by omega), if_neg (by omega)]
    rw [show ((d : Int) * 8388608 + 16777216) % 8388608 + 8388608 = 8388608 from by omega, show (((d : Int) * 8388608 + 16777216) / 8388608 - 1).toNat = d + 1 from by omega, Int.pow_succ]
    have := pw d
    generalize (2 : Int) ^ d = P at *
    omega
  · by_cases e2 : K < 8388608
    · obtain rfl : d = 0 := by
        rcases Nat.eq_zero_or_pos d with h | h
        · exact h
        · have := h2 h; omega
      rw [if_pos (by omega), if_pos (by omega)]
      simp
    · rw [if_neg (by omega), if_neg (by omega)]
      rw [show ((d : Int) * 8388608 + K) % 8388608 + 8388608 = K from by omega, show (((d : Int) * 8388608 + K) / 8388608 - 1).toNat = d from by omega]
theorem inexact (Q r n : Int) (d : Nat) (q0 : 0 ≤ Q) (r0 : 0 ≤ r) (r1 : r < n) : (hlf Q r n d || mor Q r n d) = decide (Q % 2 ^ d ≠ 0 ∨ r ≠ 0) := by
  unfold hlf mor
  by_cases e : d = 0
  · subst e
    rw [if_pos rfl, if_pos rfl]
    have h1 : Q % 2 ^ 0 = 0 := by simp [Int.emod_one]
    rw [h1]
    by_cases hr : r = 0
    · subst hr
      rw [decide_eq_false (by omega)]; simp
    · by_cases h2 : n - r ≤ r
      · simp [h2, hr]
      · have h3 : ¬ r = n - r := by omega
        simp [hr, h3]
  · rw [if_neg e, if_neg e]
    obtain ⟨k, rfl⟩ : ∃ k, d = k + 1 := ⟨d - 1, by omega⟩
    have hb := low_bit Q k
    rw [show k + 1 - 1 = k from rfl]
    have hP := pw k
    have hbb : bit Q k = 0 ∨ bit Q k = 1 := by unfold bit; omega
    have hm := Int.emod_nonneg Q (Int.ne_of_gt hP)
    rcases hbb with h | h
    · rw [h] at hb ⊢
      rw [Int.mul_zero, Int.zero_add] at hb
      rw [hb]
      by_cases hr : r = 0
      · subst hr
        by_cases hq : Q % 2 ^ k = 0
        · simp [hq]
        · simp [hq]
      · simp [hr]
    · rw [h] at hb ⊢
      have : ¬ Q % 2 ^ (k + 1) = 0 := by omega
      simp [this]
theorem mul_lt' {a b c : Int} (h : a < b) (hc : 0 < c) : a * c < b * c := Int.mul_lt_mul_of_pos_right h hc
/-- What stands below and above an n-th part. -/
theorem part_b (X n : Int) (d : Nat) (x0 : 0 ≤ X) (h0 : 0 < n) : X / n / 2 ^ d * 2 ^ d * n ≤ X ∧ X < (X / n / 2 ^ d + 1) * 2 ^ d * n ∧ (X / n / 2 ^ d * 2 ^ d * n = X ↔ X / n % 2 ^ d = 0 ∧ X % n = 0) := by
  have e1 := Int.mul_ediv_add_emod X n
  have hP := pw d
  have e2 := Int.mul_ediv_add_emod (X / n) (2 ^ d)
  have r1 := Int.emod_nonneg X (Int.ne_of_gt h0)
  have r2 := Int.emod_lt_of_pos X h0
  have s1 := Int.emod_nonneg (X / n) (Int.ne_of_gt hP)
  have s2 := Int.emod_lt_of_pos (X / n) hP
  generalize X % n = r at *
  generalize X / n = Q at *
  generalize Q % 2 ^ d = R at *
  generalize Q / 2 ^ d = K at *
  generalize (2 : Int) ^ d = P at *
  have e3 : K * P = P * K := Int.mul_comm _ _
  have e4 : n * Q = K * P * n + R * n := by rw [← e2, Int.mul_comm, Int.add_mul, e3]
  have e5 : (K + 1) * P * n = K * P * n + P * n := by rw [Int.add_mul, Int.one_mul, Int.add_mul]
  have e6 : (R + 1) * n ≤ P * n := Int.mul_le_mul_of_nonneg_right (by omega) (by omega)
  have e7 : (R + 1) * n = R * n + n := by rw [Int.add_mul, Int.one_mul]
  have e8 : 0 ≤ R * n := Int.mul_nonneg s1 (by omega)
  refine ⟨by omega, by omega, fun h => ?_, fun ⟨h1, h2⟩ => ?_⟩
  · have h3 : R * n = 0 := by omega
    have h4 : r = 0 := by omega
    refine ⟨?_, h4⟩
    rcases Int.mul_eq_zero.1 h3 with h | h
    · exact h
    · omega
  · subst h1
    rw [Int.zero_mul] at e4
    omega
theorem un_rU (neg : Bool) (z : Int) (h0 : 0 ≤ z) (h1 : z < 2139095040) : un (rU neg z) = if neg then -mg z else mg z := by
  have e : rU neg z = z + if neg then 2147483648 else 0 := by unfold rU; exact if_neg (by omega)
  rw [e]
  cases neg
  · have e2 : z + (if false = true then (2147483648 : Int) else 0) = z := by rw [if_neg Bool.false_ne_true]; omega
    rw [e2]
    unfold un
    rw [if_neg (by omega), mag_mg, show z % 2147483648 = z from by omega]; rfl
  · rw [if_pos rfl]
    unfold un
    rw [if_pos (by omega), mag_mg, show (z + 2147483648) % 2147483648 = z from by omega]; rfl
/-- The place below. -/
def zz (A n : Int) (L : Nat) : Int := (dr L : Int) * 8388608 + ab A / n / 2 ^ dr L
def ix (A n : Int) (L : Nat) : Bool := hlf (ab A / n) (ab A % n) n (dr L) || mor (ab A / n) (ab A % n) n (dr L)
theorem sz_down (A n : Int) (L : Nat) : sz A n 2 L = zz A n L + b2i (decide (A < 0) && ix A n L) := by
  unfold sz zz aw ix; rw [if_neg (by omega), if_neg (by omega), if_pos rfl]
theorem sz_up (A n : Int) (L : Nat) : sz A n 3 L = zz A n L + b2i (!decide (A < 0) && ix A n L) := by
  unfold sz zz aw ix; rw [if_neg (by omega), if_neg (by omega), if_neg (by omega)]
theorem zz_nn (A n : Int) (L : Nat) (h : Sg A) (h0 : 0 < n) : 0 ≤ zz A n L := by
  unfold zz
  have h1 : 0 ≤ ab A / n / 2 ^ dr L := Int.ediv_nonneg (Int.ediv_nonneg (ab_b A h).1 (by omega)) (Int.le_of_lt (pw _))
  omega
/-- The two float32 beside an n-th part, in units. -/
theorem beside (A n : Int) (L : Nat) (h : Sg A) (h0 : 0 < n) (hL : IsLen (ab A / n) L) :
    mg (zz A n L) * n ≤ ab A ∧ ab A < mg (zz A n L + 1) * n ∧ (mg (zz A n L) * n = ab A ↔ ix A n L = false) := by
  have hab := (ab_b A h).1
  have q0 : 0 ≤ ab A / n := Int.ediv_nonneg hab (by omega)
  obtain ⟨k0, k1, k2⟩ := kept_b _ L q0 hL
  have m1 := mg_of (ab A / n / 2 ^ dr L) (dr L) k0 (by omega) k2
  have m2 := mg_of (ab A / n / 2 ^ dr L + 1) (dr L) (by omega) (by omega) (fun hd => by have := k2 hd; omega)
  obtain ⟨p1, p2, p3⟩ := part_b (ab A) n (dr L) hab h0
  have hx := inexact (ab A / n) (ab A % n) n (dr L) q0 (Int.emod_nonneg _ (by omega)) (Int.emod_lt_of_pos _ h0)
  unfold zz
  rw [Int.add_assoc, m1, m2]
  refine ⟨p1, p2, ?_⟩
  rw [p3]
  unfold ix
  rw [hx]
  simp
theorem mg_nn (z : Int) (h : 0 ≤ z) : 0 ≤ mg z := by
  unfold mg M0
  have := pw (S0 z)
  refine Int.mul_nonneg ?_ (by omega)
  split <;> omega
theorem cmp_scale (a b p : Int) (hp : 0 < p) : compare (a * p) (b * p) = compare a b := by
  rcases Int.lt_trichotomy a b with h | h | h
  · have h2 := mul_lt' h hp
    rw [Int.compare_eq_lt.2 h, Int.compare_eq_lt.2 h2]
  · subst h; simp
  · have h2 := mul_lt' h hp
    rw [Int.compare_eq_gt.2 h, Int.compare_eq_gt.2 h2]
/-- A finite float32, read. -/
theorem read_fin (u : Nat) (h : u < 4294967296) (hf : u % 2147483648 < 2139095040) : ∃ s m k, Ieee.single.read u = .number s m (-149 + (k : Nat)) ∧ un (u : Int) = (if s then -1 else 1) * ((m : Int) * 2 ^ k) := by
  have e1 : Ieee.single.signWeight = 2147483648 := by decide
  have e2 : Ieee.single.binade = 8388608 := by decide
  have e3 : Ieee.single.infRung = 2139095040 := by decide
  have e4 : Ieee.single.leastPlace = -149 := by decide
  have hs : (u / 2147483648 % 2 == 1) = decide (2147483648 ≤ (u : Int)) := by
    by_cases c : 2147483648 ≤ u
    · rw [decide_eq_true (by omega), show u / 2147483648 % 2 = 1 from by omega]; rfl
    · rw [decide_eq_false (by omega), show u / 2147483648 % 2 = 0 from by omega]; rfl
  have hsg : un (u : Int) = (if decide (2147483648 ≤ (u : Int)) then -1 else 1) * mag (u : Int) := by
    unfold un
    by_cases c : 2147483648 ≤ (u : Int)
    · rw [if_pos c, decide_eq_true c, if_pos rfl]; omega
    · rw [if_neg c, decide_eq_false c, if_neg Bool.false_ne_true]; omega
  unfold Ieee.Format.read
  simp only [e1, e2, e3, e4, hs]
  rw [hsg, mag_mg]
  unfold mg M0 S0
  by_cases c : u % 2147483648 < 8388608
  · have c1 : (u : Int) % 2147483648 / 8388608 = 0 := by omega
    rw [if_pos c]
    refine ⟨decide (2147483648 ≤ (u : Int)), u % 2147483648, 0, by simp, ?_⟩
    rw [if_pos c1, if_pos c1]
    congr 2
  · have c2 : ¬ (u : Int) % 2147483648 / 8388608 = 0 := by omega
    rw [if_neg c, if_pos hf]
    refine ⟨decide (2147483648 ≤ (u : Int)), _, u % 2147483648 / 8388608 - 1, rfl, ?_⟩
    rw [if_neg c2, if_neg c2]
    have e5 : (((u : Int) % 2147483648 / 8388608 - 1).toNat) = u % 2147483648 / 8388608 - 1 := by omega
    rw [e5]
    congr 2
    omega
theorem signed_eq (s : Bool) (m k : Nat) : Ieee.signed s m k = (if s then -1 else 1) * ((m : Int) * 2 ^ k) := by
  unfold Ieee.signed
  rw [Nat.shiftLeft_eq]
  cases s <;> simp
/-- The order of finite float32 is that of their units. -/
theorem order_fin (u v : Nat) (h : u < 4294967296) (hf : u % 2147483648 < 2139095040) (h' : v < 4294967296) (hf' : v % 2147483648 < 2139095040) :
    FloatKind.f32.format.order u v = some (compare (un (u : Int)) (un (v : Int))) := by
  obtain ⟨s, m, k, e1, e2⟩ := read_fin u h hf
  obtain ⟨t, n, j, e3, e4⟩ := read_fin v h' hf'
  show (Ieee.single.read u).order (Ieee.single.read v) = _
  rw [e1, e3, e2, e4]
  show some (compare (Ieee.signed s m (-149 + (k : Int) - min (-149 + (k : Int)) (-149 + (j : Int))).toNat) (Ieee.signed t n (-149 + (j : Int) - min (-149 + (k : Int)) (-149 + (j : Int))).toNat)) = _
  rw [signed_eq, signed_eq]
  congr 1
  obtain ⟨b, hb, hk, hj⟩ : ∃ b : Nat, b = min k j ∧ b ≤ k ∧ b ≤ j := ⟨_, rfl, Nat.min_le_left _ _, Nat.min_le_right _ _⟩
  have f1 : (-149 + (k : Int) - min (-149 + (k : Int)) (-149 + (j : Int))).toNat = k - b := by omega
  have f2 : (-149 + (j : Int) - min (-149 + (k : Int)) (-149 + (j : Int))).toNat = j - b := by omega
  rw [f1, f2, ← cmp_scale _ _ (2 ^ b) (pw b)]
  have g1 : (2 : Int) ^ k = 2 ^ (k - b) * 2 ^ b := by rw [← Int.pow_add]; congr 1; omega
  have g2 : (2 : Int) ^ j = 2 ^ (j - b) * 2 ^ b := by rw [← Int.pow_add]; congr 1; omega
  rw [g1, g2]
  simp only [Int.mul_assoc]
end Ty
end Go.Proofs.YtbnmjmlcedkoaabGreatDoor
