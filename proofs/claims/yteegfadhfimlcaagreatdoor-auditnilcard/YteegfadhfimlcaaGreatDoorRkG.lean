import Derived.Test.YteegfadhfimlcaaGreatDoorRkF
namespace Go.Proofs.YteegfadhfimlcaaGreatDoor
namespace Fl
open Go.RowKit Ieee
set_option linter.unusedVariables false
/-- What a word stands for, written out. -/
theorem frd (w : Nat) : single.read w = if w % 2147483648 < 8388608 then .number (w / 2147483648 % 2 == 1) (w % 2147483648) (-149)
    else if w % 2147483648 < 2139095040 then .number (w / 2147483648 % 2 == 1) (8388608 + w % 2147483648 % 8388608) (-149 + (w % 2147483648 / 8388608 - 1 : Nat))
    else if w % 2147483648 = 2139095040 then .infinity (w / 2147483648 % 2 == 1) else .nan (w / 2147483648 % 2 == 1) (w % 2147483648 - 2139095040) := by
  unfold Format.read; simp only [f_sw, f_bi, f_in, f_lp]
theorem fneg0 (w : Nat) (h : w < 2147483648) : (w / 2147483648 % 2 == 1) = false := by
  have : w / 2147483648 = 0 := by omega
  simp [this]
/-- A normal number that is not below 0. -/
theorem read_norm (a : Nat) (h0 : 8388608 ≤ a) (h1 : a < 2139095040) : single.read a = .number false (8388608 + a % 8388608) ((a / 8388608 : Nat) - 150) := by
  rw [frd, Nat.mod_eq_of_lt (show a < 2147483648 by omega), fneg0 a (by omega), if_neg (by omega), if_pos h1]
  congr 1
  omega
theorem min_cast (L : Int) (R : Nat) (h : -149 ≤ L) : ((min ((L + 149).toNat * 8388608 + R) 2139095040 : Nat) : Int) = min ((L + 149) * 8388608 + (R : Int)) 2139095040 := by
  obtain ⟨l, hl⟩ := Int.eq_ofNat_of_zero_le (show 0 ≤ L + 149 by omega)
  rw [hl]
  have e : (((l : Int).toNat * 8388608 + R : Nat) : Int) = (l : Int) * 8388608 + (R : Int) := by rw [Int.toNat_natCast, Int.natCast_add, Int.natCast_mul]; rfl
  rw [← e]
  generalize (l : Int).toNat * 8388608 + R = N
  rcases Nat.le_total N 2139095040 with k | k
  · rw [Nat.min_eq_left k, Int.min_eq_left (show (N : Int) ≤ 2139095040 by omega)]
  · rw [Nat.min_eq_right k, Int.min_eq_right (show (2139095040 : Int) ≤ N by omega)]; rfl
/-- The document's rounding is the model's. -/
theorem nearest_rnd (neg : Bool) (m : Nat) (e : Int) (hm : m < 18446744073709551616) (h0 : -300 ≤ e) (h1 : e ≤ 200) : ((single.nearest neg m e : Nat) : Int) = Rd.rnd neg (m : Int) e := by
  by_cases hz : m = 0
  · subst hz
    rw [nearest_zero]
    unfold Rd.rnd wd Rd.sg
    have hc : (((0 : Nat) : Int) = 0 ∨ e < -300) := Or.inl rfl
    rw [if_pos hc]
    cases neg <;> rfl
  rw [nearest_raw neg m e hz]
  unfold Rd.rnd
  rw [if_neg (by omega), if_neg (by omega)]
  have hL : Rd.last (m : Int) e = lst m e := by unfold Rd.last lst Rd.lg; rw [Int.toNat_natCast]
  rw [hL]
  have hlb := (Nat.log2_eq_iff hz).1 rfl
  have hl64 : m.log2 < 64 := (Nat.log2_lt hz).2 hm
  have hl0 : -149 ≤ lst m e := by unfold lst; omega
  have hl1 : e + m.log2 - 23 ≤ lst m e := by unfold lst; omega
  have hl2 : lst m e ≤ 250 := by unfold lst; omega
  have hN : Rd.near (m : Int) (lst m e - e) = (rhe (m * 2 ^ (e - lst m e).toNat) (2 ^ (lst m e - e).toNat) : Nat) ∧ rhe (m * 2 ^ (e - lst m e).toNat) (2 ^ (lst m e - e).toNat) ≤ 16777216 := by
    generalize lst m e = L at *
    unfold Rd.near
    by_cases hd : L - e ≤ 0
    · rw [if_pos hd, show (L - e).toNat = 0 by omega, Nat.pow_zero, rhe_one]
      have hle : (e - L).toNat ≤ 23 - m.log2 ∧ m.log2 ≤ 23 := by omega
      have b1 : m * 2 ^ (e - L).toNat ≤ 2 ^ (m.log2 + 1) * 2 ^ (e - L).toNat := Nat.mul_le_mul_right _ (by omega)
      have b2 : 2 ^ (m.log2 + 1) * 2 ^ (e - L).toNat ≤ 2 ^ 24 := by rw [← Nat.pow_add]; exact Nat.pow_le_pow_right (by omega) (by omega)
      refine ⟨?_, by omega⟩
      rw [show min (-(L - e)).toNat 64 = (e - L).toNat by omega]
      have e3 : (m : Int) * 2 ^ (e - L).toNat = ((m * 2 ^ (e - L).toNat : Nat) : Int) := by simp
      rw [e3, IntKind.wrap_u64]; omega
    · have hb : rhe (m * 2 ^ (e - L).toNat) (2 ^ (L - e).toNat) ≤ 16777216 := by
        rw [show (e - L).toNat = 0 by omega, Nat.pow_zero, Nat.mul_one]
        refine rhe_le _ _ _ (Nat.two_pow_pos _) ?_
        have : 2 ^ (m.log2 + 1) ≤ 2 ^ (24 + (L - e).toNat) := Nat.pow_le_pow_right (by omega) (by omega)
        have a9 : 2 ^ (24 + (L - e).toNat) = 16777216 * 2 ^ (L - e).toNat := by rw [Nat.pow_add]
        omega
      refine ⟨?_, hb⟩
      rw [if_neg hd, show (e - L).toNat = 0 by omega, Nat.pow_zero, Nat.mul_one]
      by_cases h64 : 64 < L - e
      · rw [if_pos h64]
        have a1 : 2 ^ 65 ≤ 2 ^ (L - e).toNat := Nat.pow_le_pow_right (by omega) (by omega)
        have : rhe m (2 ^ (L - e).toNat) = 0 := by
          unfold rhe
          rw [Nat.div_eq_of_lt (by omega), Nat.mod_eq_of_lt (by omega)]
          have c1 : decide (2 ^ (L - e).toNat < 2 * m) = false := by simp; omega
          simp [c1]
        rw [this]; rfl
      · rw [if_neg h64]
        obtain ⟨k, hk⟩ : ∃ k, (L - e).toNat = k + 1 := ⟨(L - e).toNat - 1, by omega⟩
        rw [hk, Nat.add_sub_cancel]
        unfold rhe
        have c0 : (2 : Int) ^ (k + 1) = ((2 ^ (k + 1) : Nat) : Int) := by simp
        have c1 : (2 : Int) ^ k = ((2 ^ k : Nat) : Int) := by simp
        have c2 : 2 ^ (k + 1) = 2 * 2 ^ k := by rw [Nat.pow_succ]; omega
        rw [c0, c1, ← Int.natCast_emod, ← Int.natCast_ediv]
        generalize m % 2 ^ (k + 1) = r
        generalize m / 2 ^ (k + 1) = q
        rw [c2]
        generalize 2 ^ k = h
        by_cases g1 : h < r
        · rw [if_pos (Or.inl (by omega))]
          have : decide (2 * h < 2 * r) = true := by simp; omega
          rw [this, Bool.true_or, Bool.toNat_true]; omega
        · have g1' : decide (2 * h < 2 * r) = false := by simp; omega
          rw [g1', Bool.false_or]
          by_cases g2 : r = h ∧ q % 2 = 1
          · rw [if_pos (Or.inr (by omega))]
            have : (2 * h == 2 * r && q % 2 == 1) = true := by simp; omega
            rw [this]; simp
          · rw [if_neg (by omega)]
            have : (2 * h == 2 * r && q % 2 == 1) = false := by
              rw [Bool.eq_false_iff]; intro hc; simp at hc; omega
            rw [this]; simp
  obtain ⟨n1, n2⟩ := hN
  rw [n1]
  generalize rhe (m * 2 ^ (e - lst m e).toNat) (2 ^ (lst m e - e).toNat) = R at *
  generalize lst m e = L at *
  have e5 : IntKind.u64.wrap ((L + 149) * 8388608 + (R : Int)) = (L + 149) * 8388608 + (R : Int) := by rw [IntKind.wrap_u64]; omega
  rw [e5]
  have e6 : ((min ((L + 149).toNat * 8388608 + R) 2139095040 : Nat) : Int) = min ((L + 149) * 8388608 + (R : Int)) 2139095040 := min_cast L R hl0
  clear e5 n1 n2 hlb hL
  generalize min ((L + 149) * 8388608 + (R : Int)) 2139095040 = T at *
  generalize min ((L + 149).toNat * 8388608 + R) 2139095040 = U at *
  unfold wd Rd.sg
  cases neg
  · rw [if_neg (by decide), if_neg (by decide)]; omega
  · rw [if_pos rfl, if_pos rfl]; omega
/-- One normal number by another. -/
theorem div_norm (a b : Nat) (s t : Bool) (X Y : Nat) (i j : Int) (ha : single.read a = .number s X i) (hb : single.read b = .number t Y j) (hX : 8388608 ≤ X) (hX2 : X < 16777216) (hY : 8388608 ≤ Y) (hY2 : Y < 16777216) :
    single.div a b = some (single.nearest (s ^^ t) (quo X Y 25) (i - j - 26)) := by
  have lx : X.log2 = 23 := (Nat.log2_eq_iff (by omega)).2 ⟨by omega, by omega⟩
  have ly : Y.log2 = 23 := (Nat.log2_eq_iff (by omega)).2 ⟨by omega, by omega⟩
  unfold Format.div
  rw [ha, hb]
  unfold Datum.quotient
  simp only [if_neg (show ¬ Y = 0 by omega), lx, ly, f_fb, Option.map_some, Format.write, Nat.shiftLeft_eq]
  have e : i - j - ((23 + 2 + 23 - 23 : Nat) : Int) - 1 = i - j - 26 := by omega
  rw [e]
  rfl
/-- Nothing by a normal number. -/
theorem div_zero (b : Nat) (t : Bool) (Y : Nat) (j : Int) (hb : single.read b = .number t Y j) (hY : Y ≠ 0) : single.div 0 b = some (wd t 0) := by
  have h0 : single.read 0 = .number false 0 (-149) := by rw [frd]; rfl
  unfold Format.div
  rw [h0, hb]
  unfold Datum.quotient
  simp only [if_neg hY, Nat.shiftLeft_eq, Nat.zero_mul, Nat.zero_div, Nat.zero_mod, Option.map_some, Format.write, Bool.false_xor]
  exact congrArg some (nearest_zero t _)
/-- A whole number as a float32: where it lies. -/
theorem whole_b (z : Nat) (h0 : 0 < z) (h1 : z < 18446744073709551616) : 8388608 ≤ single.nearest false z 0 ∧ single.nearest false z 0 < 2139095040 := by
  have hz : z ≠ 0 := by omega
  have hlb := (Nat.log2_eq_iff hz).1 rfl
  have hl64 : z.log2 < 64 := (Nat.log2_lt hz).2 h1
  have e : lst z 0 = (z.log2 : Int) - 23 := by unfold lst; omega
  rw [nearest_raw false z 0 hz, e]
  have hr : rhe (z * 2 ^ (0 - ((z.log2 : Int) - 23)).toNat) (2 ^ ((z.log2 : Int) - 23 - 0).toNat) ≤ 16777216 := by
    refine rhe_le _ _ _ (Nat.two_pow_pos _) ?_
    have : z * 2 ^ (0 - ((z.log2 : Int) - 23)).toNat ≤ 2 ^ (z.log2 + 1) * 2 ^ (0 - ((z.log2 : Int) - 23)).toNat := Nat.mul_le_mul_right _ (by omega)
    have a2 : 2 ^ (z.log2 + 1) * 2 ^ (0 - ((z.log2 : Int) - 23)).toNat = 16777216 * 2 ^ ((z.log2 : Int) - 23 - 0).toNat := by
      rw [show (16777216 : Nat) = 2 ^ 24 from rfl, ← Nat.pow_add, ← Nat.pow_add]; congr 1; omega
    omega
  generalize rhe (z * 2 ^ (0 - ((z.log2 : Int) - 23)).toNat) (2 ^ ((z.log2 : Int) - 23 - 0).toNat) = R at *
  unfold wd
  simp only [Bool.false_eq_true, if_false]
  omega
/-- A whole number of at most 24 digits is held exactly. -/
theorem whole_read (z : Nat) (h0 : 0 < z) (h1 : z < 16777216) : single.read (single.nearest false z 0) = .number false (z * 2 ^ (23 - z.log2)) ((z.log2 : Int) - 23) ∧ 8388608 ≤ z * 2 ^ (23 - z.log2) ∧ z * 2 ^ (23 - z.log2) < 16777216 := by
  have hz : z ≠ 0 := by omega
  have hlb := (Nat.log2_eq_iff hz).1 rfl
  have hl : z.log2 < 24 := (Nat.log2_lt hz).2 h1
  have b0 : 8388608 ≤ z * 2 ^ (23 - z.log2) := by
    have := Nat.mul_le_mul_right (2 ^ (23 - z.log2)) hlb.1
    rw [← Nat.pow_add, show z.log2 + (23 - z.log2) = 23 by omega] at this; exact this
  have b1 : z * 2 ^ (23 - z.log2) < 16777216 := by
    have := Nat.mul_lt_mul_of_pos_right hlb.2 (Nat.two_pow_pos (23 - z.log2))
    rw [← Nat.pow_add, show z.log2 + 1 + (23 - z.log2) = 24 by omega] at this; exact this
  have e : lst z 0 = (z.log2 : Int) - 23 := by unfold lst; omega
  have hw : single.nearest false z 0 = (z.log2 + 126) * 8388608 + z * 2 ^ (23 - z.log2) := by
    rw [nearest_raw false z 0 hz, e, show ((z.log2 : Int) - 23 - 0).toNat = 0 by omega, Nat.pow_zero, rhe_one, show (0 - ((z.log2 : Int) - 23)).toNat = 23 - z.log2 by omega, show ((z.log2 : Int) - 23 + 149).toNat = z.log2 + 126 by omega]
    unfold wd
    simp only [Bool.false_eq_true, if_false]
    omega
  refine ⟨?_, b0, b1⟩
  rw [hw]
  generalize z * 2 ^ (23 - z.log2) = X at *
  rw [read_norm _ (by omega) (by omega)]
  congr 1
  · omega
  · omega
/-- A whole number by a power of two. -/
theorem div_pow (z k : Nat) (h0 : 0 < z) (h1 : z < 16777216) (hk : k ≤ 100) : single.div (single.nearest false z 0) ((127 + k) * 8388608) = some (single.nearest false z (-(k : Int))) := by
  obtain ⟨r, b0, b1⟩ := whole_read z h0 h1
  have hl : z.log2 < 24 := (Nat.log2_lt (by omega)).2 h1
  have rb : single.read ((127 + k) * 8388608) = .number false 8388608 ((k : Int) - 23) := by
    rw [read_norm _ (by omega) (by omega)]
    congr 1
    · omega
    · omega
  rw [div_norm _ _ _ _ _ _ _ _ r rb b0 b1 (by omega) (by omega)]
  congr 1
  have q : quo (z * 2 ^ (23 - z.log2)) 8388608 25 = z * 2 ^ (26 - z.log2) := by
    unfold quo
    have e1 : z * 2 ^ (23 - z.log2) * 2 ^ 25 = z * 2 ^ (23 - z.log2) * 4 * 8388608 := by rw [Nat.mul_assoc (z * _)]
    rw [e1, Nat.mul_div_cancel _ (by omega), Nat.mul_mod_left]
    have e2 : 2 ^ (26 - z.log2) = 2 ^ (23 - z.log2) * 8 := by rw [show 26 - z.log2 = (23 - z.log2) + 3 by omega, Nat.pow_add]
    rw [e2]
    simp only [bne_self_eq_false, Bool.toNat_false]
    have e3 : z * (2 ^ (23 - z.log2) * 8) = z * 2 ^ (23 - z.log2) * 8 := by rw [Nat.mul_assoc]
    omega
  rw [Bool.false_xor, q, nearest_shift false z _ _ (by omega) (by omega)]
  congr 1
  omega
end Fl
end Go.Proofs.YteegfadhfimlcaaGreatDoor
