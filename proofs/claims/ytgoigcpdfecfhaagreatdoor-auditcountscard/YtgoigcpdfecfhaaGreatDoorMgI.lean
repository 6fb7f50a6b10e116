import Derived.Test.YtgoigcpdfecfhaaGreatDoorRdM
import Ieee.Arith
namespace Go.Proofs.YtgoigcpdfecfhaaGreatDoor
namespace Fl
open Go.RowKit Ieee
set_option linter.unusedVariables false
theorem f_sw : single.signWeight = 2147483648 := by decide
theorem f_bi : single.binade = 8388608 := by decide
theorem f_in : single.infRung = 2139095040 := by decide
theorem f_lp : single.leastPlace = -149 := by decide
theorem f_fb : single.fractionBits = 23 := by decide
/-- N / D, to the nearest, of two the even one. -/
def rhe (N D : Nat) : Nat := N / D + (decide (D < 2 * (N % D)) || (D == 2 * (N % D) && N / D % 2 == 1)).toNat
theorem rhe_scale (N D c : Nat) (hc : 0 < c) : rhe (N * c) (D * c) = rhe N D := by
  unfold rhe
  rw [Nat.mul_div_mul_right _ _ hc, Nat.mul_mod_mul_right, ← Nat.mul_assoc]
  have e1 : decide (D * c < 2 * (N % D) * c) = decide (D < 2 * (N % D)) := by
    rw [decide_eq_decide]; exact Nat.mul_lt_mul_right hc
  have e2 : (D * c == 2 * (N % D) * c) = (D == 2 * (N % D)) := by
    rw [Bool.eq_iff_iff, beq_iff_eq, beq_iff_eq]
    exact ⟨fun h => Nat.eq_of_mul_eq_mul_right hc h, fun h => congrArg (· * c) h⟩
  rw [e1, e2]
theorem cut_rhe (neg : Bool) (n drop : Nat) : Toward.even.cut neg n drop = rhe n (2 ^ drop) := by
  unfold Toward.cut rhe
  simp only [Nat.one_shiftLeft]
  by_cases h : drop ≤ n.log2 + 2
  · rw [Nat.min_eq_left h]
  · rw [Nat.min_eq_right (by omega)]
    have hn : n < 2 ^ (n.log2 + 1) := Nat.lt_log2_self
    have h2 : 2 ^ (n.log2 + 2) = 2 * 2 ^ (n.log2 + 1) := by rw [Nat.pow_succ, Nat.mul_comm]
    have h3 : 2 ^ (n.log2 + 2) ≤ 2 ^ drop := Nat.pow_le_pow_right (by omega) (by omega)
    rw [Nat.div_eq_of_lt (by omega), Nat.div_eq_of_lt (show n < 2 ^ drop by omega), Nat.mod_eq_of_lt (by omega), Nat.mod_eq_of_lt (show n < 2 ^ drop by omega)]
    have e1 : decide (2 ^ (n.log2 + 2) < 2 * n) = false := by simp; omega
    have e2 : decide (2 ^ drop < 2 * n) = false := by simp; omega
    simp [e1, e2]
theorem rhe_one (n : Nat) : rhe n 1 = n := by
  unfold rhe; simp [Nat.mod_one]
theorem rhe_le (N D k : Nat) (hD : 0 < D) (h : N ≤ k * D) : rhe N D ≤ k := by
  unfold rhe
  rcases Nat.lt_or_ge N (k * D) with h1 | h1
  · have : N / D < k := (Nat.div_lt_iff_lt_mul hD).2 h1
    have h2 : (decide (D < 2 * (N % D)) || (D == 2 * (N % D) && N / D % 2 == 1)).toNat ≤ 1 := Bool.toNat_le _
    omega
  · have : N = k * D := by omega
    subst this
    rw [Nat.mul_mod_left, Nat.mul_div_cancel _ hD]
    have e1 : (D == 2 * 0) = false := by simp; omega
    simp [e1]
theorem rhe_ge (N D k : Nat) (hD : 0 < D) (h : k * D ≤ N) : k ≤ rhe N D := by
  unfold rhe
  have := (Nat.le_div_iff_mul_le hD).2 h
  omega
/-- The place of the last digit that is kept. -/
def lst (m : Nat) (p : Int) : Int := max (p + m.log2 - 23) (-149)
def wd (neg : Bool) (r : Nat) : Nat := if neg then 2147483648 + r else r
theorem nearest_raw (neg : Bool) (m : Nat) (p : Int) (hm : m ≠ 0) :
    single.nearest neg m p = wd neg (min ((lst m p + 149).toNat * 8388608 + rhe (m * 2 ^ (p - lst m p).toNat) (2 ^ (lst m p - p).toNat)) 2139095040) := by
  unfold Format.nearest wd lst Format.word
  rw [if_neg hm]
  simp only [f_fb, f_lp, f_bi, f_in, f_sw, cut_rhe, Nat.shiftLeft_eq, Int.sub_neg]
  rfl
theorem nearest_zero (neg : Bool) (p : Int) : single.nearest neg 0 p = wd neg 0 := by
  unfold Format.nearest wd Format.word; rw [if_pos rfl]; simp only [f_sw]
theorem pow_tn (a b c : Int) (ha : 0 ≤ a) (hb : 0 ≤ b) (h : a + b = c) : 2 ^ a.toNat * 2 ^ b.toNat = 2 ^ c.toNat := by
  rw [← Nat.pow_add]; congr 1; omega
theorem nearest_eq (neg : Bool) (m : Nat) (p K : Int) (hm : m ≠ 0) (hp : 0 ≤ p + K) (hK : 149 ≤ K) :
    single.nearest neg m p = wd neg (min ((lst m p + 149).toNat * 8388608 + rhe (m * 2 ^ (p + K).toNat) (2 ^ (lst m p + K).toNat)) 2139095040) := by
  rw [nearest_raw neg m p hm]
  have hl : -149 ≤ lst m p := by unfold lst; omega
  generalize lst m p = L at *
  congr 3
  rcases Int.le_total L p with h | h
  · rw [show (L - p).toNat = 0 by omega, Nat.pow_zero]
    have := rhe_scale (m * 2 ^ (p - L).toNat) 1 (2 ^ (L + K).toNat) (Nat.two_pow_pos _)
    rw [Nat.one_mul, Nat.mul_assoc, pow_tn (p - L) (L + K) (p + K) (by omega) (by omega) (by omega)] at this
    exact this.symm
  · rw [show (p - L).toNat = 0 by omega, Nat.pow_zero, Nat.mul_one]
    have := rhe_scale m (2 ^ (L - p).toNat) (2 ^ (p + K).toNat) (Nat.two_pow_pos _)
    rw [pow_tn (L - p) (p + K) (L + K) (by omega) (by omega) (by omega)] at this
    exact this.symm
/-- A number and the same with more digits. -/
theorem nearest_shift (neg : Bool) (m j : Nat) (p : Int) (hm : m ≠ 0) (hp : -1000 ≤ p) : single.nearest neg (m * 2 ^ j) p = single.nearest neg m (p + j) := by
  have h0 : m * 2 ^ j ≠ 0 := Nat.mul_ne_zero hm (Nat.ne_of_gt (Nat.two_pow_pos j))
  have hl : (m * 2 ^ j).log2 = m.log2 + j := by
    have hb := (Nat.log2_eq_iff hm).1 rfl
    refine (Nat.log2_eq_iff h0).2 ⟨?_, ?_⟩
    · rw [Nat.pow_add]; exact Nat.mul_le_mul_right _ hb.1
    · rw [show m.log2 + j + 1 = (m.log2 + 1) + j by omega, Nat.pow_add]; exact Nat.mul_lt_mul_of_pos_right hb.2 (Nat.two_pow_pos j)
  rw [nearest_eq neg _ p 2000 h0 (by omega) (by omega), nearest_eq neg m (p + j) 2000 hm (by omega) (by omega)]
  have e : lst (m * 2 ^ j) p = lst m (p + j) := by unfold lst; rw [hl]; congr 1; omega
  rw [e]
  congr 4
  rw [Nat.mul_assoc, ← Nat.pow_add]; congr 2; omega
/-- What is left over only has to be told from nothing. -/
theorem sticky (A Y d : Nat) (hY : 0 < Y) (hd : 2 ≤ d) : rhe (2 * (A / Y) + (A % Y != 0).toNat) (2 ^ d) = rhe (2 * A) (Y * 2 ^ d) := by
  obtain ⟨k, rfl⟩ : ∃ k, d = k + 2 := ⟨d - 2, by omega⟩
  have e2 : 2 ^ (k + 2) = 2 * (2 * 2 ^ k) := by rw [Nat.pow_succ, Nat.pow_succ]; omega
  have hk := Nat.two_pow_pos k
  generalize 2 ^ k = h at *
  rw [e2]
  have hr : A % Y < Y := Nat.mod_lt _ hY
  have hA := Nat.div_add_mod A Y
  generalize hq : A / Y = q at *
  generalize hrr : A % Y = r at *
  have hs : (r != 0).toNat ≤ 1 := Bool.toNat_le _
  have hs0 : (r != 0).toNat = 0 ↔ r = 0 := by cases hx : (r != 0) <;> simp_all
  generalize (r != 0).toNat = s at *
  -- the quotients
  have d1 : (2 * q + s) / (2 * (2 * h)) = q / (2 * h) := by
    rw [← Nat.div_div_eq_div_mul]; congr 1; omega
  have d2 : 2 * A / (Y * (2 * (2 * h))) = q / (2 * h) := by
    rw [show Y * (2 * (2 * h)) = 2 * (Y * (2 * h)) by rw [Nat.mul_left_comm], Nat.mul_div_mul_left _ _ (by omega), ← Nat.div_div_eq_div_mul, hq]
  have m1 : (2 * q + s) % (2 * (2 * h)) = 2 * (q % (2 * h)) + s := by
    have a1 := Nat.div_add_mod (2 * q + s) (2 * (2 * h))
    have a2 := Nat.div_add_mod q (2 * h)
    rw [d1] at a1
    have a3 : 2 * (2 * h) * (q / (2 * h)) = 2 * (2 * h * (q / (2 * h))) := by rw [Nat.mul_assoc]
    omega
  have m2 : 2 * A % (Y * (2 * (2 * h))) = 2 * (Y * (q % (2 * h)) + r) := by
    rw [show Y * (2 * (2 * h)) = 2 * (Y * (2 * h)) by rw [Nat.mul_left_comm], Nat.mul_mod_mul_left]
    congr 1
    have a2 := Nat.div_add_mod q (2 * h)
    have a4 : A = Y * (2 * h) * (q / (2 * h)) + (Y * (q % (2 * h)) + r) := by
      have : Y * q = Y * (2 * h * (q / (2 * h)) + q % (2 * h)) := by rw [a2]
      rw [Nat.mul_add] at this
      rw [Nat.mul_assoc]
      omega
    have a5 : Y * (q % (2 * h)) + r < Y * (2 * h) := by
      have b1 : q % (2 * h) < 2 * h := Nat.mod_lt _ (by omega)
      have b2 : Y * (q % (2 * h) + 1) ≤ Y * (2 * h) := Nat.mul_le_mul_left _ b1
      rw [Nat.mul_add, Nat.mul_one] at b2
      omega
    rw [a4, Nat.mul_add_mod, Nat.mod_eq_of_lt a5]
  unfold rhe
  rw [d1, d2, m1, m2]
  generalize q % (2 * h) = t at *
  have hYh : Y * (2 * (2 * h)) = 4 * (Y * h) := by rw [show 2 * (2 * h) = 4 * h by omega, Nat.mul_left_comm]
  rw [hYh]
  have key : (t < h ∧ Y * t + Y ≤ Y * h) ∨ t = h ∨ (h < t ∧ Y * h + Y ≤ Y * t) := by
    rcases Nat.lt_trichotomy t h with c | c | c
    · refine Or.inl ⟨c, ?_⟩
      have := Nat.mul_le_mul_left Y (show t + 1 ≤ h from c); rw [Nat.mul_add, Nat.mul_one] at this; exact this
    · exact Or.inr (Or.inl c)
    · refine Or.inr (Or.inr ⟨c, ?_⟩)
      have := Nat.mul_le_mul_left Y (show h + 1 ≤ t from c); rw [Nat.mul_add, Nat.mul_one] at this; exact this
  have c1 : decide (2 * (2 * h) < 2 * (2 * t + s)) = decide (4 * (Y * h) < 2 * (2 * (Y * t + r))) := by
    rw [decide_eq_decide]
    rcases key with ⟨a, b⟩ | a | ⟨a, b⟩
    · constructor <;> intro hh <;> omega
    · subst a; constructor <;> intro hh <;> omega
    · constructor <;> intro hh <;> omega
  have c2 : (2 * (2 * h) == 2 * (2 * t + s)) = (4 * (Y * h) == 2 * (2 * (Y * t + r))) := by
    rw [Bool.eq_iff_iff, beq_iff_eq, beq_iff_eq]
    rcases key with ⟨a, b⟩ | a | ⟨a, b⟩
    · constructor <;> intro hh <;> omega
    · subst a; constructor <;> intro hh <;> omega
    · constructor <;> intro hh <;> omega
  rw [c1, c2]
/-- Two normal numbers, one by the other: to k digits and one more. -/
def quo (X Y k : Nat) : Nat := 2 * (X * 2 ^ k / Y) + (X * 2 ^ k % Y != 0).toNat
theorem quo_log (X Y k : Nat) (hX : 8388608 ≤ X) (hX2 : X < 16777216) (hY : 8388608 ≤ Y) (hY2 : Y < 16777216) (hk : 1 ≤ k) :
    quo X Y k ≠ 0 ∧ ((quo X Y k).log2 : Nat) = k + (if Y ≤ X then 1 else 0) := by
  unfold quo
  have hs : (X * 2 ^ k % Y != 0).toNat ≤ 1 := Bool.toNat_le _
  generalize (X * 2 ^ k % Y != 0).toNat = s at *
  obtain ⟨j, rfl⟩ : ∃ j, k = j + 1 := ⟨k - 1, by omega⟩
  have hp := Nat.two_pow_pos j
  have e1 : 2 ^ (j + 1) = 2 * 2 ^ j := by rw [Nat.pow_succ]; omega
  have e2 : 2 ^ (j + 1 + 1) = 4 * 2 ^ j := by rw [Nat.pow_succ, e1]; omega
  have e3 : 2 ^ (j + 1 + 1 + 1) = 8 * 2 ^ j := by rw [Nat.pow_succ, e2]; omega
  by_cases h : Y ≤ X
  · rw [if_pos h]
    have l1 : 2 * 2 ^ j ≤ X * 2 ^ (j + 1) / Y := (Nat.le_div_iff_mul_le (by omega)).2 (by
      rw [e1, Nat.mul_comm]; exact Nat.mul_le_mul_right _ h)
    have l2 : X * 2 ^ (j + 1) / Y < 4 * 2 ^ j := (Nat.div_lt_iff_lt_mul (by omega)).2 (by
      rw [e1]
      have a1 : X * (2 * 2 ^ j) < (2 * Y) * (2 * 2 ^ j) := Nat.mul_lt_mul_of_pos_right (by omega) (by omega)
      have a2 : (2 * Y) * (2 * 2 ^ j) = 4 * 2 ^ j * Y := by rw [Nat.mul_comm (2 * Y), ← Nat.mul_assoc, Nat.mul_right_comm 2 (2 ^ j) 2]
      omega)
    generalize X * 2 ^ (j + 1) / Y = q at *
    refine ⟨by omega, (Nat.log2_eq_iff (by omega)).2 ⟨?_, ?_⟩⟩
    · rw [e2]; omega
    · rw [e3]; omega
  · rw [if_neg h]
    have l1 : 2 ^ j ≤ X * 2 ^ (j + 1) / Y := (Nat.le_div_iff_mul_le (by omega)).2 (by
      rw [e1]
      have a1 : Y * 2 ^ j ≤ (2 * X) * 2 ^ j := Nat.mul_le_mul_right _ (by omega)
      have a2 : (2 * X) * 2 ^ j = X * (2 * 2 ^ j) := by rw [Nat.mul_comm 2 X, Nat.mul_assoc]
      have a3 : 2 ^ j * Y = Y * 2 ^ j := Nat.mul_comm _ _
      omega)
    have l2 : X * 2 ^ (j + 1) / Y < 2 * 2 ^ j := (Nat.div_lt_iff_lt_mul (by omega)).2 (by
      rw [e1, Nat.mul_comm]; exact Nat.mul_lt_mul_of_pos_left (by omega) (by omega))
    generalize X * 2 ^ (j + 1) / Y = q at *
    refine ⟨by omega, (Nat.log2_eq_iff (by omega)).2 ⟨?_, ?_⟩⟩
    · rw [Nat.add_zero, e1]; omega
    · rw [Nat.add_zero, e2]; omega
/-- However many digits more are reckoned: the same word. -/
theorem quo_more (neg : Bool) (X Y j k : Nat) (P : Int) (hX : 8388608 ≤ X) (hX2 : X < 16777216) (hY : 8388608 ≤ Y) (hY2 : Y < 16777216) (hj : 25 ≤ j) (hk : 25 ≤ k) (hj2 : j ≤ 100) (hk2 : k ≤ 100) (hP : -1000 ≤ P) :
    single.nearest neg (quo X Y j) (P - j - 1) = single.nearest neg (quo X Y k) (P - k - 1) := by
  obtain ⟨z1, l1⟩ := quo_log X Y j hX hX2 hY hY2 (by omega)
  obtain ⟨z2, l2⟩ := quo_log X Y k hX hX2 hY hY2 (by omega)
  have H : ∀ n : Nat, 25 ≤ n → n ≤ 100 → quo X Y n ≠ 0 → (quo X Y n).log2 = n + (if Y ≤ X then 1 else 0) →
      single.nearest neg (quo X Y n) (P - n - 1) = wd neg (min ((max (P + (if Y ≤ X then 1 else 0) - 24) (-149) + 149).toNat * 8388608 + rhe (X * 2 ^ (P + 1500).toNat) (Y * 2 ^ (max (P + (if Y ≤ X then 1 else 0) - 24) (-149) + 1500).toNat)) 2139095040) := by
    intro n hn hn2 z l
    have e : lst (quo X Y n) (P - n - 1) = max (P + (if Y ≤ X then 1 else 0) - 24) (-149) := by
      unfold lst; rw [l]; split <;> simp <;> omega
    rw [nearest_raw neg _ _ z, e]
    have hd : 2 ≤ (max (P + (if Y ≤ X then 1 else 0) - 24) (-149) - (P - n - 1)).toNat := by split <;> omega
    have hL : -149 ≤ max (P + (if Y ≤ X then (1 : Int) else 0) - 24) (-149) := by omega
    have hL2 : P - n - 1 ≤ max (P + (if Y ≤ X then (1 : Int) else 0) - 24) (-149) := by split <;> omega
    generalize max (P + (if Y ≤ X then (1 : Int) else 0) - 24) (-149) = L at *
    congr 3
    rw [show (P - n - 1 - L).toNat = 0 by omega, Nat.pow_zero, Nat.mul_one]
    unfold quo
    rw [sticky _ _ _ (by omega) hd]
    have := rhe_scale (2 * (X * 2 ^ n)) (Y * 2 ^ (L - (P - n - 1)).toNat) (2 ^ (P - n - 1 + 1500).toNat) (Nat.two_pow_pos _)
    rw [← this, Nat.mul_assoc Y, pow_tn (L - (P - n - 1)) (P - n - 1 + 1500) (L + 1500) (by omega) (by omega) (by omega)]
    congr 1
    rw [Nat.mul_comm 2, Nat.mul_assoc X, Nat.mul_assoc X]
    congr 1
    have e1 : 2 ^ n * 2 = 2 ^ (n + 1) := by rw [Nat.pow_succ]
    rw [e1, ← Nat.pow_add]
    congr 1
    omega
  rw [H j hj hj2 z1 l1, H k hk hk2 z2 l2]
end Fl
end Go.Proofs.YtgoigcpdfecfhaaGreatDoor
namespace Go.Proofs.YtgoigcpdfecfhaaGreatDoor
namespace Fl
open Go.RowKit Ieee
set_option linter.unusedVariables false
/-- What a word stands for, written out. -/
theorem frd (w : Nat) : single.read w = if w % 2147483648 < 8388608 then .number (w / 2147483648 % 2 == 1) (w % 2147483648) (-149)
    else if w % 2147483648 < 2139095040 then .number (w / 2147483648 % 2 == 1) (8388608 + w % 2147483648 % 8388608) (-149 + (w % 2147483648 / 8388608 - 1 : Nat))
    else if w % 2147483648 = 2139095040 then .infinity (w / 2147483648 % 2 == 1) else .nan (w / 2147483648 % 2 == 1) (w % 2147483648 - 2139095040) := by
  unfold Format.read; simp only [f_sw, f_bi, f_in, f_lp]
theorem fneg0 (w : Nat) (h : w < 2147483648) : (w / 2147483648 % 2 == 1) = false := by
  have : w / 2147483648 = 0 := by omega
  simp [this]
/-- A normal number that is not below 0. -/
theorem read_norm (a : Nat) (h0 : 8388608 ≤ a) (h1 : a < 2139095040) : single.read a = .number false (8388608 + a % 8388608) ((a / 8388608 : Nat) - 150) := by
  rw [frd, Nat.mod_eq_of_lt (show a < 2147483648 by omega), fneg0 a (by omega), if_neg (by omega), if_pos h1]
  congr 1
  omega
theorem min_cast (L : Int) (R : Nat) (h : -149 ≤ L) : ((min ((L + 149).toNat * 8388608 + R) 2139095040 : Nat) : Int) = min ((L + 149) * 8388608 + (R : Int)) 2139095040 := by
  obtain ⟨l, hl⟩ := Int.eq_ofNat_of_zero_le (show 0 ≤ L + 149 by omega)
  rw [hl]
  have e : (((l : Int).toNat * 8388608 + R : Nat) : Int) = (l : Int) * 8388608 + (R : Int) := by rw [Int.toNat_natCast, Int.natCast_add, Int.natCast_mul]; rfl
  rw [← e]
  generalize (l : Int).toNat * 8388608 + R = N
  rcases Nat.le_total N 2139095040 with k | k
  · rw [Nat.min_eq_left k, Int.min_eq_left (show (N : Int) ≤ 2139095040 by omega)]
  · rw [Nat.min_eq_right k, Int.min_eq_right (show (2139095040 : Int) ≤ N by omega)]; rfl
/-- The document's rounding is the model's. -/
theorem nearest_rnd (neg : Bool) (m : Nat) (e : Int) (hm : m < 18446744073709551616) (h0 : -300 ≤ e) (h1 : e ≤ 200) : ((single.nearest neg m e : Nat) : Int) = Rd.rnd neg (m : Int) e := by
  by_cases hz : m = 0
  · subst hz
    rw [nearest_zero]
    unfold Rd.rnd wd Rd.sg
    have hc : (((0 : Nat) : Int) = 0 ∨ e < -300) := Or.inl rfl
    rw [if_pos hc]
    cases neg <;> rfl
  rw [nearest_raw neg m e hz]
  unfold Rd.rnd
  rw [if_neg (by omega), if_neg (by omega)]
  have hL : Rd.last (m : Int) e = lst m e := by unfold Rd.last lst Rd.lg; rw [Int.toNat_natCast]
  rw [hL]
  have hlb := (Nat.log2_eq_iff hz).1 rfl
  have hl64 : m.log2 < 64 := (Nat.log2_lt hz).2 hm
  have hl0 : -149 ≤ lst m e := by unfold lst; omega
  have hl1 : e + m.log2 - 23 ≤ lst m e := by unfold lst; omega
  have hl2 : lst m e ≤ 250 := by unfold lst; omega
  have hN : Rd.near (m : Int) (lst m e - e) = (rhe (m * 2 ^ (e - lst m e).toNat) (2 ^ (lst m e - e).toNat) : Nat) ∧ rhe (m * 2 ^ (e - lst m e).toNat) (2 ^ (lst m e - e).toNat) ≤ 16777216 := by
    generalize lst m e = L at *
    unfold Rd.near
    by_cases hd : L - e ≤ 0
    · rw [if_pos hd, show (L - e).toNat = 0 by omega, Nat.pow_zero, rhe_one]
      have hle : (e - L).toNat ≤ 23 - m.log2 ∧ m.log2 ≤ 23 := by omega
      have b1 : m * 2 ^ (e - L).toNat ≤ 2 ^ (m.log2 + 1) * 2 ^ (e - L).toNat := Nat.mul_le_mul_right _ (by omega)
      have b2 : 2 ^ (m.log2 + 1) * 2 ^ (e - L).toNat ≤ 2 ^ 24 := by rw [← Nat.pow_add]; exact Nat.pow_le_pow_right (by omega) (by omega)
      refine ⟨?_, by omega⟩
      rw [show min (-(L - e)).toNat 64 = (e - L).toNat by omega]
      have e3 : (m : Int) * 2 ^ (e - L).toNat = ((m * 2 ^ (e - L).toNat : Nat) : Int) := by simp
      rw [e3, IntKind.wrap_u64]; omega
    · have hb : rhe (m * 2 ^ (e - L).toNat) (2 ^ (L - e).toNat) ≤ 16777216 := by
        rw [show (e - L).toNat = 0 by omega, Nat.pow_zero, Nat.mul_one]
        refine rhe_le _ _ _ (Nat.two_pow_pos _) ?_
        have : 2 ^ (m.log2 + 1) ≤ 2 ^ (24 + (L - e).toNat) := Nat.pow_le_pow_right (by omega) (by omega)
        have a9 : 2 ^ (24 + (L - e).toNat) = 16777216 * 2 ^ (L - e).toNat := by rw [Nat.pow_add]
        omega
      refine ⟨?_, hb⟩
      rw [if_neg hd, show (e - L).toNat = 0 by omega, Nat.pow_zero, Nat.mul_one]
      by_cases h64 : 64 < L - e
      · rw [if_pos h64]
        have a1 : 2 ^ 65 ≤ 2 ^ (L - e).toNat := Nat.pow_le_pow_right (by omega) (by omega)
        have : rhe m (2 ^ (L - e).toNat) = 0 := by
          unfold rhe
          rw [Nat.div_eq_of_lt (by omega), Nat.mod_eq_of_lt (by omega)]
          have c1 : decide (2 ^ (L - e).toNat < 2 * m) = false := by simp; omega
          simp [c1]
        rw [this]; rfl
      · rw [if_neg h64]
        obtain ⟨k, hk⟩ : ∃ k, (L - e).toNat = k + 1 := ⟨(L - e).toNat - 1, by omega⟩
        rw [hk, Nat.add_sub_cancel]
        unfold rhe
        have c0 : (2 : Int) ^ (k + 1) = ((2 ^ (k + 1) : Nat) : Int) := by simp
        have c1 : (2 : Int) ^ k = ((2 ^ k : Nat) : Int) := by simp
        have c2 : 2 ^ (k + 1) = 2 * 2 ^ k := by rw [Nat.pow_succ]; omega
        rw [c0, c1, ← Int.natCast_emod, ← Int.natCast_ediv]
        generalize m % 2 ^ (k + 1) = r
        generalize m / 2 ^ (k + 1) = q
        rw [c2]
        generalize 2 ^ k = h
        by_cases g1 : h < r
        · rw [if_pos (Or.inl (by omega))]
          have : decide (2 * h < 2 * r) = true := by simp; omega
          rw [this, Bool.true_or, Bool.toNat_true]; omega
        · have g1' : decide (2 * h < 2 * r) = false := by simp; omega
          rw [g1', Bool.false_or]
          by_cases g2 : r = h ∧ q % 2 = 1
          · rw [if_pos (Or.inr (by omega))]
            have : (2 * h == 2 * r && q % 2 == 1) = true := by simp; omega
            rw [this]; simp
          · rw [if_neg (by omega)]
            have : (2 * h == 2 * r && q % 2 == 1) = false := by
              rw [Bool.eq_false_iff]; intro hc; simp at hc; omega
            rw [this]; simp
  obtain ⟨n1, n2⟩ := hN
  rw [n1]
  generalize rhe (m * 2 ^ (e - lst m e).toNat) (2 ^ (lst m e - e).toNat) = R at *
  generalize lst m e = L at *
  have e5 : IntKind.u64.wrap ((L + 149) * 8388608 + (R : Int)) = (L + 149) * 8388608 + (R : Int) := by rw [IntKind.wrap_u64]; omega
  rw [e5]
  have e6 : ((min ((L + 149).toNat * 8388608 + R) 2139095040 : Nat) : Int) = min ((L + 149) * 8388608 + (R : Int)) 2139095040 := min_cast L R hl0
  clear e5 n1 n2 hlb hL
  generalize min ((L + 149) * 8388608 + (R : Int)) 2139095040 = T at *
  generalize min ((L + 149).toNat * 8388608 + R) 2139095040 = U at *
  unfold wd Rd.sg
  cases neg
  · rw [if_neg (by decide), if_neg (by decide)]; omega
  · rw [if_pos rfl, if_pos rfl]; omega
/-- One normal number by another. -/
theorem div_norm (a b : Nat) (s t : Bool) (X Y : Nat) (i j : Int) (ha : single.read a = .number s X i) (hb : single.read b = .number t Y j) (hX : 8388608 ≤ X) (hX2 : X < 16777216) (hY : 8388608 ≤ Y) (hY2 : Y < 16777216) :
    single.div a b = some (single.nearest (s ^^ t) (quo X Y 25) (i - j - 26)) := by
  have lx : X.log2 = 23 := (Nat.log2_eq_iff (by omega)).2 ⟨by omega, by omega⟩
  have ly : Y.log2 = 23 := (Nat.log2_eq_iff (by omega)).2 ⟨by omega, by omega⟩
  unfold Format.div
  rw [ha, hb]
  unfold Datum.quotient
  simp only [if_neg (show ¬ Y = 0 by omega), lx, ly, f_fb, Option.map_some, Format.write, Nat.shiftLeft_eq]
  have e : i - j - ((23 + 2 + 23 - 23 : Nat) : Int) - 1 = i - j - 26 := by omega
  rw [e]
  rfl
/-- Nothing by a normal number. -/
theorem div_zero (b : Nat) (t : Bool) (Y : Nat) (j : Int) (hb : single.read b = .number t Y j) (hY : Y ≠ 0) : single.div 0 b = some (wd t 0) := by
  have h0 : single.read 0 = .number false 0 (-149) := by rw [frd]; rfl
  unfold Format.div
  rw [h0, hb]
  unfold Datum.quotient
  simp only [if_neg hY, Nat.shiftLeft_eq, Nat.zero_mul, Nat.zero_div, Nat.zero_mod, Option.map_some, Format.write, Bool.false_xor]
  exact congrArg some (nearest_zero t _)
/-- A whole number as a float32: where it lies. -/
theorem whole_b (z : Nat) (h0 : 0 < z) (h1 : z < 18446744073709551616) : 8388608 ≤ single.nearest false z 0 ∧ single.nearest false z 0 < 2139095040 := by
  have hz : z ≠ 0 := by omega
  have hlb := (Nat.log2_eq_iff hz).1 rfl
  have hl64 : z.log2 < 64 := (Nat.log2_lt hz).2 h1
  have e : lst z 0 = (z.log2 : Int) - 23 := by unfold lst; omega
  rw [nearest_raw false z 0 hz, e]
  have hr : rhe (z * 2 ^ (0 - ((z.log2 : Int) - 23)).toNat) (2 ^ ((z.log2 : Int) - 23 - 0).toNat) ≤ 16777216 := by
    refine rhe_le _ _ _ (Nat.two_pow_pos _) ?_
    have : z * 2 ^ (0 - ((z.log2 : Int) - 23)).toNat ≤ 2 ^ (z.log2 + 1) * 2 ^ (0 - ((z.log2 : Int) - 23)).toNat := Nat.mul_le_mul_right _ (by omega)
    have a2 : 2 ^ (z.log2 + 1) * 2 ^ (0 - ((z.log2 : Int) - 23)).toNat = 16777216 * 2 ^ ((z.log2 : Int) - 23 - 0).toNat := by
      rw [show (16777216 : Nat) = 2 ^ 24 from rfl, ← Nat.pow_add, ← Nat.pow_add]; congr 1; omega
    omega
  generalize rhe (z * 2 ^ (0 - ((z.log2 : Int) - 23)).toNat) (2 ^ ((z.log2 : Int) - 23 - 0).toNat) = R at *
  unfold wd
  simp only [Bool.false_eq_true, if_false]
  omega
/-- A whole number of at most 24 digits is held exactly. -/
theorem whole_read (z : Nat) (h0 : 0 < z) (h1 : z < 16777216) : single.read (single.nearest false z 0) = .number false (z * 2 ^ (23 - z.log2)) ((z.log2 : Int) - 23) ∧ 8388608 ≤ z * 2 ^ (23 - z.log2) ∧ z * 2 ^ (23 - z.log2) < 16777216 := by
  have hz : z ≠ 0 := by omega
  have hlb := (Nat.log2_eq_iff hz).1 rfl
  have hl : z.log2 < 24 := (Nat.log2_lt hz).2 h1
  have b0 : 8388608 ≤ z * 2 ^ (23 - z.log2) := by
    have := Nat.mul_le_mul_right (2 ^ (23 - z.log2)) hlb.1
    rw [← Nat.pow_add, show z.log2 + (23 - z.log2) = 23 by omega] at this; exact this
  have b1 : z * 2 ^ (23 - z.log2) < 16777216 := by
    have := Nat.mul_lt_mul_of_pos_right hlb.2 (Nat.two_pow_pos (23 - z.log2))
    rw [← Nat.pow_add, show z.log2 + 1 + (23 - z.log2) = 24 by omega] at this; exact this
  have e : lst z 0 = (z.log2 : Int) - 23 := by unfold lst; omega
  have hw : single.nearest false z 0 = (z.log2 + 126) * 8388608 + z * 2 ^ (23 - z.log2) := by
    rw [nearest_raw false z 0 hz, e, show ((z.log2 : Int) - 23 - 0).toNat = 0 by omega, Nat.pow_zero, rhe_one, show (0 - ((z.log2 : Int) - 23)).toNat = 23 - z.log2 by omega, show ((z.log2 : Int) - 23 + 149).toNat = z.log2 + 126 by omega]
    unfold wd
    simp only [Bool.false_eq_true, if_false]
    omega
  refine ⟨?_, b0, b1⟩
  rw [hw]
  generalize z * 2 ^ (23 - z.log2) = X at *
  rw [read_norm _ (by omega) (by omega)]
  congr 1
  · omega
  · omega
/-- A whole number by a power of two. -/
theorem div_pow (z k : Nat) (h0 : 0 < z) (h1 : z < 16777216) (hk : k ≤ 100) : single.div (single.nearest false z 0) ((127 + k) * 8388608) = some (single.nearest false z (-(k : Int))) := by
  obtain ⟨r, b0, b1⟩ := whole_read z h0 h1
  have hl : z.log2 < 24 := (Nat.log2_lt (by omega)).2 h1
  have rb : single.read ((127 + k) * 8388608) = .number false 8388608 ((k : Int) - 23) := by
    rw [read_norm _ (by omega) (by omega)]
    congr 1
    · omega
    · omega
  rw [div_norm _ _ _ _ _ _ _ _ r rb b0 b1 (by omega) (by omega)]
  congr 1
  have q : quo (z * 2 ^ (23 - z.log2)) 8388608 25 = z * 2 ^ (26 - z.log2) := by
    unfold quo
    have e1 : z * 2 ^ (23 - z.log2) * 2 ^ 25 = z * 2 ^ (23 - z.log2) * 4 * 8388608 := by rw [Nat.mul_assoc (z * _)]
    rw [e1, Nat.mul_div_cancel _ (by omega), Nat.mul_mod_left]
    have e2 : 2 ^ (26 - z.log2) = 2 ^ (23 - z.log2) * 8 := by rw [show 26 - z.log2 = (23 - z.log2) + 3 by omega, Nat.pow_add]
    rw [e2]
    simp only [bne_self_eq_false, Bool.toNat_false]
    have e3 : z * (2 ^ (23 - z.log2) * 8) = z * 2 ^ (23 - z.log2) * 8 := by rw [Nat.mul_assoc]
    omega
  rw [Bool.false_xor, q, nearest_shift false z _ _ (by omega) (by omega)]
  congr 1
  omega
end Fl
end Go.Proofs.YtgoigcpdfecfhaaGreatDoor
