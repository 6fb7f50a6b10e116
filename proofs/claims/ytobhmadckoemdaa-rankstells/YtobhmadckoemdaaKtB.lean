import Derived.Test.YtobhmadckoemdaaKtA
import Derived.Test.YtobhmadckoemdaaRnZ
import Derived.Laws.Externs
namespace Go.Proofs.Ytobhmadckoemdaa
namespace Kt
open Go.RowKit Ieee Rn
set_option linter.unusedVariables false
set_option maxRecDepth 8000
theorem tobits (b : Nat) (w : World) : (callFunc 20 #[.float .f32 b]).run Try.prog w = .ok (.value (.int .u32 b)) w := by
  rw [run_callFunc_extern Try.func20 (by kernel_rfl) (by kernel_rfl) (by kernel_rfl) (e := Extern.MathFloatBits.float32bits) (by kernel_rfl)]
  rfl
theorem bits_any (b : Nat) (w : World) : Calls Try.prog 13 #[.float .f32 b] w fun e w' => e = .returned (.int .u32 b) ∧ w' = w := by
  have h := tobits b w
  go_enter Try.func13, Try.ntmps13
  go_wp2
  go_ret
  exact ⟨rfl, rfl⟩
theorem fdiv_run {x y r : Nat} (h : Ieee.single.div x y = some r) (W : World) : (binOp .quo 31 (.float .f32 x) (.float .f32 y)).run Try.prog W = .ok (.float .f32 r) W := by
  show (Op.floatArith .quo .f32 x y).run Try.prog W = _
  unfold Op.floatArith
  simp [FloatKind.format, h]
theorem fconv_run (n : Int) (W : World) : (convert 22 31 (.int .u64 n)).run Try.prog W = .ok (.float .f32 (Ieee.single.nearest (decide (n < 0)) n.natAbs 0)) W := by
  unfold convert
  simp only [Sem.run_bind, run_underlying Try.underlying22, run_underlying Try.underlying31, Result.andThen_ok]
  rfl
theorem whole_any (x : Int) (h0 : 0 ≤ x) (h1 : x < 18446744073709551616) (w : World) : Calls Try.prog 15 #[.int .u64 x] w fun e w' => e = .returned (.int .u32 (Rd.rnd false x 0)) ∧ w' = w := by
  have HR := hide (Rd.ref_any false x 0 h0 h1 (by omega) (by omega))
  clear h0 h1
  go_enter Try.func15, Try.ntmps15
  go_wp2_with (fail)
  refine (HR.out _).mono ?_
  rintro e1 w1 ⟨rfl, hw1⟩
  subst w1
  go_wp2
  go_ret
  exact ⟨rfl, rfl⟩
/-- A whole number as a float32. -/
theorem wh (x : Int) (h0 : 0 < x) (h1 : x < 18446744073709551616) : single.nearest (decide (x < 0)) x.natAbs 0 = (Rd.rnd false x 0).toNat ∧ 8388608 ≤ Rd.rnd false x 0 ∧ Rd.rnd false x 0 < 2139095040 := by
  obtain ⟨z, rfl⟩ := Int.eq_ofNat_of_zero_le (show 0 ≤ x by omega)
  have hd : decide ((z : Int) < 0) = false := by simp
  rw [hd, Int.natAbs_natCast, ← Fl.nearest_rnd false z 0 (by omega) (by omega) (by omega), Int.toNat_natCast]
  have := Fl.whole_b z (by omega) (by omega)
  omega
/-- How great it is, about. -/
theorem wh_e (x : Int) (h0 : 0 < x) (h1 : x < 18446744073709551616) : 127 ≤ Rd.rnd false x 0 / 8388608 ∧ Rd.rnd false x 0 / 8388608 ≤ 191 := by
  obtain ⟨z, rfl⟩ := Int.eq_ofNat_of_zero_le (show 0 ≤ x by omega)
  rw [← Fl.nearest_rnd false z 0 (by omega) (by omega) (by omega)]
  have hz : z ≠ 0 := by omega
  have hlb := (Nat.log2_eq_iff hz).1 rfl
  have hl64 : z.log2 < 64 := (Nat.log2_lt hz).2 (by omega)
  have e : Fl.lst z 0 = (z.log2 : Int) - 23 := by unfold Fl.lst; omega
  rw [Fl.nearest_raw false z 0 hz, e]
  have hq : 2 ^ (z.log2 + 1) * 2 ^ (0 - ((z.log2 : Int) - 23)).toNat = 16777216 * 2 ^ ((z.log2 : Int) - 23 - 0).toNat := by
    rw [show (16777216 : Nat) = 2 ^ 24 from rfl, ← Nat.pow_add, ← Nat.pow_add]; congr 1; omega
  have hq2 : 2 ^ z.log2 * 2 ^ (0 - ((z.log2 : Int) - 23)).toNat = 8388608 * 2 ^ ((z.log2 : Int) - 23 - 0).toNat := by
    rw [show (8388608 : Nat) = 2 ^ 23 from rfl, ← Nat.pow_add, ← Nat.pow_add]; congr 1; omega
  have hr : Fl.rhe (z * 2 ^ (0 - ((z.log2 : Int) - 23)).toNat) (2 ^ ((z.log2 : Int) - 23 - 0).toNat) ≤ 16777216 := by
    refine Fl.rhe_le _ _ _ (Nat.two_pow_pos _) ?_
    rw [← hq]; exact Nat.mul_le_mul_right _ (by omega)
  have hr2 : 8388608 ≤ Fl.rhe (z * 2 ^ (0 - ((z.log2 : Int) - 23)).toNat) (2 ^ ((z.log2 : Int) - 23 - 0).toNat) := by
    refine Fl.rhe_ge _ _ _ (Nat.two_pow_pos _) ?_
    rw [← hq2]; exact Nat.mul_le_mul_right _ hlb.1
  generalize Fl.rhe (z * 2 ^ (0 - ((z.log2 : Int) - 23)).toNat) (2 ^ ((z.log2 : Int) - 23 - 0).toNat) = R at *
  unfold Fl.wd
  simp only [Bool.false_eq_true, if_false]
  omega
/-- The share. -/
def sh (c m : Int) : Int := if m = 0 then 0 else if c = 0 then 0 else dv (Rd.rnd false c 0) (Rd.rnd false m 0)
theorem rnd00 : Rd.rnd false 0 0 = 0 := by decide
set_option maxHeartbeats 2000000 in
theorem share_1 (s : Nat → Int) (hle : s 1 ≤ s 2) (hs : ∀ i, 0 ≤ s i ∧ s i < 18446744073709551616) (w : World) : Calls Try.prog 7 #[.agg (sv s)] w fun e w' => e = .returned (.int .u32 (sh (s 0) (s 1))) ∧ Below w.heap.size w w' := by
  have hb := b1 w 24 (sv s)
  have hm0 := (hs 1).1
  have hm1 := (hs 1).2
  have hc := hs 0
  by_cases c0 : (s 1) = 0
  · have HV : Hid (sh (s 0) (s 1) = 0) := by show _ = _; unfold sh; rw [if_pos c0]
    rw [HV.out]
    have c0' : ((s 1) == 0) = true := by simp [c0]
    clear c0
    clear hs hc hm0 hm1
    go_enter Try.func7, Try.ntmps7
    go_wp2
    all_goals go_ret
    all_goals exact ⟨rfl, hb⟩
  have hne : ((s 1) == 0) = false := by simp [c0]
  obtain ⟨w1, w2, w3⟩ := wh (s 1) (by omega) hm1
  have cv2 := fconv_run (s 1)
  rw [w1] at cv2
  by_cases c1 : s 0 = 0
  · have HV : Hid (sh (s 0) (s 1) = 0) := by show _ = _; unfold sh; rw [if_neg c0, if_pos c1]
    rw [HV.out]
    have cv1 := fconv_run (s 0)
    rw [c1, show single.nearest (decide ((0 : Int) < 0)) (0 : Int).natAbs 0 = 0 from by rw [show (decide ((0 : Int) < 0)) = false from rfl, show (0 : Int).natAbs = 0 from rfl, Fl.nearest_zero]; rfl] at cv1
    have dd := fdiv_run (Fl.div_zero (Rd.rnd false (s 1) 0).toNat _ _ _ (Fl.read_norm _ (by omega) (by omega)) (by omega))
    rw [show Fl.wd false 0 = 0 from rfl] at dd
    have HB := hide (bits_any 0)
    rw [← c1] at cv1
    clear hs hc hm0 hm1 c0 c1 w1 w2 w3
    go_enter Try.func7, Try.ntmps7
    go_wp2_with (go_at_call 13; refine (HB.out _).mono ?_; rintro e9 w9 ⟨rfl, hw9⟩; subst w9)
    all_goals go_ret
    all_goals exact ⟨rfl, hb⟩
  · have HV : Hid (sh (s 0) (s 1) = dv (Rd.rnd false (s 0) 0) (Rd.rnd false (s 1) 0)) := by show _ = _; unfold sh; rw [if_neg c0, if_neg c1]
    rw [HV.out]
    obtain ⟨v1, v2, v3⟩ := wh (s 0) (by omega) hc.2
    have cv1 := fconv_run (s 0)
    rw [v1] at cv1
    obtain ⟨r, d1, d2⟩ := div_dv (Rd.rnd false (s 0) 0) (Rd.rnd false (s 1) 0) v2 v3 w2 w3 (by have := wh_e (s 0) (by omega) hc.2; have := wh_e (s 1) (by omega) hm1; omega)
    have dd := fdiv_run d1
    have HB := hide (bits_any r)
    rw [← d2]
    clear hs hc hm0 hm1 c0 c1 w1 w2 w3 v1 v2 v3 d1 d2
    go_enter Try.func7, Try.ntmps7
    go_wp2_with (go_at_call 13; refine (HB.out _).mono ?_; rintro e9 w9 ⟨rfl, hw9⟩; subst w9)
    all_goals go_ret
    all_goals exact ⟨rfl, hb⟩
set_option maxHeartbeats 2000000 in
theorem share_2 (s : Nat → Int) (hle : s 2 < s 1) (hs : ∀ i, 0 ≤ s i ∧ s i < 18446744073709551616) (w : World) : Calls Try.prog 7 #[.agg (sv s)] w fun e w' => e = .returned (.int .u32 (sh (s 0) (s 2))) ∧ Below w.heap.size w w' := by
  have hb := b1 w 24 (sv s)
  have hm0 := (hs 2).1
  have hm1 := (hs 2).2
  have hc := hs 0
  by_cases c0 : (s 2) = 0
  · have HV : Hid (sh (s 0) (s 2) = 0) := by show _ = _; unfold sh; rw [if_pos c0]
    rw [HV.out]
    have c0' : ((s 2) == 0) = true := by simp [c0]
    clear c0
    clear hs hc hm0 hm1
    go_enter Try.func7, Try.ntmps7
    go_wp2
    all_goals go_ret
    all_goals exact ⟨rfl, hb⟩
  have hne : ((s 2) == 0) = false := by simp [c0]
  obtain ⟨w1, w2, w3⟩ := wh (s 2) (by omega) hm1
  have cv2 := fconv_run (s 2)
  rw [w1] at cv2
  by_cases c1 : s 0 = 0
  · have HV : Hid (sh (s 0) (s 2) = 0) := by show _ = _; unfold sh; rw [if_neg c0, if_pos c1]
    rw [HV.out]
    have cv1 := fconv_run (s 0)
    rw [c1, show single.nearest (decide ((0 : Int) < 0)) (0 : Int).natAbs 0 = 0 from by rw [show (decide ((0 : Int) < 0)) = false from rfl, show (0 : Int).natAbs = 0 from rfl, Fl.nearest_zero]; rfl] at cv1
    have dd := fdiv_run (Fl.div_zero (Rd.rnd false (s 2) 0).toNat _ _ _ (Fl.read_norm _ (by omega) (by omega)) (by omega))
    rw [show Fl.wd false 0 = 0 from rfl] at dd
    have HB := hide (bits_any 0)
    rw [← c1] at cv1
    clear hs hc hm0 hm1 c0 c1 w1 w2 w3
    go_enter Try.func7, Try.ntmps7
    go_wp2_with (go_at_call 13; refine (HB.out _).mono ?_; rintro e9 w9 ⟨rfl, hw9⟩; subst w9)
    all_goals go_ret
    all_goals exact ⟨rfl, hb⟩
  · have HV : Hid (sh (s 0) (s 2) = dv (Rd.rnd false (s 0) 0) (Rd.rnd false (s 2) 0)) := by show _ = _; unfold sh; rw [if_neg c0, if_neg c1]
    rw [HV.out]
    obtain ⟨v1, v2, v3⟩ := wh (s 0) (by omega) hc.2
    have cv1 := fconv_run (s 0)
    rw [v1] at cv1
    obtain ⟨r, d1, d2⟩ := div_dv (Rd.rnd false (s 0) 0) (Rd.rnd false (s 2) 0) v2 v3 w2 w3 (by have := wh_e (s 0) (by omega) hc.2; have := wh_e (s 2) (by omega) hm1; omega)
    have dd := fdiv_run d1
    have HB := hide (bits_any r)
    rw [← d2]
    clear hs hc hm0 hm1 c0 c1 w1 w2 w3 v1 v2 v3 d1 d2
    go_enter Try.func7, Try.ntmps7
    go_wp2_with (go_at_call 13; refine (HB.out _).mono ?_; rintro e9 w9 ⟨rfl, hw9⟩; subst w9)
    all_goals go_ret
    all_goals exact ⟨rfl, hb⟩
theorem share_any (s : Nat → Int) (hs : ∀ i, 0 ≤ s i ∧ s i < 18446744073709551616) (w : World) : Calls Try.prog 7 #[.agg (sv s)] w fun e w' => e = .returned (.int .u32 (sh (s 0) (min (s 1) (s 2)))) ∧ Below w.heap.size w w' := by
  rcases Int.lt_or_le (s 2) (s 1) with h | h
  · rw [show min (s 1) (s 2) = s 2 by omega]; exact share_2 s h hs w
  · rw [show min (s 1) (s 2) = s 1 by omega]; exact share_1 s h hs w
set_option maxHeartbeats 2000000 in
theorem rshare_1 (s : Nat → Int) (hle : s 1 ≤ s 2) (hs : ∀ i, 0 ≤ s i ∧ s i < 18446744073709551616) (w : World) : Calls Try.prog 8 #[.agg (sv s)] w fun e w' => e = .returned (.int .u32 (sh (s 0) (s 1))) ∧ Below w.heap.size w w' := by
  have hb := hide (b1 w 24 (sv s))
  have hm0 := (hs 1).1
  have hm1 := (hs 1).2
  have hc := hs 0
  by_cases c0 : (s 1) = 0
  · have HV : Hid (sh (s 0) (s 1) = 0) := by show _ = _; unfold sh; rw [if_pos c0]
    rw [HV.out]
    have c0' : ((s 1) == 0) = true := by simp [c0]
    clear c0
    clear hs hc hm0 hm1
    go_enter Try.func8, Try.ntmps8
    go_wp2
    all_goals go_ret
    all_goals exact ⟨rfl, hb.out⟩
  have hne : ((s 1) == 0) = false := by simp [c0]
  obtain ⟨w1, w2, w3⟩ := wh (s 1) (by omega) hm1
  have H1 := hide (whole_any (s 0) hc.1 hc.2)
  have H2 := hide (whole_any (s 1) hm0 hm1)
  by_cases c1 : s 0 = 0
  · have HV : Hid (sh (s 0) (s 1) = 0) := by show _ = _; unfold sh; rw [if_neg c0, if_pos c1]
    rw [HV.out]
    have HD := hide (divf_zero _ w2 w3)
    rw [show Rd.rnd false (s 0) 0 = 0 by rw [c1, rnd00]] at H1
    clear hs hc hm0 hm1 c0 c1 w1 w2 w3 HV
    go_enter Try.func8, Try.ntmps8
    go_wp2_with (fail)
    refine (H1.out _).mono ?_
    rintro e1 x1 ⟨rfl, hw1⟩
    subst x1
    go_wp2_with (fail)
    refine (H2.out _).mono ?_
    rintro e1 x1 ⟨rfl, hw1⟩
    subst x1
    go_wp2_with (fail)
    refine (HD.out _).mono ?_
    rintro e1 x1 ⟨rfl, hw1⟩
    go_wp2
    all_goals go_ret
    all_goals exact ⟨rfl, chain hb.out hw1⟩
  · have HV : Hid (sh (s 0) (s 1) = dv (Rd.rnd false (s 0) 0) (Rd.rnd false (s 1) 0)) := by show _ = _; unfold sh; rw [if_neg c0, if_neg c1]
    rw [HV.out]
    obtain ⟨v1, v2, v3⟩ := wh (s 0) (by omega) hc.2
    have HD := hide (divf_any _ _ v2 v3 w2 w3)
    clear hs hc hm0 hm1 c0 c1 w1 w2 w3 v1 v2 v3 HV
    go_enter Try.func8, Try.ntmps8
    go_wp2_with (fail)
    refine (H1.out _).mono ?_
    rintro e1 x1 ⟨rfl, hw1⟩
    subst x1
    go_wp2_with (fail)
    refine (H2.out _).mono ?_
    rintro e1 x1 ⟨rfl, hw1⟩
    subst x1
    go_wp2_with (fail)
    refine (HD.out _).mono ?_
    rintro e1 x1 ⟨rfl, hw1⟩
    go_wp2
    all_goals go_ret
    all_goals exact ⟨rfl, chain hb.out hw1⟩
set_option maxHeartbeats 2000000 in
theorem rshare_2 (s : Nat → Int) (hle : s 2 < s 1) (hs : ∀ i, 0 ≤ s i ∧ s i < 18446744073709551616) (w : World) : Calls Try.prog 8 #[.agg (sv s)] w fun e w' => e = .returned (.int .u32 (sh (s 0) (s 2))) ∧ Below w.heap.size w w' := by
  have hb := hide (b1 w 24 (sv s))
  have hm0 := (hs 2).1
  have hm1 := (hs 2).2
  have hc := hs 0
  by_cases c0 : (s 2) = 0
  · have HV : Hid (sh (s 0) (s 2) = 0) := by show _ = _; unfold sh; rw [if_pos c0]
    rw [HV.out]
    have c0' : ((s 2) == 0) = true := by simp [c0]
    clear c0
    clear hs hc hm0 hm1
    go_enter Try.func8, Try.ntmps8
    go_wp2
    all_goals go_ret
    all_goals exact ⟨rfl, hb.out⟩
  have hne : ((s 2) == 0) = false := by simp [c0]
  obtain ⟨w1, w2, w3⟩ := wh (s 2) (by omega) hm1
  have H1 := hide (whole_any (s 0) hc.1 hc.2)
  have H2 := hide (whole_any (s 2) hm0 hm1)
  by_cases c1 : s 0 = 0
  · have HV : Hid (sh (s 0) (s 2) = 0) := by show _ = _; unfold sh; rw [if_neg c0, if_pos c1]
    rw [HV.out]
    have HD := hide (divf_zero _ w2 w3)
    rw [show Rd.rnd false (s 0) 0 = 0 by rw [c1, rnd00]] at H1
    clear hs hc hm0 hm1 c0 c1 w1 w2 w3 HV
    go_enter Try.func8, Try.ntmps8
    go_wp2_with (fail)
    refine (H1.out _).mono ?_
    rintro e1 x1 ⟨rfl, hw1⟩
    subst x1
    go_wp2_with (fail)
    refine (H2.out _).mono ?_
    rintro e1 x1 ⟨rfl, hw1⟩
    subst x1
    go_wp2_with (fail)
    refine (HD.out _).mono ?_
    rintro e1 x1 ⟨rfl, hw1⟩
    go_wp2
    all_goals go_ret
    all_goals exact ⟨rfl, chain hb.out hw1⟩
  · have HV : Hid (sh (s 0) (s 2) = dv (Rd.rnd false (s 0) 0) (Rd.rnd false (s 2) 0)) := by show _ = _; unfold sh; rw [if_neg c0, if_neg c1]
    rw [HV.out]
    obtain ⟨v1, v2, v3⟩ := wh (s 0) (by omega) hc.2
    have HD := hide (divf_any _ _ v2 v3 w2 w3)
    clear hs hc hm0 hm1 c0 c1 w1 w2 w3 v1 v2 v3 HV
    go_enter Try.func8, Try.ntmps8
    go_wp2_with (fail)
    refine (H1.out _).mono ?_
    rintro e1 x1 ⟨rfl, hw1⟩
    subst x1
    go_wp2_with (fail)
    refine (H2.out _).mono ?_
    rintro e1 x1 ⟨rfl, hw1⟩
    subst x1
    go_wp2_with (fail)
    refine (HD.out _).mono ?_
    rintro e1 x1 ⟨rfl, hw1⟩
    go_wp2
    all_goals go_ret
    all_goals exact ⟨rfl, chain hb.out hw1⟩
theorem rshare_any (s : Nat → Int) (hs : ∀ i, 0 ≤ s i ∧ s i < 18446744073709551616) (w : World) : Calls Try.prog 8 #[.agg (sv s)] w fun e w' => e = .returned (.int .u32 (sh (s 0) (min (s 1) (s 2)))) ∧ Below w.heap.size w w' := by
  rcases Int.lt_or_le (s 2) (s 1) with h | h
  · rw [show min (s 1) (s 2) = s 2 by omega]; exact rshare_2 s h hs w
  · rw [show min (s 1) (s 2) = s 1 by omega]; exact rshare_1 s h hs w
end Kt
end Go.Proofs.Ytobhmadckoemdaa
