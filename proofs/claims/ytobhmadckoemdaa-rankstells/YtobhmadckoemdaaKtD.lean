import Derived.Test.YtobhmadckoemdaaKtC
namespace Go.Proofs.Ytobhmadckoemdaa
namespace Kt
open Go.RowKit Ieee Rn
set_option linter.unusedVariables false
set_option maxRecDepth 8000
theorem idx_ar (z : Int) (i : Nat) (h : i < 16) (A : Array Value) (hA : ar z 16 = A) (W : World) : (Instr.index 33 (.agg A) (.int .i64 i)).run Try.prog W = .ok (.int .u64 (nb z i)) W := by
  have ha := ar_at z 16 i h
  rw [if_pos h, hA] at ha
  unfold Instr.index
  simp only [asIntOf, Sem.run_bind, Sem.run_pure, Result.andThen_ok, run_underlying Try.underlying33]
  have hz := Try.sizeOf22
  have hg := Try.isAgg22
  simp [part, hz, hg, ha]
  intro hh; omega
/-- The sum, in parts of which 2^15 make 1. -/
def pt (z : Int) : Nat → Int
  | 0 => 0
  | i + 1 => pt z i + 2 ^ (15 - nb z i).toNat
theorem p2_b (z : Int) (i : Nat) : (1 : Int) ≤ 2 ^ (15 - nb z i).toNat ∧ (2 : Int) ^ (15 - nb z i).toNat ≤ 32768 := by
  have h : (15 - nb z i).toNat ≤ 15 := by have := nb_b z i; omega
  have a1 : 2 ^ (15 - nb z i).toNat ≤ 2 ^ 15 := Nat.pow_le_pow_right (by omega) h
  have a2 : 1 ≤ 2 ^ (15 - nb z i).toNat := Nat.two_pow_pos _
  have e : (2 : Int) ^ (15 - nb z i).toNat = ((2 ^ (15 - nb z i).toNat : Nat) : Int) := by simp
  rw [e]; omega
theorem pt_b (z : Int) (i : Nat) : (i : Int) ≤ pt z i ∧ pt z i ≤ 32768 * i := by
  induction i with
  | zero => exact ⟨Int.le_refl _, Int.le_refl _⟩
  | succ i ih => unfold pt; have := p2_b z i; omega
theorem fconv_int (n : Int) (W : World) : (convert 3 31 (.int .i64 n)).run Try.prog W = .ok (.float .f32 (Ieee.single.nearest (decide (n < 0)) n.natAbs 0)) W := by
  unfold convert
  simp only [Sem.run_bind, run_underlying Try.underlying3, run_underlying Try.underlying31, Result.andThen_ok]
  rfl
/-- Parts of 2^15, as a float32. -/
theorem pf (x : Int) (h0 : 16 ≤ x) (h1 : x ≤ 524288) : ∃ r : Nat, single.div (single.nearest (decide (x < 0)) x.natAbs 0) 1191182336 = some r ∧ (r : Int) = Rd.rnd false x (-15) ∧ 8388608 ≤ Rd.rnd false x (-15) ∧ Rd.rnd false x (-15) < 2139095040 ∧ 100 ≤ Rd.rnd false x (-15) / 8388608 := by
  obtain ⟨z, rfl⟩ := Int.eq_ofNat_of_zero_le (show 0 ≤ x by omega)
  have hd : decide ((z : Int) < 0) = false := by simp
  rw [hd, Int.natAbs_natCast]
  refine ⟨_, Fl.div_pow z 15 (by omega) (by omega) (by omega), Fl.nearest_rnd false z _ (by omega) (by omega) (by omega), ?_⟩
  rw [← Fl.nearest_rnd false z (-15) (by omega) (by omega) (by omega)]
  have hz : z ≠ 0 := by omega
  have hlb := (Nat.log2_eq_iff hz).1 rfl
  have hl64 : z.log2 < 24 := (Nat.log2_lt hz).2 (by omega)
  have e : Fl.lst z (-15) = (z.log2 : Int) - 38 := by unfold Fl.lst; omega
  have b1 : z * 2 ^ (23 - z.log2) < 16777216 := by
    have := Nat.mul_lt_mul_of_pos_right hlb.2 (Nat.two_pow_pos (23 - z.log2))
    rw [← Nat.pow_add, show z.log2 + 1 + (23 - z.log2) = 24 by omega] at this; exact this
  rw [Fl.nearest_raw false z (-15) hz, e, show ((z.log2 : Int) - 38 - -15).toNat = 0 by omega, Nat.pow_zero, Fl.rhe_one, show (-15 - ((z.log2 : Int) - 38)).toNat = 23 - z.log2 by omega, show ((z.log2 : Int) - 38 + 149).toNat = z.log2 + 111 by omega]
  generalize z * 2 ^ (23 - z.log2) = X at *
  unfold Fl.wd
  simp only [Bool.false_eq_true, if_false]
  omega
/-- The size. -/
def siz (z : Int) : Int := dv 1126975930 (Rd.rnd false (pt z 16) (-15))
set_option maxHeartbeats 2000000 in
theorem size_any (s : Nat → Int) (hs : ∀ i, 0 ≤ s i ∧ s i < 18446744073709551616) (w : World) : Calls Try.prog 9 #[.agg (sv s)] w fun e w' => e = .returned (.int .u32 (siz (s 0))) ∧ Below w.heap.size w w' := by
  have hb := hide (b1 w 24 (sv s))
  have hz0 := (hs 0).1
  have hz1 := (hs 0).2
  obtain ⟨A, hA⟩ : ∃ A, ar (s 0) 16 = A := ⟨_, rfl⟩
  have HP := hide (apart_any (s 0) hz0 hz1)
  rw [hA] at HP
  have HA := hide hA
  have ptb := pt_b (s 0) 16
  obtain ⟨r, e1, e2, e3, e4, e5⟩ := pf (pt (s 0) 16) (by omega) (by omega)
  obtain ⟨q, d1, d2⟩ := div_dv 1126975930 (Rd.rnd false (pt (s 0) 16) (-15)) (by omega) (by omega) e3 e4 (by omega)
  have HV : Hid (siz (s 0) = (q : Int)) := by show _ = _; rw [d2]; rfl
  rw [HV.out]
  have er : (Rd.rnd false (pt (s 0) 16) (-15)).toNat = r := by omega
  rw [er, show (1126975930 : Int).toNat = 1126975930 from rfl] at d1
  have dd1 := hide (fdiv_run e1)
  have dd2 := hide (fdiv_run d1)
  have cv := hide (fconv_int (pt (s 0) 16))
  have HB := hide (bits_any q)
  clear hs hz0 hz1 hA ptb e1 e2 e3 e4 e5 d1 d2 er HV
  go_enter Try.func9, Try.ntmps9
  go_wp2_with (fail)
  refine (HP.out _).mono ?_
  rintro e1 w1 ⟨rfl, hw1⟩
  have hB1 := hide (chain hb.out hw1)
  clear hw1
  go_wp2
  go_loop [3, 9] (fun p v => ∃ i : Nat, i ≤ 16 ∧ v = .int .i64 i ∧ p = .int .i64 (pt (s 0) i)) (fun _ v => 16 - (intOf v).toNat)
  case atStart => exact ⟨0, by omega, rfl, rfl⟩
  case round =>
    obtain ⟨i, hi, rfl, rfl⟩ := hrel
    have b0 := pt_b (s 0) i
    by_cases c : i < 16
    · have hx := idx_ar (s 0) i c A HA.out
      have hn := nb_b (s 0) i
      have hp := p2_b (s 0) i
      have HS : Hid (pt (s 0) (i + 1) = pt (s 0) i + 2 ^ (15 - nb (s 0) i).toNat) := rfl
      have hb0 : 0 ≤ pt (s 0) i := by omega
      have hb1 : pt (s 0) i ≤ 524288 := by omega
      obtain ⟨hn0, hn1⟩ := hn
      obtain ⟨hp0, hp1⟩ := hp
      clear b0
      go_wp2
      exact ⟨⟨i + 1, by omega, by first | rfl | congr 1, rfl⟩, by simp [intOf]; omega⟩
    · have hi2 : i = 16 := by omega
      have h1 := dd1.out
      have h2 := dd2.out
      have h3 := cv.out
      rw [show pt (s 0) i = pt (s 0) 16 by rw [hi2]]
      have c2 : ¬ ((i : Int) < 16) := by omega
      clear b0 hi2 c hi
      go_wp2_with (go_at_call 13; refine (HB.out _).mono ?_; rintro e9 w9 ⟨rfl, hw9⟩; subst w9)
      all_goals go_ret
      all_goals exact ⟨rfl, hB1.out⟩
theorem shr15 (x : Int) (h0 : 0 ≤ x) (h1 : x < 16) : (32768 : Int) / 2 ^ x.toNat = 2 ^ (15 - x).toNat := by
  obtain ⟨n, rfl⟩ := Int.eq_ofNat_of_zero_le h0
  rw [Int.toNat_natCast, show (15 - (n : Int)).toNat = 15 - n by omega]
  have e : (2 : Int) ^ n * 2 ^ (15 - n) = 32768 := by
    rw [← Int.pow_add, show n + (15 - n) = 15 by omega]; rfl
  rw [← e]
  exact Int.mul_ediv_cancel_left _ (Int.ne_of_gt (by exact_mod_cast Nat.two_pow_pos n))
set_option maxHeartbeats 2000000 in
theorem rsize_any (z : Int) (hz0 : 0 ≤ z) (hz1 : z < 18446744073709551616) (w : World) : Calls Try.prog 10 #[.int .u64 z] w fun e w' => e = .returned (.int .u32 (siz z)) ∧ Below w.heap.size w w' := by
  have ptb := pt_b z 16
  obtain ⟨r, e1, e2, e3, e4, e5⟩ := pf (pt z 16) (by omega) (by omega)
  have HR := hide (Rd.ref_any false (pt z 16) (-15) (by omega) (by omega) (by omega) (by omega))
  have HD := hide (divf_any 1126975930 (Rd.rnd false (pt z 16) (-15)) (by omega) (by omega) e3 e4)
  have HV : Hid (siz z = dv 1126975930 (Rd.rnd false (pt z 16) (-15))) := rfl
  rw [HV.out]
  clear ptb e1 e2 e3 e4 e5 HV
  go_enter Try.func10, Try.ntmps10
  go_wp2
  go_loop [3, 4] (fun p v => ∃ i : Nat, i ≤ 16 ∧ v = .int .i64 i ∧ p = .int .u64 (pt z i)) (fun _ v => 16 - (intOf v).toNat)
  case atStart => exact ⟨0, by omega, rfl, rfl⟩
  case round =>
    obtain ⟨i, hi, rfl, rfl⟩ := hrel
    have b0 := pt_b z i
    by_cases c : i < 16
    · have hn := nb_b z i
      have hp := p2_b z i
      have HS : Hid (pt z (i + 1) = pt z i + 2 ^ (15 - nb z i).toNat) := rfl
      have hb0 : 0 ≤ pt z i := by omega
      have hb1 : pt z i ≤ 524288 := by omega
      obtain ⟨hn0, hn1⟩ := hn
      obtain ⟨hp0, hp1⟩ := hp
      have hX : (z / 2 ^ (4 * i)).tmod 16 = nb z i := by rw [Int.tmod_eq_emod_of_nonneg (div_b z _ hz0 hz1).1]; rfl
      have hY := shr15 (nb z i) hn0 hn1
      clear b0
      go_wp2
      exact ⟨⟨i + 1, by omega, by first | rfl | congr 1, rfl⟩, by simp [intOf]; omega⟩
    · have hi2 : i = 16 := by omega
      rw [show pt z i = pt z 16 by rw [hi2]]
      have c2 : ¬ ((i : Int) < 16) := by omega
      clear b0 hi2 c hi
      go_wp2_with (fail)
      refine (HR.out _).mono ?_
      rintro e9 w9 ⟨rfl, hw9⟩
      subst w9
      go_wp2_with (fail)
      refine (HD.out _).mono ?_
      rintro e9 w9 ⟨rfl, hw9⟩
      go_wp2
      all_goals go_ret
      all_goals exact ⟨rfl, hw9⟩
end Kt
end Go.Proofs.Ytobhmadckoemdaa
