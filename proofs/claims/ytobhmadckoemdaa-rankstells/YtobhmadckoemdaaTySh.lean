import Derived.Test.YtobhmadckoemdaaTyDn
import Derived.Test.YtobhmadckoemdaaTyC
import Derived.Test.YtobhmadckoemdaaTyO
namespace Go.Proofs.Ytobhmadckoemdaa
namespace Ty
open Go.RowKit
set_option linter.unusedVariables false
/-- The number with a sign that has the same words. -/
def sr (N : Int) : Int := (N + 2 ^ 383) % 2 ^ 384 - 2 ^ 383
theorem p384 : (2 : Int) ^ 384 = 2 * 2 ^ 383 := by rw [show 384 = 383 + 1 from rfl, Int.pow_succ, Int.mul_comm]
theorem sr_sg (N : Int) : Sg (sr N) := by
  unfold sr Sg
  rw [p384]
  have hP := pw 383
  generalize (2 : Int) ^ 383 = P at *
  have h1 := Int.emod_nonneg (N + P) (show 2 * P ≠ 0 by omega)
  have h2 := Int.emod_lt_of_pos (N + P) (show 0 < 2 * P by omega)
  omega
theorem sr_eq (N : Int) : ∃ d, N = sr N + 2 ^ 384 * d := by
  unfold sr
  refine ⟨(N + 2 ^ 383) / 2 ^ 384, ?_⟩
  have h := Int.mul_ediv_add_emod (N + 2 ^ 383) (2 ^ 384)
  generalize (2 : Int) ^ 384 * ((N + 2 ^ 383) / 2 ^ 384) = x at *
  generalize (N + 2 ^ 383) % 2 ^ 384 = y at *
  generalize (2 : Int) ^ 383 = z at *
  omega
theorem wd_per (N d : Int) (i : Nat) (h : i < 6) : wd (N + 2 ^ 384 * d) i = wd N i := by
  rw [← wd_mod (N + 2 ^ 384 * d) i h, Int.add_mul_emod_self_left, wd_mod N i h]
theorem sm_per (N d : Int) : sm (N + 2 ^ 384 * d) = sm N := by
  unfold sm
  rw [wd_per N d 0 (by omega), wd_per N d 1 (by omega), wd_per N d 2 (by omega), wd_per N d 3 (by omega), wd_per N d 4 (by omega), wd_per N d 5 (by omega)]
theorem sm_sr (N : Int) : sm (sr N) = sm N := by
  obtain ⟨d, hd⟩ := sr_eq N
  have h := sm_per (sr N) d
  rw [← hd] at h; exact h.symm
theorem mul_zero_of {P d : Int} (hP : 0 < P) (h0 : -P < P * d) (h1 : P * d < P) : d = 0 := by
  rcases Int.lt_trichotomy d 0 with h | h | h
  · have : P * d ≤ P * (-1) := Int.mul_le_mul_of_nonneg_left (by omega) (by omega)
    omega
  · exact h
  · have : P * 1 ≤ P * d := Int.mul_le_mul_of_nonneg_left (by omega) (by omega)
    omega
theorem sr_of (N : Int) (h : Sg N) : sr N = N := by
  obtain ⟨d, hd⟩ := sr_eq N
  have hs := sr_sg N
  obtain ⟨a1, a2⟩ := h
  obtain ⟨b1, b2⟩ := hs
  have e := p384
  have hP := pw 383
  have hd0 : d = 0 := by
    refine mul_zero_of (P := 2 ^ 384) (pw _) ?_ ?_
    · generalize (2 : Int) ^ 384 * d = x at *; rw [e]; generalize (2 : Int) ^ 383 = P at *; generalize sr N = M at *; omega
    · generalize (2 : Int) ^ 384 * d = x at *; rw [e]; generalize (2 : Int) ^ 383 = P at *; generalize sr N = M at *; omega
  rw [hd0, Int.mul_zero, Int.add_zero] at hd
  exact hd.symm
theorem sg_div (A : Int) (h : Sg A) (n : Nat) : Sg (A / 2 ^ n) := by
  unfold Sg at *
  obtain ⟨h1, h2⟩ := h
  have hn := pw n
  have hP := pw 383
  generalize (2 : Int) ^ 383 = P at *
  generalize (2 : Int) ^ n = Q at *
  constructor
  · refine Int.le_ediv_of_mul_le hn ?_
    have : P * 1 ≤ P * Q := Int.mul_le_mul_of_nonneg_left (by omega) (by omega)
    rw [Int.neg_mul]; omega
  · refine Int.ediv_lt_of_lt_mul hn ?_
    have : P * 1 ≤ P * Q := Int.mul_le_mul_of_nonneg_left (by omega) (by omega)
    omega
/-- Up and down again. -/
theorem up_back (A : Int) (h : Sg A) (k : Nat) (hk : k < 384) : same (sr (A * 2 ^ k) / 2 ^ k) A = true ↔ Sg (A * 2 ^ k) := by
  rw [same_iff _ _ (sg_div _ (sr_sg _) k) h]
  constructor
  · intro he
    obtain ⟨d, hd⟩ := sr_eq (A * 2 ^ k)
    have hs := sr_sg (A * 2 ^ k)
    have hq := Int.mul_ediv_add_emod (sr (A * 2 ^ k)) (2 ^ k)
    have r1 := Int.emod_nonneg (sr (A * 2 ^ k)) (Int.ne_of_gt (pw k))
    have r2 := Int.emod_lt_of_pos (sr (A * 2 ^ k)) (pw k)
    rw [he] at hq
    have hc : A * 2 ^ k = 2 ^ k * A := Int.mul_comm _ _
    have hle : (2 : Int) ^ k ≤ 2 ^ 384 := pow_mono k 384 (by omega)
    have hd0 : d = 0 := by
      refine mul_zero_of (P := 2 ^ 384) (pw _) ?_ ?_
      · generalize (2 : Int) ^ 384 * d = x at *; generalize sr (A * 2 ^ k) = M at *; generalize (2 : Int) ^ 384 = P at *; generalize (2 : Int) ^ k * A = y at *; generalize (2 : Int) ^ k = Q at *; omega
      · generalize (2 : Int) ^ 384 * d = x at *; generalize sr (A * 2 ^ k) = M at *; have hp := pw 384; generalize (2 : Int) ^ 384 = P at *; generalize (2 : Int) ^ k * A = y at *; generalize (2 : Int) ^ k = Q at *; omega
    rw [hd0, Int.mul_zero, Int.add_zero] at hd
    rw [hd]; exact hs
  · intro hs
    rw [sr_of _ hs, Int.mul_ediv_cancel _ (Int.ne_of_gt (pw k))]
/-- Down and up again. -/
theorem dn_back (A : Int) (h : Sg A) (n : Nat) (hn : n < 384) : same (A / 2 ^ n * 2 ^ n) A = true ↔ A % 2 ^ n = 0 := by
  have hs : Sg (A / 2 ^ n * 2 ^ n) := by
    have hm := Int.mul_ediv_add_emod A (2 ^ n)
    have r1 := Int.emod_nonneg A (Int.ne_of_gt (pw n))
    obtain ⟨h1, h2⟩ := h
    constructor
    · have e : (2 : Int) ^ 383 = 2 ^ (383 - n) * 2 ^ n := by rw [← Int.pow_add]; congr 1; omega
      have h3 : -(2 ^ (383 - n)) ≤ A / 2 ^ n := Int.le_ediv_of_mul_le (pw n) (by rw [Int.neg_mul, ← e]; exact h1)
      rw [e, ← Int.neg_mul]
      exact Int.mul_le_mul_of_nonneg_right h3 (Int.le_of_lt (pw n))
    · rw [Int.mul_comm]
      generalize (2 : Int) ^ n * (A / 2 ^ n) = x at *; generalize A % 2 ^ n = y at *; generalize (2 : Int) ^ 383 = z at *; omega
  rw [same_iff _ _ hs h]
  have hm := Int.mul_ediv_add_emod A (2 ^ n)
  rw [Int.mul_comm] at hm
  generalize A / 2 ^ n * 2 ^ n = x at *; generalize A % 2 ^ n = y at *
  omega
/-- What a shift gives. -/
noncomputable def shV (A k : Int) : Int := open Classical in
  if A = 0 then 0 else if k ≤ -384 ∨ 384 ≤ k then 0 else if 0 ≤ k then (if Sg (A * 2 ^ k.toNat) then A * 2 ^ k.toNat else 0) else (if A % 2 ^ (-k).toNat = 0 then A / 2 ^ (-k).toNat else 0)
noncomputable def shE (A k : Int) : Int := open Classical in
  if A = 0 then 0 else if k ≤ -384 ∨ 384 ≤ k then 21 else if 0 ≤ k then (if Sg (A * 2 ^ k.toNat) then 0 else 21) else (if A % 2 ^ (-k).toNat = 0 then 0 else 21)
theorem sh_zero (k : Int) : shV 0 k = 0 ∧ shE 0 k = 0 := by unfold shV shE; rw [if_pos rfl, if_pos rfl]; exact ⟨rfl, rfl⟩
theorem sh_far (A k : Int) (h : ¬ A = 0) (hk : k ≤ -384 ∨ 384 ≤ k) : shV A k = 0 ∧ shE A k = 21 := by unfold shV shE; rw [if_neg h, if_neg h, if_pos hk, if_pos hk]; exact ⟨rfl, rfl⟩
theorem sh_up (A : Int) (n : Nat) (h : ¬ A = 0) (hn : n < 384) (hs : Sg (A * 2 ^ n)) : shV A n = A * 2 ^ n ∧ shE A n = 0 := by
  have c1 : ¬ ((n : Int) ≤ -384 ∨ 384 ≤ (n : Int)) := by omega
  have c2 : (0 : Int) ≤ (n : Int) := by omega
  unfold shV shE
  rw [if_neg h, if_neg h, if_neg c1, if_neg c1, if_pos c2, if_pos c2, Int.toNat_natCast, if_pos hs, if_pos hs]; exact ⟨rfl, rfl⟩
theorem sh_over (A : Int) (n : Nat) (h : ¬ A = 0) (hn : n < 384) (hs : ¬ Sg (A * 2 ^ n)) : shV A n = 0 ∧ shE A n = 21 := by
  have c1 : ¬ ((n : Int) ≤ -384 ∨ 384 ≤ (n : Int)) := by omega
  have c2 : (0 : Int) ≤ (n : Int) := by omega
  unfold shV shE
  rw [if_neg h, if_neg h, if_neg c1, if_neg c1, if_pos c2, if_pos c2, Int.toNat_natCast, if_neg hs, if_neg hs]; exact ⟨rfl, rfl⟩
theorem sh_down (A : Int) (n : Nat) (h : ¬ A = 0) (hn : n < 384) (h0 : 0 < n) (hs : A % 2 ^ n = 0) : shV A (-(n : Int)) = A / 2 ^ n ∧ shE A (-(n : Int)) = 0 := by
  have c1 : ¬ (-(n : Int) ≤ -384 ∨ 384 ≤ -(n : Int)) := by omega
  have c2 : ¬ (0 : Int) ≤ -(n : Int) := by omega
  unfold shV shE
  rw [if_neg h, if_neg h, if_neg c1, if_neg c1, if_neg c2, if_neg c2, show (- -(n : Int)).toNat = n from by omega, if_pos hs, if_pos hs]; exact ⟨rfl, rfl⟩
theorem sh_lost (A : Int) (n : Nat) (h : ¬ A = 0) (hn : n < 384) (h0 : 0 < n) (hs : ¬ A % 2 ^ n = 0) : shV A (-(n : Int)) = 0 ∧ shE A (-(n : Int)) = 21 := by
  have c1 : ¬ (-(n : Int) ≤ -384 ∨ 384 ≤ -(n : Int)) := by omega
  have c2 : ¬ (0 : Int) ≤ -(n : Int) := by omega
  unfold shV shE
  rw [if_neg h, if_neg h, if_neg c1, if_neg c1, if_neg c2, if_neg c2, show (- -(n : Int)).toNat = n from by omega, if_neg hs, if_neg hs]; exact ⟨rfl, rfl⟩
end Ty
end Go.Proofs.Ytobhmadckoemdaa
