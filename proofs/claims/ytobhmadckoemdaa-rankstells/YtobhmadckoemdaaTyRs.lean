import Derived.Test.YtobhmadckoemdaaTyT
import Derived.Test.YtobhmadckoemdaaTyCp
import Derived.Test.YtobhmadckoemdaaTyO
namespace Go.Proofs.Ytobhmadckoemdaa
namespace Ty
open Go.RowKit
set_option linter.unusedVariables false
theorem bits_on {w w' : World} {g : Nat} {N : Int} (h : Bits w g N) (hb : Below w.heap.size w w') : Bits w' g N := h.kept hb (World.rowIs.lt h)
theorem div2 (A : Int) (i : Nat) : A / 2 ^ i = 2 * (A / 2 ^ (i + 1)) + bit A i := by
  unfold bit
  rw [Int.pow_succ, ← Int.ediv_ediv_of_nonneg (Int.le_of_lt (pw i))]
  generalize A / 2 ^ i = q
  omega
theorem bit_top (A : Int) (h : Sg A) : bit A 383 = if A < 0 then 1 else 0 := by
  unfold bit
  obtain ⟨h1, h2⟩ := h
  have hP := pw 383
  generalize (2 : Int) ^ 383 = P at *
  split
  · have e1 : A / P < 0 := (ediv_neg_iff hP).2 (by assumption)
    have e2 : -1 ≤ A / P := Int.le_ediv_of_mul_le hP (by omega)
    have : A / P = -1 := by omega
    rw [this]; rfl
  · rw [Int.ediv_eq_zero_of_lt (by omega) (by omega)]; rfl
theorem top_zero (A : Int) (h : Sg A) : A / 2 ^ 383 = if A < 0 then -1 else 0 := by
  obtain ⟨h1, h2⟩ := h
  have hP := pw 383
  generalize (2 : Int) ^ 383 = P at *
  split
  · have e1 : A / P < 0 := (ediv_neg_iff hP).2 (by assumption)
    have e2 : -1 ≤ A / P := Int.le_ediv_of_mul_le hP (by omega)
    omega
  · rw [Int.ediv_eq_zero_of_lt (by omega) (by omega)]
theorem cp_bit (A B : Int) (i : Nat) (h : A / 2 ^ (i + 1) = B / 2 ^ (i + 1)) (hd : ¬ bit A i = bit B i) : bit A i - bit B i = cp A B := by
  have hb1 := bit_b A i
  have hb2 := bit_b B i
  have e1 := div2 A i
  have e2 := div2 B i
  have hne : ¬ A / 2 ^ i = B / 2 ^ i := by omega
  rw [← cp_div (pw i) hne, e1, e2, h]
  unfold cp
  generalize bit A i = x at *
  generalize bit B i = y at *
  generalize 2 * (B / 2 ^ (i + 1)) = t at *
  split
  · omega
  · split <;> omega
theorem cp_top (A B : Int) (ha : Sg A) (hb : Sg B) (hd : ¬ bit A 383 = bit B 383) : bit B 383 - bit A 383 = cp A B := by
  rw [bit_top A ha, bit_top B hb] at *
  unfold cp
  by_cases h1 : A < 0
  · by_cases h2 : B < 0
    · rw [if_pos h1, if_pos h2] at hd; exact absurd rfl hd
    · rw [if_pos h1, if_neg h2, if_pos (by omega)]; rfl
  · by_cases h2 : B < 0
    · rw [if_neg h1, if_pos h2, if_neg (by omega), if_pos (by omega)]; rfl
    · rw [if_neg h1, if_neg h2] at hd; exact absurd rfl hd
theorem top_same (A B : Int) (ha : Sg A) (hb : Sg B) (hd : bit A 383 = bit B 383) : A / 2 ^ 383 = B / 2 ^ 383 := by
  rw [bit_top A ha, bit_top B hb] at hd
  rw [top_zero A ha, top_zero B hb]
  by_cases h1 : A < 0
  · by_cases h2 : B < 0
    · rw [if_pos h1, if_pos h2]
    · rw [if_pos h1, if_neg h2] at hd; exact absurd hd (by decide)
  · by_cases h2 : B < 0
    · rw [if_neg h1, if_pos h2] at hd; exact absurd hd (by decide)
    · rw [if_neg h1, if_neg h2]
set_option maxHeartbeats 800000 in
theorem rsign_any (A : Int) (h : Sg A) (w : World) :
    Calls Try.prog 27 #[.agg (sm A)] w fun e w' => e = .returned (.int .i64 (sgn A)) ∧ Below w.heap.size w w' := by
  obtain ⟨v, hv, hvb, hv0⟩ : ∃ v, w.alloc (.cells (sm A) 40) = v ∧ Below w.heap.size w v ∧ v.heap[w.heap.size]? = some (.cells (sm A) 40 (0, 0)) := ⟨_, rfl, (Below.refl _ _).alloc (Nat.le_refl _) _, heap_alloc_last w _⟩
  have c5 := (row_sm hv0).cell (show 5 < 6 by omega)
  have hEq := eq_sm 40 Try.underlying40 A 0
  rw [← zeros_sm] at hEq
  have hsz : (sm A).size = 6 := rfl
  have hs := same_iff A 0 h sg_zero
  have e5 := wd5 A h
  have hn := top_neg A
  have hwb := wd_b A 5
  have ht := top_b A h
  have HT : Hid (wd A 5 / 9223372036854775808 = if A < 0 then 1 else 0) := by
    show _ = _
    generalize A / 2 ^ (64 * 5) = q at *
    generalize wd A 5 = x at *
    unfold wrap64 at e5
    split
    · have : q < 0 := hn.2 (by assumption)
      omega
    · have : ¬ q < 0 := fun h => by have := hn.1 h; omega
      omega
  clear e5 hn ht h
  generalize wd A 5 = x at *
  generalize same A 0 = sb at *
  generalize sm A = ca at *
  by_cases hz : A = 0
  · have HS : Hid (sgn A = 0) := by show _ = _; unfold sgn; rw [if_neg (by omega), if_pos hz]
    obtain rfl : sb = true := hs.2 hz
    clear hs HT
    go_enter Try.func27, Try.ntmps27
    go_wp2_with (refine wpList_load6 40 _ Try.underlying40 sizeRSum rfl _ rfl w.heap.size ca rfl hsz hv0 ?_)
    go_ret
    exact ⟨ret_int HS.out.symm, hvb⟩
  · obtain rfl : sb = false := by cases sb with | false => rfl | true => exact absurd (hs.1 rfl) hz
    clear hs
    by_cases hneg : A < 0
    · have HS : Hid (sgn A = -1) := by show _ = _; unfold sgn; rw [if_pos hneg]
      have hx : x / 9223372036854775808 = 1 := by rw [HT.out, if_pos hneg]
      clear HT
      go_enter Try.func27, Try.ntmps27
      go_wp2_with (refine wpList_load6 40 _ Try.underlying40 sizeRSum rfl _ rfl w.heap.size ca rfl hsz hv0 ?_)
      go_ret
      exact ⟨ret_int HS.out.symm, hvb⟩
    · have HS : Hid (sgn A = 1) := by show _ = _; unfold sgn; rw [if_neg hneg, if_neg hz]
      have hx : x / 9223372036854775808 = 0 := by rw [HT.out, if_neg hneg]
      clear HT
      go_enter Try.func27, Try.ntmps27
      go_wp2_with (refine wpList_load6 40 _ Try.underlying40 sizeRSum rfl _ rfl w.heap.size ca rfl hsz hv0 ?_)
      go_ret
      exact ⟨ret_int HS.out.symm, hvb⟩
end Ty
end Go.Proofs.Ytobhmadckoemdaa
