import Derived.Test.YtobhmadckoemdaaTyA
import Derived.Test.YtobhmadckoemdaaTyUp
import Derived.Test.YtobhmadckoemdaaTyEq
namespace Go.Proofs.Ytobhmadckoemdaa
namespace Ty
open Go.RowKit
set_option linter.unusedVariables false
/-- A number that a sum can be, with its sign. -/
def Sg (A : Int) : Prop := -(2 ^ 383) ≤ A ∧ A < 2 ^ 383
def fl (A : Int) : Int := if A < 0 then 18446744073709551615 else 0
theorem pow_mono (a b : Nat) (h : a ≤ b) : (2 : Int) ^ a ≤ 2 ^ b := by
  obtain ⟨c, rfl⟩ : ∃ c, b = a + c := ⟨b - a, by omega⟩
  rw [Int.pow_add]
  have h1 := pw a
  have h2 := pw c
  have h3 : (2 : Int) ^ a * 1 ≤ 2 ^ a * 2 ^ c := Int.mul_le_mul_of_nonneg_left (by omega) (by omega)
  omega
theorem ediv_neg_iff {A P : Int} (hP : 0 < P) : A / P < 0 ↔ A < 0 := by
  constructor
  · intro h
    by_cases h2 : A < 0
    · exact h2
    · have := Int.ediv_nonneg (show 0 ≤ A by omega) (Int.le_of_lt hP); omega
  · intro h
    exact Int.ediv_lt_of_lt_mul hP (by omega)
theorem p383 (i : Nat) (h : i ≤ 5) : (2 : Int) ^ 383 = 2 ^ (64 * i) * 2 ^ (383 - 64 * i) := by rw [← Int.pow_add]; congr 1; omega
theorem top_b (A : Int) (h : Sg A) : -9223372036854775808 ≤ A / 2 ^ (64 * 5) ∧ A / 2 ^ (64 * 5) < 9223372036854775808 := by
  obtain ⟨h1, h2⟩ := h
  have e := p383 5 (by omega)
  have e2 : (2 : Int) ^ (383 - 64 * 5) = 9223372036854775808 := by decide
  rw [e2] at e
  rw [e] at h1 h2
  have hP := pw (64 * 5)
  generalize (2 : Int) ^ (64 * 5) = P at *
  constructor
  · exact Int.le_ediv_of_mul_le hP (by rw [Int.neg_mul, Int.mul_comm]; exact h1)
  · exact Int.ediv_lt_of_lt_mul hP (by rw [Int.mul_comm]; exact h2)
theorem top_neg (A : Int) : A / 2 ^ (64 * 5) < 0 ↔ A < 0 := ediv_neg_iff (pw _)
theorem wd5 (A : Int) (h : Sg A) : wrap64 (wd A 5) = A / 2 ^ (64 * 5) := by
  have hb := top_b A h
  unfold wd
  generalize A / 2 ^ (64 * 5) = q at *
  unfold wrap64; omega
theorem wd_high (A : Int) (h : Sg A) (i : Nat) (hi : 6 ≤ i) : wd A i = fl A := by
  unfold wd fl
  obtain ⟨h1, h2⟩ := h
  have hle : (2 : Int) ^ 383 ≤ 2 ^ (64 * i) := pow_mono 383 (64 * i) (by omega)
  have hP := pw (64 * i)
  generalize (2 : Int) ^ (64 * i) = P at *
  split
  · have e1 : A / P < 0 := (ediv_neg_iff hP).2 (by assumption)
    have e2 : -1 ≤ A / P := Int.le_ediv_of_mul_le hP (by omega)
    have : A / P = -1 := by omega
    rw [this]; rfl
  · rw [Int.ediv_eq_zero_of_lt (by omega) (by omega)]; rfl
theorem ret_int {k : IntKind} {a b : Int} (h : a = b) : Ending.returned (.int k a) = .returned (.int k b) := by rw [h]
set_option maxHeartbeats 800000 in
theorem fill_any (A : Int) (h : Sg A) (w : World) :
    Calls Try.prog 31 #[.agg (sm A)] w fun e w' => e = .returned (.int .u64 (fl A)) ∧ Below w.heap.size w w' := by
  have hal := row_sm (heap_alloc_last w (.cells (sm A) 46))
  have c5 := hal.cell (show 5 < 6 by omega)
  have hB : Below w.heap.size w (w.alloc (.cells (sm A) 46)) := (Below.refl _ _).alloc (Nat.le_refl _) _
  have e5 := wd5 A h
  have hn := top_neg A
  have ht := top_b A h
  have HF : Hid (IntKind.u64.wrap (A / 2 ^ (64 * 5) / 9223372036854775808) = fl A) := by
    show _ = _
    unfold fl
    generalize A / 2 ^ (64 * 5) = q at *
    rw [IntKind.wrap_u64]
    split
    · have : q < 0 := hn.2 (by assumption)
      omega
    · have : ¬ q < 0 := fun h => by have := hn.1 h; omega
      omega
  have hwb := wd_b A 5
  generalize A / 2 ^ (64 * 5) = q at *
  generalize wd A 5 = x at *
  clear hal h
  generalize sm A = ca at *
  generalize hu : w.alloc (.cells ca 46) = u at *
  go_enter Try.func31, Try.ntmps31
  go_wp2
  go_ret
  exact ⟨ret_int HF.out, hB⟩
theorem low_eq (A B : Int) (k : Nat) (h : ∀ i, i < k → wd A i = wd B i) : A % 2 ^ (64 * k) = B % 2 ^ (64 * k) := by
  induction k with
  | zero => simp [Int.emod_one]
  | succ k ih =>
    have e1 : (2 : Int) ^ (64 * (k + 1)) = 2 ^ (64 * k) * 18446744073709551616 := by rw [← two64, ← Int.pow_add]; congr 1
    have h1 := ih (fun i hi => h i (by omega))
    have h2 := h k (by omega)
    unfold wd at h2
    rw [e1, low_succ _ _ A (pw _) (by decide), low_succ _ _ B (pw _) (by decide), h1, h2]
theorem sg_eq (A B : Int) (ha : Sg A) (hb : Sg B) (h : A % 2 ^ (64 * 6) = B % 2 ^ (64 * 6)) : A = B := by
  have e : (2 : Int) ^ (64 * 6) = 2 * 2 ^ 383 := by rw [show 64 * 6 = 383 + 1 from rfl, Int.pow_succ, Int.mul_comm]
  rw [e] at h
  obtain ⟨a1, a2⟩ := ha
  obtain ⟨b1, b2⟩ := hb
  have hP := pw 383
  generalize (2 : Int) ^ 383 = P at *
  have h1 := Int.mul_ediv_add_emod A (2 * P)
  have h2 := Int.mul_ediv_add_emod B (2 * P)
  have h3 : A - B = 2 * P * (A / (2 * P) - B / (2 * P)) := by rw [Int.mul_sub]; omega
  generalize A / (2 * P) - B / (2 * P) = d at *
  by_cases h0 : d = 0
  · rw [h0, Int.mul_zero] at h3; omega
  · rcases Int.lt_or_gt_of_ne h0 with h5 | h5
    · have : 2 * P * d ≤ 2 * P * (-1) := Int.mul_le_mul_of_nonneg_left (by omega) (by omega)
      omega
    · have : 2 * P * 1 ≤ 2 * P * d := Int.mul_le_mul_of_nonneg_left (by omega) (by omega)
      omega
theorem same_words (A B : Int) (h : same A B = true) : ∀ i, i < 6 → wd A i = wd B i := by
  unfold same at h
  simp only [Bool.and_eq_true, beq_iff_eq] at h
  obtain ⟨⟨⟨⟨⟨h0, h1⟩, h2⟩, h3⟩, h4⟩, h5⟩ := h
  intro i hi
  match i, hi with
  | 0, _ => exact h0
  | 1, _ => exact h1
  | 2, _ => exact h2
  | 3, _ => exact h3
  | 4, _ => exact h4
  | 5, _ => exact h5
theorem same_iff (A B : Int) (ha : Sg A) (hb : Sg B) : same A B = true ↔ A = B :=
  ⟨fun h => sg_eq A B ha hb (low_eq A B 6 (same_words A B h)), fun h => by rw [h]; exact same_refl B⟩
theorem sg_zero : Sg 0 := ⟨by have := pw 383; omega, pw 383⟩
def sgn (A : Int) : Int := if A < 0 then -1 else if A = 0 then 0 else 1
set_option maxHeartbeats 800000 in
theorem sign_any (A : Int) (h : Sg A) (w : World) :
    Calls Try.prog 25 #[.agg (sm A)] w fun e w' => e = .returned (.int .i64 (sgn A)) ∧ Below w.heap.size w w' := by
  obtain ⟨v, hv, hvb, hv0⟩ : ∃ v, w.alloc (.cells (sm A) 46) = v ∧ Below w.heap.size w v ∧ v.heap[w.heap.size]? = some (.cells (sm A) 46 (0, 0)) := ⟨_, rfl, (Below.refl _ _).alloc (Nat.le_refl _) _, heap_alloc_last w _⟩
  have HF : Hid (∀ w, Calls Try.prog 31 #[.agg (sm A)] w fun e w' => e = .returned (.int .u64 (fl A)) ∧ Below w.heap.size w w') := fun w => fill_any A h w
  have hEq := eq_sm 46 Try.underlying46 A 0
  rw [← zeros_sm] at hEq
  have hsz : (sm A).size = 6 := rfl
  have hs := same_iff A 0 h sg_zero
  generalize same A 0 = sb at *
  generalize sm A = ca at *
  go_enter Try.func25, Try.ntmps25
  go_wp2_with (refine wpList_load6 46 _ Try.underlying46 sizeSum rfl _ rfl w.heap.size ca rfl hsz hv0 ?_)
  refine (HF.out _).mono ?_
  rintro e1 w1 ⟨rfl, hw1⟩
  have b1 : Below w.heap.size w w1 := hvb.trans (hw1.mono hvb.size)
  have q0 := (hw1.block w.heap.size (by have := (Array.getElem?_eq_some_iff.1 hv0).1; omega)).trans hv0
  clear hv hw1 hvb hv0 HF
  by_cases hneg : A < 0
  · have hf : (fl A != 0) = true := by unfold fl; rw [if_pos hneg]; rfl
    have HS : Hid (sgn A = -1) := by show _ = _; unfold sgn; rw [if_pos hneg]
    clear hEq hs
    go_wp2
    go_ret
    exact ⟨ret_int HS.out.symm, b1⟩
  · have hf : (fl A != 0) = false := by unfold fl; rw [if_neg hneg]; rfl
    by_cases hz : A = 0
    · have HS : Hid (sgn A = 0) := by show _ = _; unfold sgn; rw [if_neg hneg, if_pos hz]
      obtain rfl : sb = true := hs.2 hz
      clear hs
      go_wp2_with (refine wpList_load6 46 _ Try.underlying46 sizeSum rfl _ rfl w.heap.size ca rfl hsz q0 ?_)
      go_ret
      exact ⟨ret_int HS.out.symm, b1⟩
    · have HS : Hid (sgn A = 1) := by show _ = _; unfold sgn; rw [if_neg hneg, if_neg hz]
      obtain rfl : sb = false := by cases sb with | false => rfl | true => exact absurd (hs.1 rfl) hz
      clear hs
      go_wp2_with (refine wpList_load6 46 _ Try.underlying46 sizeSum rfl _ rfl w.heap.size ca rfl hsz q0 ?_)
      go_ret
      exact ⟨ret_int HS.out.symm, b1⟩
end Ty
end Go.Proofs.Ytobhmadckoemdaa
