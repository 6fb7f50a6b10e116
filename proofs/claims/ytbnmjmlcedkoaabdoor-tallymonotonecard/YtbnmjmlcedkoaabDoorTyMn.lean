import Derived.Test.YtbnmjmlcedkoaabDoorTyNo
namespace Go.Proofs.YtbnmjmlcedkoaabDoor
namespace Ty
open Go.RowKit
set_option linter.unusedVariables false
theorem mg_form (z : Int) (h : 0 ≤ z) : ∃ (K : Int) (d : Nat), z = (d : Int) * 8388608 + K ∧ 0 ≤ K ∧ K < 16777216 ∧ (0 < d → 8388608 ≤ K) := by
  by_cases e : z / 8388608 = 0
  · exact ⟨z, 0, by omega, h, by omega, fun h => by omega⟩
  · exact ⟨z % 8388608 + 8388608, (z / 8388608 - 1).toNat, by omega, by omega, by omega, fun h => by omega⟩
theorem mg_step (z : Int) (h : 0 ≤ z) : mg z < mg (z + 1) := by
  obtain ⟨K, d, e, k0, k1, k2⟩ := mg_form z h
  have m1 := mg_of K d k0 (by omega) k2
  have m2 := mg_of (K + 1) d (by omega) (by omega) (fun hd => by have := k2 hd; omega)
  rw [e, m1, Int.add_assoc, m2]
  exact mul_lt' (by omega) (pw d)
theorem mg_mono (a : Int) (ha : 0 ≤ a) : ∀ k : Nat, mg a ≤ mg (a + k)
  | 0 => by simp
  | k + 1 => by
    have h1 := mg_mono a ha k
    have h2 := mg_step (a + k) (by omega)
    have e : a + ((k + 1 : Nat) : Int) = a + k + 1 := by omega
    rw [e]; omega
theorem mg_le (a b : Int) (ha : 0 ≤ a) (h : a ≤ b) : mg a ≤ mg b := by
  have h1 := mg_mono a ha (b - a).toNat
  rw [show a + ((b - a).toNat : Int) = b from by omega] at h1; exact h1
theorem form_one {K K' : Int} {d d' : Nat} (h : (d : Int) * 8388608 + K = (d' : Int) * 8388608 + K') (k0 : 0 ≤ K) (k1 : K < 16777216) (k2 : 0 < d → 8388608 ≤ K) (l0 : 0 ≤ K') (l1 : K' < 16777216) (l2 : 0 < d' → 8388608 ≤ K') : d = d' ∧ K = K' := by
  by_cases e : d = 0
  · by_cases e' : d' = 0
    · subst e; subst e'; exact ⟨rfl, by omega⟩
    · have := l2 (by omega); omega
  · by_cases e' : d' = 0
    · have := k2 (by omega); omega
    · have := l2 (by omega)
      have := k2 (by omega)
      constructor <;> omega
/-- Whether a whole number is rounded away from 0, of which so many bits are dropped. -/
def aws (m : Int) (neg : Bool) (X : Int) (d : Nat) : Bool := aw m neg (X / 2 ^ d % 2 == 1) (hlf X 0 1 d) (mor X 0 1 d)
theorem hlf_iff (X : Int) (k : Nat) (x0 : 0 ≤ X) : hlf X 0 1 (k + 1) = true ↔ 2 ^ k ≤ X % 2 ^ (k + 1) := by
  unfold hlf
  rw [if_neg (by omega), show k + 1 - 1 = k from rfl]
  have hb := low_bit X k
  have hP := pw k
  have r1 := Int.emod_nonneg X (Int.ne_of_gt hP)
  have r2 := Int.emod_lt_of_pos X hP
  have hbb : bit X k = 0 ∨ bit X k = 1 := by unfold bit; omega
  rcases hbb with h | h
  · rw [h] at hb ⊢
    rw [Int.mul_zero, Int.zero_add] at hb
    constructor
    · intro hh; cases hh
    · intro hh; omega
  · rw [h] at hb ⊢
    constructor
    · intro _; omega
    · intro _; rfl
theorem mor_iff (X : Int) (k : Nat) : mor X 0 1 (k + 1) = true ↔ X % 2 ^ k ≠ 0 := by
  unfold mor
  rw [if_neg (by omega), show k + 1 - 1 = k from rfl]
  simp
theorem aws_le (m : Int) (neg : Bool) (P Q : Int) (d : Nat) (p0 : 0 ≤ P) (h : P ≤ Q) (hk : P / 2 ^ d = Q / 2 ^ d) : b2i (aws m neg P d) ≤ b2i (aws m neg Q d) := by
  have hpb : ∀ b, 0 ≤ b2i b ∧ b2i b ≤ 1 := fun b => by cases b <;> decide
  cases hP : aws m neg P d
  · exact (hpb _).1
  · have goal : aws m neg Q d = true := by
      unfold aws at hP ⊢
      rw [hk] at hP
      rcases Nat.eq_zero_or_pos d with e | e
      · subst e
        exfalso
        unfold aw hlf mor at hP
        simp at hP
      · obtain ⟨k, rfl⟩ : ∃ k, d = k + 1 := ⟨d - 1, by omega⟩
        have hPd := pw (k + 1)
        have ePk := Int.mul_ediv_add_emod P (2 ^ (k + 1))
        have eQk := Int.mul_ediv_add_emod Q (2 ^ (k + 1))
        rw [hk] at ePk
        have hR : P % 2 ^ (k + 1) ≤ Q % 2 ^ (k + 1) := by omega
        have hp2 := pw k
        have bP := low_bit P k
        have bQ := low_bit Q k
        have rP := Int.emod_nonneg P (Int.ne_of_gt hp2)
        have rP2 := Int.emod_lt_of_pos P hp2
        have rQ := Int.emod_nonneg Q (Int.ne_of_gt hp2)
        have rQ2 := Int.emod_lt_of_pos Q hp2
        have cP : bit P k = 0 ∨ bit P k = 1 := by unfold bit; omega
        have cQ : bit Q k = 0 ∨ bit Q k = 1 := by unfold bit; omega
        have hh : hlf P 0 1 (k + 1) = true → hlf Q 0 1 (k + 1) = true := fun h1 => (hlf_iff Q k (by omega)).2 (by have := (hlf_iff P k p0).1 h1; omega)
        have hm : hlf P 0 1 (k + 1) = true → mor P 0 1 (k + 1) = true → mor Q 0 1 (k + 1) = true := fun h1 h2 => by
          have a1 := (hlf_iff P k p0).1 h1
          have a2 := (mor_iff P k).1 h2
          refine (mor_iff Q k).2 ?_
          rcases cP with c | c
          · rw [c, Int.mul_zero, Int.zero_add] at bP; omega
          · rcases cQ with c' | c'
            · rw [c', Int.mul_zero, Int.zero_add] at bQ
              rw [c, Int.mul_one] at bP; omega
            · rw [c, Int.mul_one] at bP
              rw [c', Int.mul_one] at bQ; omega
        have hx : (hlf P 0 1 (k + 1) || mor P 0 1 (k + 1)) = true → (hlf Q 0 1 (k + 1) || mor Q 0 1 (k + 1)) = true := fun h1 => by
          have i1 := inexact P 0 1 (k + 1) p0 (by omega) (by omega)
          have i2 := inexact Q 0 1 (k + 1) (by omega) (by omega) (by omega)
          rw [i1] at h1
          rw [i2]
          have h2 := of_decide_eq_true h1
          have h3 : P % 2 ^ (k + 1) ≠ 0 := by omega
          have h4 := Int.emod_nonneg P (Int.ne_of_gt hPd)
          exact decide_eq_true (Or.inl (by omega))
        generalize hlf P 0 1 (k + 1) = hp at *
        generalize hlf Q 0 1 (k + 1) = hq at *
        generalize mor P 0 1 (k + 1) = mp at *
        generalize mor Q 0 1 (k + 1) = mq at *
        generalize (Q / 2 ^ (k + 1) % 2 == 1) = l at *
        clear ePk eQk hR bP bQ cP cQ
        unfold aw at hP ⊢
        revert hP hh hm hx
        cases hp <;> cases hq <;> cases mp <;> cases mq <;> cases l <;> cases neg <;> simp <;> (try split) <;> (try split) <;> (try split) <;> simp_all
    rw [goal]; exact (hpb _).2
theorem sz_one (A m : Int) (L : Nat) : sz A 1 m L = zz A 1 L + b2i (aws m (decide (A < 0)) (ab A) (dr L)) := by
  unfold sz zz aws
  rw [Int.ediv_one, Int.emod_one]
/-- Rounding keeps the order, of numbers of one sign. -/
theorem sz_le (A B m : Int) (LA LB : Nat) (hA : Sg A) (hB : Sg B) (hs : decide (A < 0) = decide (B < 0)) (hab : ab A ≤ ab B) (iA : IsLen (ab A / 1) LA) (iB : IsLen (ab B / 1) LB) : sz A 1 m LA ≤ sz B 1 m LB := by
  obtain ⟨a1, a2, -⟩ := beside A 1 LA hA (by omega) iA
  obtain ⟨b1, b2, -⟩ := beside B 1 LB hB (by omega) iB
  rw [Int.mul_one] at a1 a2 b1 b2
  have zA := zz_nn A 1 LA hA (by omega)
  have zB := zz_nn B 1 LB hB (by omega)
  have hpb : ∀ b, 0 ≤ b2i b ∧ b2i b ≤ 1 := fun b => by cases b <;> decide
  rw [sz_one, sz_one, ← hs]
  have c1 := hpb (aws m (decide (A < 0)) (ab A) (dr LA))
  have c2 := hpb (aws m (decide (A < 0)) (ab B) (dr LB))
  rcases Int.lt_trichotomy (zz A 1 LA) (zz B 1 LB) with h | h | h
  · omega
  · have pA := (ab_b A hA).1
    have pB := (ab_b B hB).1
    obtain ⟨k0, k1, k2⟩ := kept_b _ LA (Int.ediv_nonneg pA (by omega)) iA
    obtain ⟨l0, l1, l2⟩ := kept_b _ LB (Int.ediv_nonneg pB (by omega)) iB
    have hf := form_one (d := dr LA) (d' := dr LB) h k0 k1 k2 l0 l1 l2
    rw [Int.ediv_one, Int.ediv_one] at hf
    obtain ⟨e1, e2⟩ := hf
    rw [e1] at e2 ⊢
    have := aws_le m (decide (A < 0)) (ab A) (ab B) (dr LB) pA hab e2
    omega
  · have := mg_le (zz B 1 LB + 1) (zz A 1 LA) (by omega) (by omega)
    omega
theorem round_mono (A B m : Int) (LA LB : Nat) (hA : Sg A) (hB : Sg B) (h : A ≤ B) (iA : IsLen (ab A / 1) LA) (iB : IsLen (ab B / 1) LB) (fA : sz A 1 m LA < 2139095040) (fB : sz B 1 m LB < 2139095040) :
    un (rU (decide (A < 0)) (sz A 1 m LA)) ≤ un (rU (decide (B < 0)) (sz B 1 m LB)) := by
  have sA := sz_nn A 1 m LA hA (by omega)
  have sB := sz_nn B 1 m LB hB (by omega)
  rw [un_rU _ _ sA fA, un_rU _ _ sB fB]
  have gA := mg_nn _ sA
  have gB := mg_nn _ sB
  by_cases cA : A < 0
  · by_cases cB : B < 0
    · have hl := sz_le B A m LB LA hB hA (by rw [decide_eq_true cA, decide_eq_true cB]) (by unfold ab; rw [if_pos cA, if_pos cB]; omega) iB iA
      have := mg_le _ _ sB hl
      rw [decide_eq_true cA, decide_eq_true cB]
      simp only [if_true]; omega
    · rw [decide_eq_true cA, decide_eq_false cB]
      simp only [if_true, Bool.false_eq_true, if_false]; omega
  · have cB : ¬ B < 0 := by omega
    have hl := sz_le A B m LA LB hA hB (by rw [decide_eq_false cA, decide_eq_false cB]) (by unfold ab; rw [if_neg cA, if_neg cB]; exact h) iA iB
    have := mg_le _ _ sA hl
    rw [decide_eq_false cA, decide_eq_false cB]
    simp only [Bool.false_eq_true, if_false]; omega
theorem rU_b (neg : Bool) (z : Int) (h0 : 0 ≤ z) (h1 : z < 2139095040) : 0 ≤ rU neg z ∧ rU neg z < 4294967296 ∧ rU neg z % 2147483648 < 2139095040 := by
  have e : rU neg z = z + if neg then 2147483648 else 0 := by unfold rU; exact if_neg (by omega)
  rw [e]
  cases neg
  · simp only [Bool.false_eq_true, if_false]; omega
  · simp only [if_true]; omega
/-- To the nearest, and towards 0: one of the two beside. -/
theorem between (A m : Int) (L : Nat) (h : Sg A) (hL : IsLen (ab A / 1) L) (hm : m = 0 ∨ m = 1) : sz A 1 m L = sz A 1 2 L ∨ sz A 1 m L = sz A 1 3 L := by
  rw [sz_down, sz_up, sz_one]
  have hx : aws m (decide (A < 0)) (ab A) (dr L) = true → ix A 1 L = true := by
    unfold aws ix
    rw [Int.ediv_one, Int.emod_one]
    generalize hlf (ab A) 0 1 (dr L) = hh
    generalize mor (ab A) 0 1 (dr L) = mm
    generalize (ab A / 2 ^ dr L % 2 == 1) = ll
    unfold aw
    rcases hm with rfl | rfl
    · cases hh <;> cases mm <;> cases ll <;> simp
    · simp
  generalize aws m (decide (A < 0)) (ab A) (dr L) = aa at *
  generalize ix A 1 L = x at *
  generalize decide (A < 0) = ng
  cases aa
  · cases ng
    · left; simp
    · right; simp
  · have hx' := hx rfl
    subst hx'
    cases ng
    · right; rfl
    · left; rfl
end Ty
end Go.Proofs.YtbnmjmlcedkoaabDoor
