import Derived.WalkKit
namespace Go.Proofs.YtipnlcnikpngcaaDoor
namespace Ty
set_option linter.unusedVariables false
/-- Digit i of N, to the base 2^v; the numbers below it come round. -/
def dg (v : Nat) (N : Int) (i : Nat) : Int := N / 2 ^ (v * i) % 2 ^ v
def cr (v : Nat) (A B : Int) (i : Nat) : Int := (A % 2 ^ (v * i) + B % 2 ^ (v * i)) / 2 ^ (v * i)
def bw (v : Nat) (A : Int) (i : Nat) : Int := -((-(A % 2 ^ (v * i))) / 2 ^ (v * i))
theorem pw (k : Nat) : (0 : Int) < 2 ^ k := Int.pow_pos (by decide)
theorem dg_b (v : Nat) (N : Int) (i : Nat) : 0 ≤ dg v N i ∧ dg v N i < 2 ^ v := ⟨Int.emod_nonneg _ (Int.ne_of_gt (pw v)), Int.emod_lt_of_pos _ (pw v)⟩
/-- What lies below digit i + 1. -/
theorem low_succ (P Q A : Int) (hP : 0 < P) (hQ : 0 < Q) : A % (P * Q) = P * (A / P % Q) + A % P := by
  have h1 := Int.mul_ediv_add_emod A P
  have h2 := Int.mul_ediv_add_emod (A / P) Q
  have r1 := Int.emod_nonneg A (Int.ne_of_gt hP)
  have r2 := Int.emod_lt_of_pos A hP
  have r3 := Int.emod_nonneg (A / P) (Int.ne_of_gt hQ)
  have r4 := Int.emod_lt_of_pos (A / P) hQ
  generalize A / P % Q = x at *
  generalize A % P = y at *
  have e : A = P * x + y + (P * Q) * (A / P / Q) := by
    rw [Int.mul_assoc]
    have e3 : P * (Q * (A / P / Q)) = P * (A / P - x) := by rw [show Q * (A / P / Q) = A / P - x by omega]
    rw [e3, Int.mul_sub]; omega
  rw [e, Int.add_mul_emod_self_left]
  refine Int.emod_eq_of_lt (Int.add_nonneg (Int.mul_nonneg (Int.le_of_lt hP) r3) r1) ?_
  have h5 : P * (x + 1) ≤ P * Q := Int.mul_le_mul_of_nonneg_left (by omega) (Int.le_of_lt hP)
  rw [Int.mul_add] at h5
  omega
theorem pow_succ' (v i : Nat) : (2 : Int) ^ (v * (i + 1)) = 2 ^ (v * i) * 2 ^ v := by rw [Nat.mul_succ, Int.pow_add]
theorem split (P A : Int) (hP : 0 < P) : A = P * (A / P) + A % P := (Int.mul_ediv_add_emod A P).symm
theorem div_mul (P Q x y : Int) (hP : 0 < P) (hy : 0 ≤ y) (hy2 : y < P) (hQ : 0 < Q) : (P * x + y) / (P * Q) = x / Q := by
  rw [← Int.ediv_ediv_of_nonneg (Int.le_of_lt hP), Int.add_comm, Int.add_mul_ediv_left _ _ (Int.ne_of_gt hP), Int.ediv_eq_zero_of_lt hy hy2, Int.zero_add]
theorem add_step (v : Nat) (A B : Int) (i : Nat) : (dg v A i + dg v B i + cr v A B i) % 2 ^ v = dg v (A + B) i ∧ (dg v A i + dg v B i + cr v A B i) / 2 ^ v = cr v A B (i + 1) := by
  unfold dg cr
  rw [pow_succ' v i]
  have hP := pw (v * i)
  have hQ := pw v
  generalize (2 : Int) ^ (v * i) = P at *
  generalize (2 : Int) ^ v = Q at *
  have ea := split P A hP
  have eb := split P B hP
  have ec := split P (A % P + B % P) hP
  have r1 := Int.emod_nonneg (A % P + B % P) (Int.ne_of_gt hP)
  have r2 := Int.emod_lt_of_pos (A % P + B % P) hP
  rw [low_succ P Q A hP hQ, low_succ P Q B hP hQ]
  constructor
  · have e1 : (A + B) / P = A / P + B / P + (A % P + B % P) / P := by
      have e2 : A + B = (A % P + B % P) + P * (A / P + B / P) := by rw [Int.mul_add]; omega
      rw [e2, Int.add_mul_ediv_left _ _ (Int.ne_of_gt hP)]
      have e3 : (A % P + B % P + P * (A / P + B / P)) = A + B := by omega
      omega
    rw [e1]
    have e4 : A / P % Q + B / P % Q + (A % P + B % P) / P = A / P + B / P + (A % P + B % P) / P + Q * (-(A / P / Q) - B / P / Q) := by
      have h1 := Int.mul_ediv_add_emod (A / P) Q
      have h2 := Int.mul_ediv_add_emod (B / P) Q
      rw [Int.mul_sub, Int.mul_neg]; omega
    rw [e4, Int.add_mul_emod_self_left]
  · have e1 : P * (A / P % Q) + A % P + (P * (B / P % Q) + B % P) = P * (A / P % Q + B / P % Q + (A % P + B % P) / P) + (A % P + B % P) % P := by
      rw [Int.mul_add, Int.mul_add]; omega
    rw [e1, div_mul P Q _ _ hP r1 r2 hQ]
theorem neg_step (v : Nat) (A : Int) (i : Nat) : (0 - dg v A i - bw v A i) % 2 ^ v = dg v (-A) i ∧ -((0 - dg v A i - bw v A i) / 2 ^ v) = bw v A (i + 1) := by
  unfold dg bw
  rw [pow_succ' v i]
  have hP := pw (v * i)
  have hQ := pw v
  generalize (2 : Int) ^ (v * i) = P at *
  generalize (2 : Int) ^ v = Q at *
  have ea := split P A hP
  have ec := split P (-(A % P)) hP
  have r1 := Int.emod_nonneg (-(A % P)) (Int.ne_of_gt hP)
  have r2 := Int.emod_lt_of_pos (-(A % P)) hP
  rw [low_succ P Q A hP hQ]
  constructor
  · have e1 : (-A) / P = -(A / P) + (-(A % P)) / P := by
      have e2 : -A = -(A % P) + P * (-(A / P)) := by rw [Int.mul_neg]; omega
      have e3 := Int.add_mul_ediv_left (-(A % P)) (-(A / P)) (Int.ne_of_gt hP)
      rw [← e2] at e3; omega
    rw [e1]
    have e4 : 0 - A / P % Q - -(-(A % P) / P) = -(A / P) + (-(A % P)) / P + Q * (A / P / Q) := by
      have := Int.mul_ediv_add_emod (A / P) Q; omega
    rw [e4, Int.add_mul_emod_self_left]
  · have e1 : -(P * (A / P % Q) + A % P) = P * (0 - A / P % Q - -(-(A % P) / P)) + (-(A % P)) % P := by
      rw [Int.mul_sub, Int.mul_sub, Int.mul_neg]; omega
    rw [e1, div_mul P Q _ _ hP r1 r2 hQ]
theorem cr_zero (v : Nat) (A B : Int) : cr v A B 0 = 0 := by
  unfold cr; simp [Int.emod_one]
theorem bw_zero (v : Nat) (A : Int) : bw v A 0 = 0 := by
  unfold bw; simp [Int.emod_one]
theorem cr_b (v : Nat) (A B : Int) (i : Nat) : 0 ≤ cr v A B i ∧ cr v A B i ≤ 1 := by
  unfold cr
  have hP := pw (v * i)
  generalize (2 : Int) ^ (v * i) = P at *
  have r1 := Int.emod_nonneg A (Int.ne_of_gt hP)
  have r2 := Int.emod_lt_of_pos A hP
  have r3 := Int.emod_nonneg B (Int.ne_of_gt hP)
  have r4 := Int.emod_lt_of_pos B hP
  refine ⟨Int.ediv_nonneg (by omega) (by omega), ?_⟩
  have : (A % P + B % P) / P < 2 := Int.ediv_lt_of_lt_mul hP (by omega)
  omega
theorem bw_b (v : Nat) (A : Int) (i : Nat) : 0 ≤ bw v A i ∧ bw v A i ≤ 1 := by
  unfold bw
  have hP := pw (v * i)
  generalize (2 : Int) ^ (v * i) = P at *
  have r1 := Int.emod_nonneg A (Int.ne_of_gt hP)
  have r2 := Int.emod_lt_of_pos A hP
  have h1 : (-1 : Int) ≤ (-(A % P)) / P := Int.le_ediv_of_mul_le hP (by omega)
  have h2 : (-(A % P)) / P < 1 := Int.ediv_lt_of_lt_mul hP (by omega)
  omega
end Ty
end Go.Proofs.YtipnlcnikpngcaaDoor
