import Derived.Test.YtbnmjmlcedkoaabDoorTyNr
import Derived.Test.YtbnmjmlcedkoaabDoorTyCp
namespace Go.Proofs.YtbnmjmlcedkoaabDoor
namespace Ty
open Go.RowKit
set_option linter.unusedVariables false
theorem mg_b (z : Int) (h0 : 0 ≤ z) (h1 : z < 2139095040) : mg z < 2 ^ 277 := by
  have hM : 0 ≤ M0 z ∧ M0 z < 16777216 := by unfold M0; split <;> omega
  have hS : S0 z ≤ 253 := by unfold S0; split <;> omega
  have hp := pow_mono (S0 z) 253 hS
  have hP := pw (S0 z)
  have e : (2 : Int) ^ 277 = 16777216 * 2 ^ 253 := by rw [show (277 : Nat) = 24 + 253 from rfl, Int.pow_add]; rfl
  unfold mg
  rw [e]
  have h2 : M0 z * 2 ^ S0 z ≤ M0 z * 2 ^ 253 := Int.mul_le_mul_of_nonneg_left hp hM.1
  have h3 : M0 z * 2 ^ 253 < 16777216 * 2 ^ 253 := mul_lt' hM.2 (pw 253)
  omega
theorem sg_mul (x n : Int) (hx : -(2 ^ 277) ≤ x ∧ x ≤ 2 ^ 277) (n0 : 0 < n) (n1 : n ≤ 1099511627776) : Sg (x * n) := by
  have e : (2 : Int) ^ 383 = 2 ^ 277 * 2 ^ 106 := by rw [← Int.pow_add]
  have e2 : (2199023255552 : Int) ≤ 2 ^ 106 := by
    have := pow_mono 41 106 (by omega)
    have e3 : (2 : Int) ^ 41 = 2199023255552 := by decide
    omega
  have hP := pw 277
  have h3 : (2 : Int) ^ 277 * 2199023255552 ≤ 2 ^ 277 * 2 ^ 106 := Int.mul_le_mul_of_nonneg_left e2 (by omega)
  unfold Sg
  rw [e]
  generalize (2 : Int) ^ 277 = P at *
  have h4 : x * n ≤ P * n := Int.mul_le_mul_of_nonneg_right hx.2 (by omega)
  have h5 : -P * n ≤ x * n := Int.mul_le_mul_of_nonneg_right hx.1 (by omega)
  have h6 : P * n ≤ P * 1099511627776 := Int.mul_le_mul_of_nonneg_left n1 (by omega)
  have h7 : -P * n = -(P * n) := Int.neg_mul _ _
  omega
/-- What the two float32 beside an n-th part are. -/
theorem share (A n : Int) (L : Nat) (h : Sg A) (h0 : 0 < n) (hL : IsLen (ab A / n) L) (a2 : sz A n 2 L < 2139095040) (a3 : sz A n 3 L < 2139095040) :
    ∃ u v : Int, rU (decide (A < 0)) (sz A n 2 L) = u ∧ rU (decide (A < 0)) (sz A n 3 L) = v ∧ (0 ≤ u ∧ u < 4294967296 ∧ u % 2147483648 < 2139095040) ∧ (0 ≤ v ∧ v < 4294967296 ∧ v % 2147483648 < 2139095040) ∧
      un u * n ≤ A ∧ A ≤ un v * n ∧ (un u * n = A ↔ ix A n L = false) ∧ (un v * n = A ↔ ix A n L = false) ∧ (un u = un v ↔ ix A n L = false) ∧ (-(2 ^ 277) ≤ un u ∧ un u ≤ 2 ^ 277) ∧ (-(2 ^ 277) ≤ un v ∧ un v ≤ 2 ^ 277) ∧
      (ix A n L = true → (u < 2147483648 ∧ v = u + 1) ∨ (2147483648 < u ∧ v = u - 1)) := by
  obtain ⟨b1, b2, b3⟩ := beside A n L h h0 hL
  have z0 := zz_nn A n L h h0
  have s2 := sz_nn A n 2 L h h0
  have s3 := sz_nn A n 3 L h h0
  have n2 := un_rU (decide (A < 0)) (sz A n 2 L) s2 a2
  have n3 := un_rU (decide (A < 0)) (sz A n 3 L) s3 a3
  have c2 := mg_b _ s2 a2
  have c3 := mg_b _ s3 a3
  have d2 := mg_nn _ s2
  have d3 := mg_nn _ s3
  have w2 : rU (decide (A < 0)) (sz A n 2 L) = sz A n 2 L + if decide (A < 0) then 2147483648 else 0 := by unfold rU; exact if_neg (by omega)
  have w3 : rU (decide (A < 0)) (sz A n 3 L) = sz A n 3 L + if decide (A < 0) then 2147483648 else 0 := by unfold rU; exact if_neg (by omega)
  have e2 := sz_down A n L
  have e3 := sz_up A n L
  have hlt : mg (zz A n L) < mg (zz A n L + 1) := by
    rcases Int.lt_or_le (mg (zz A n L)) (mg (zz A n L + 1)) with hh | hh
    · exact hh
    · have := Int.mul_le_mul_of_nonneg_right hh (Int.le_of_lt h0)
      omega
  refine ⟨_, _, rfl, rfl, ?_⟩
  rw [n2, n3, w2, w3]
  generalize sz A n 2 L = x2 at *
  generalize sz A n 3 L = x3 at *
  generalize zz A n L = Z at *
  generalize ix A n L = x at *
  by_cases hn : A < 0
  · have ha : ab A = -A := by unfold ab; rw [if_pos hn]
    rw [decide_eq_true hn] at *
    simp only [if_true, Bool.true_and, Bool.not_true, Bool.false_and] at *
    have hb0 : b2i false = 0 := rfl
    rw [hb0, Int.add_zero] at e3
    subst e3
    rw [ha] at b1 b2 b3
    cases x
    · have e2' : x2 = x3 := by rw [e2]; simp [b2i]
      subst e2'
      have h1 := b3.2 rfl
      refine ⟨by omega, by omega, by rw [Int.neg_mul]; omega, by rw [Int.neg_mul]; omega, ?_, ?_, by simp, by omega, by omega, by simp⟩
      · rw [Int.neg_mul]; constructor <;> intro _ <;> first | rfl | omega
      · rw [Int.neg_mul]; constructor <;> intro _ <;> first | rfl | omega
    · have e2' : x2 = x3 + 1 := by rw [e2]; rfl
      subst e2'
      have h1 : ¬ mg x3 * n = -A := fun hh => by have := b3.1 hh; cases this
      refine ⟨by omega, by omega, by rw [Int.neg_mul]; omega, by rw [Int.neg_mul]; omega, ?_, ?_, ?_, by omega, by omega, fun _ => Or.inr (by omega)⟩
      · rw [Int.neg_mul]; constructor
        · intro hh; omega
        · intro hh; cases hh
      · rw [Int.neg_mul]; constructor
        · intro hh; omega
        · intro hh; cases hh
      · constructor
        · intro hh; omega
        · intro hh; cases hh
  · have ha : ab A = A := by unfold ab; rw [if_neg hn]
    rw [decide_eq_false hn] at *
    simp only [Bool.false_eq_true, if_false, Bool.false_and, Bool.not_false, Bool.true_and] at *
    have hb0 : b2i false = 0 := rfl
    rw [hb0, Int.add_zero] at e2
    subst e2
    rw [ha] at b1 b2 b3
    cases x
    · have e3' : x3 = x2 := by rw [e3]; simp [b2i]
      subst e3'
      have h1 := b3.2 rfl
      refine ⟨by omega, by omega, by omega, by omega, ?_, ?_, by simp, by omega, by omega, by simp⟩
      · constructor <;> intro _ <;> first | rfl | omega
      · constructor <;> intro _ <;> first | rfl | omega
    · have e3' : x3 = x2 + 1 := by rw [e3]; rfl
      subst e3'
      have h1 : ¬ mg x2 * n = A := fun hh => by have := b3.1 hh; cases this
      refine ⟨by omega, by omega, by omega, by omega, ?_, ?_, ?_, by omega, by omega, fun _ => Or.inl (by omega)⟩
      · constructor
        · intro hh; omega
        · intro hh; cases hh
      · constructor
        · intro hh; omega
        · intro hh; cases hh
      · constructor
        · intro hh; omega
        · intro hh; cases hh
end Ty
end Go.Proofs.YtbnmjmlcedkoaabDoor
