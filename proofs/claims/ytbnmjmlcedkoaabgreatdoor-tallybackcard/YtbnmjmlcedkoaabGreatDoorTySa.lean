import Derived.Test.YtbnmjmlcedkoaabGreatDoorTySu
import Derived.Test.YtbnmjmlcedkoaabGreatDoorTyTe
namespace Go.Proofs.YtbnmjmlcedkoaabGreatDoor
namespace Ty
open Go.RowKit
set_option linter.unusedVariables false
theorem sh149 (A : Int) (h : Sg A) (h2 : Sg (A * 2 ^ 149)) (w : World) : Calls Tryz.prog 55 #[.agg (sm A), .int .i64 149] w fun e w' => e = .returned (.tuple #[.agg (sm (A * 2 ^ 149)), .int .i64 0]) ∧ Below w.heap.size w w' := by
  have hs := shift_any A 149 h (by omega) (by omega) w
  by_cases hz : A = 0
  · subst hz
    obtain ⟨e1, e2⟩ := sh_zero 149
    rw [e1, e2] at hs
    rw [Int.zero_mul]; exact hs
  · obtain ⟨e1, e2⟩ := sh_up A 149 hz (by omega) h2
    have e : ((149 : Nat) : Int) = 149 := rfl
    rw [e] at e1 e2
    rw [e1, e2] at hs; exact hs
/-- The digits of a sum, read. -/
theorem sum_any (S : Int) (h : Sg S) (w : World) : Calls Tryz.prog 24 #[.agg (dgs (ab S)), .bool (decide (S < 0))] w fun e w' => e = .returned (.tuple #[.agg (sm S), .int .i64 0]) ∧ Below w.heap.size w w' := by
  obtain ⟨n0, n1, -⟩ := ab_c S h
  have h383 := pw 383
  have h149 := pw 149
  have hdm := Int.mul_ediv_add_emod (ab S) (2 ^ 149)
  have hm0 := Int.emod_nonneg (ab S) (Int.ne_of_gt h149)
  have ha0 : 0 ≤ ab S / 2 ^ 149 := Int.ediv_nonneg n0 (by omega)
  have hc : 2 ^ 149 * (ab S / 2 ^ 149) = ab S / 2 ^ 149 * 2 ^ 149 := Int.mul_comm _ _
  have hle : ab S / 2 ^ 149 ≤ ab S := Int.ediv_le_self _ n0
  rw [hc] at hdm
  have hsg : sgn S ≤ 1 ∧ (S < 0 → sgn S ≤ 0) := by unfold sgn; split <;> (try split) <;> omega
  unfold Sg at h
  by_cases hn : S < 0
  · have hab : ab S = -S := by unfold ab; rw [if_pos hn]
    rw [show decide (S < 0) = true from by simp [hn]]
    have e1 : -(ab S / 2 ^ 149) * 2 ^ 149 = -(ab S / 2 ^ 149 * 2 ^ 149) := Int.neg_mul _ _
    refine sum_neg (ab S) _ _ _ _ (-(ab S / 2 ^ 149) * 2 ^ 149) S n0 n1 rfl rfl rfl rfl (hsg.2 hn) (fun w => sh149 _ ?_ ?_ w) (fun w => ?_) (fun w => sign_any S h w) w
    · unfold Sg
      generalize ab S / 2 ^ 149 = q at *
      omega
    · rw [e1]
      unfold Sg
      generalize ab S / 2 ^ 149 * 2 ^ 149 = q at *
      generalize ab S % 2 ^ 149 = r at *
      omega
    · have hm := merge_any (-(ab S / 2 ^ 149) * 2 ^ 149) (-(ab S % 2 ^ 149)) w
      have e2 : -(ab S / 2 ^ 149) * 2 ^ 149 + -(ab S % 2 ^ 149) = S := by
        rw [e1]
        generalize ab S / 2 ^ 149 * 2 ^ 149 = q at *
        generalize ab S % 2 ^ 149 = r at *
        omega
      rw [e2] at hm; exact hm
  · have hab : ab S = S := by unfold ab; rw [if_neg hn]
    rw [show decide (S < 0) = false from by simp [hn]]
    refine sum_pos (ab S) _ _ _ _ (ab S / 2 ^ 149 * 2 ^ 149) S n0 n1 rfl rfl rfl rfl hsg.1 (fun w => sh149 _ ?_ ?_ w) (fun w => ?_) (fun w => sign_any S h w) w
    · unfold Sg
      generalize ab S / 2 ^ 149 = q at *
      omega
    · unfold Sg
      generalize ab S / 2 ^ 149 * 2 ^ 149 = q at *
      generalize ab S % 2 ^ 149 = r at *
      omega
    · have hm := merge_any (ab S / 2 ^ 149 * 2 ^ 149) (ab S % 2 ^ 149) w
      rw [hdm] at hm
      rw [hab] at hm ⊢; exact hm
end Ty
end Go.Proofs.YtbnmjmlcedkoaabGreatDoor
