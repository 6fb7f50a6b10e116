import Derived.Test.YtlhpnhjfibkgpaaWvL
namespace Go.Proofs.Ytlhpnhjfibkgpaa
namespace Wp
open Go.RowKit
set_option linter.unusedVariables false
set_option maxRecDepth 8000
set_option maxHeartbeats 1000000 in
theorem negative_any (s : Nat → Int) (w : World) : Calls Try.prog 20 #[.agg (sv s)] w fun e w' => e = .returned (.bool (s 1 == 1)) ∧ w' = w.alloc (so s) := by
  go_enter Try.func20, Try.ntmps20
  go_wp2
  all_goals go_ret
  all_goals exact ⟨rfl, rfl⟩
theorem fsW (n s k : Int) (S : Nat → Nat → Int) (i : Nat) : (S i 0 = 9223372036854775807 → fs (gW n s k) S (i + 1) 0 = fs (gW n s k) S i 0) ∧ (S i 0 ≠ 9223372036854775807 → fs (gW n s k) S (i + 1) 0 = fs (gW n s k) S i 0 + 1) ∧ (S i 1 = 1 → fs (gW n s k) S (i + 1) 1 = 1) ∧ (S i 1 ≠ 1 → fs (gW n s k) S (i + 1) 1 = fs (gW n s k) S i 1) := by
  have hd : ∀ j, fs (gW n s k) S (i + 1) j = wyFo (fs (gW n s k) S i) (S i) j := fun j => rfl
  refine ⟨fun e => ?_, fun e => ?_, fun e => ?_, fun e => ?_⟩
  · rw [hd]; unfold wyFo; rw [if_pos e]; split
    · exact up_ne _ _ _ _ (by decide)
    · rfl
  · rw [hd]; unfold wyFo; rw [if_neg e]; split
    · rw [up_ne _ _ _ _ (by decide), up_eq]
    · rw [up_eq]
  · rw [hd]; unfold wyFo; rw [if_pos e, up_eq]
  · rw [hd]; unfold wyFo; rw [if_neg e]; split
    · rfl
    · exact up_ne _ _ _ _ (by decide)
theorem fs1_yes (n s k : Int) (S : Nat → Nat → Int) (h : ∀ v, S v 1 = 1) (i : Nat) (hi : 1 ≤ i) : fs (gW n s k) S i 1 = 1 := by
  obtain ⟨j, rfl⟩ : ∃ j, i = j + 1 := ⟨i - 1, by omega⟩
  exact (fsW n s k S j).2.2.1 (h j)
theorem fs1_no (n s k : Int) (S : Nat → Nat → Int) (h : ∀ v, S v 1 = 0) (i : Nat) : fs (gW n s k) S i 1 = 0 := by
  induction i with
  | zero => rfl
  | succ i ih => rw [(fsW n s k S i).2.2.2 (by rw [h i]; decide)]; exact ih
end Wp
end Go.Proofs.Ytlhpnhjfibkgpaa
