import Derived.Test.YtipnlcnikpngcaaDoorPeP
namespace Go.Proofs.YtipnlcnikpngcaaDoor
namespace Wp
open Go.RowKit
set_option linter.unusedVariables false
set_option maxRecDepth 8000
/-- The first number from a on that has no common divisor with n. -/
def Fst (n a j : Nat) : Prop := a ≤ j ∧ j < n ∧ Nat.gcd n j = 1 ∧ ∀ i, a ≤ i → i < j → ¬ Nat.gcd n i = 1
theorem gcd_pred (n : Nat) (h : 1 ≤ n) : Nat.gcd n (n - 1) = 1 := by
  have h1 : Nat.gcd n (n - 1) ∣ n := Nat.gcd_dvd_left _ _
  have h2 : Nat.gcd n (n - 1) ∣ n - 1 := Nat.gcd_dvd_right _ _
  have h3 := Nat.dvd_sub h1 h2
  rw [show n - (n - 1) = 1 by omega] at h3
  exact Nat.dvd_one.mp h3
theorem fst_from (n : Nat) (h : 1 ≤ n) : ∀ d a, a + d + 1 = n → ∃ j, Fst n a j := by
  intro d
  induction d with
  | zero =>
    intro a ha
    exact ⟨a, Nat.le_refl _, by omega, by rw [show a = n - 1 by omega]; exact gcd_pred n h, fun i h1 h2 => by omega⟩
  | succ d ih =>
    intro a ha
    by_cases hg : Nat.gcd n a = 1
    · exact ⟨a, Nat.le_refl _, by omega, hg, fun i h1 h2 => by omega⟩
    · obtain ⟨j, h1, h2, h3, h4⟩ := ih (a + 1) (by omega)
      refine ⟨j, by omega, h2, h3, fun i k1 k2 => ?_⟩
      by_cases e : i = a
      · rw [e]; exact hg
      · exact h4 i (by omega) k2
theorem fst_is (n a : Nat) (h : a < n) : ∃ j, Fst n a j := fst_from n (by omega) (n - 1 - a) a (by omega)
abbrev z3 : Array Value := #[.int .u32 0, .int .u32 0, .int .u32 0]
end Wp
end Go.Proofs.YtipnlcnikpngcaaDoor
