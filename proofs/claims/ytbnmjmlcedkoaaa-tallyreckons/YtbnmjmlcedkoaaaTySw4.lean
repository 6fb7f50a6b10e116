import Derived.Test.YtbnmjmlcedkoaaaTySw2
import Derived.Test.YtbnmjmlcedkoaaaTySw3
namespace Go.Proofs.Ytbnmjmlcedkoaaa
namespace Ty
open Go.RowKit
theorem shift_any (A k : Int) (h : Sg A) (hk0 : -9223372036854775808 ≤ k) (hk1 : k ≤ 9223372036854775807) (w : World) :
    Calls Try.prog 22 #[.agg (sm A), .int .i64 k] w fun e w' => e = .returned (.tuple #[.agg (sm (shV A k)), .int .i64 (shE A k)]) ∧ Below w.heap.size w w' := by
  by_cases hz : A = 0
  · subst hz; exact shift_zero k hk0 hk1 w
  · by_cases hfar : k ≤ -384 ∨ 384 ≤ k
    · exact shift_far A k h hz hfar hk0 hk1 w
    · by_cases hp : 0 ≤ k
      · obtain ⟨n, rfl⟩ := Int.eq_ofNat_of_zero_le hp
        exact shift_up A n h hz (by omega) w
      · obtain ⟨n, rfl⟩ : ∃ n : Nat, k = -(n : Int) := ⟨(-k).toNat, by omega⟩
        exact shift_down A n h hz (by omega) (by omega) w
end Ty
end Go.Proofs.Ytbnmjmlcedkoaaa
