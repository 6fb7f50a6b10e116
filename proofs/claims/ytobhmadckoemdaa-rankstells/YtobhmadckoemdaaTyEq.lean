import Derived.Test.YtobhmadckoemdaaTyNum
namespace Go.Proofs.Ytobhmadckoemdaa
namespace Ty
open Go.RowKit
set_option linter.unusedVariables false
set_option maxHeartbeats 800000 in
theorem eq6 (T : TypeId) (hu : Try.prog.underlying T = some (.array 6 22)) (a0 a1 a2 a3 a4 a5 b0 b1 b2 b3 b4 b5 : Int) (w : World) :
    (Op.equalIn 10000 T (.agg #[.int .u64 a0, .int .u64 a1, .int .u64 a2, .int .u64 a3, .int .u64 a4, .int .u64 a5]) (.agg #[.int .u64 b0, .int .u64 b1, .int .u64 b2, .int .u64 b3, .int .u64 b4, .int .u64 b5])).run Try.prog w = .ok (a0 == b0 && a1 == b1 && a2 == b2 && a3 == b3 && a4 == b4 && a5 == b5) w := by
  have uU := Try.underlying22
  have aU := Try.isAgg22
  have zU := Try.sizeOf22
  rw [show (10000 : Nat) = 9999 + 1 from rfl, Op.equalIn]
  simp only [Sem.run_bind, run_underlying hu, Result.andThen_ok]
  simp only [Std.Legacy.Range.forIn_eq_forIn_range', Std.Legacy.Range.size, Nat.sub_zero, Nat.add_sub_cancel, Nat.div_one, List.range'_succ, List.range'_zero, List.forIn_cons, List.forIn_nil]
  go_simp
  by_cases h0 : a0 = b0
  · by_cases h1 : a1 = b1
    · by_cases h2 : a2 = b2
      · by_cases h3 : a3 = b3
        · by_cases h4 : a4 = b4 <;> by_cases h5 : a5 = b5 <;> simp [h0, h1, h2, h3, h4, h5]
        · simp [h0, h1, h2, h3]
      · simp [h0, h1, h2]
    · simp [h0, h1]
  · simp [h0]
/-- Do two numbers have the same six words? -/
def same (N M : Int) : Bool := wd N 0 == wd M 0 && wd N 1 == wd M 1 && wd N 2 == wd M 2 && wd N 3 == wd M 3 && wd N 4 == wd M 4 && wd N 5 == wd M 5
theorem eq_sm (T : TypeId) (hu : Try.prog.underlying T = some (.array 6 22)) (N M : Int) (w : World) : (Op.equalIn 10000 T (.agg (sm N)) (.agg (sm M))).run Try.prog w = .ok (same N M) w := eq6 T hu _ _ _ _ _ _ _ _ _ _ _ _ w
theorem same_refl (N : Int) : same N N = true := by unfold same; simp
end Ty
end Go.Proofs.Ytobhmadckoemdaa
