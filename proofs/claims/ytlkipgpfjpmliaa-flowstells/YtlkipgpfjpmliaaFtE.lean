import Derived.Test.YtlkipgpfjpmliaaFtB
import Derived.Test.YtlkipgpfjpmliaaFtC
import Derived.Test.YtlkipgpfjpmliaaFtD
namespace Go.Proofs.Ytlkipgpfjpmliaa
namespace Ft
open Go.RowKit
set_option linter.unusedVariables false
theorem law_any (s : Nat → Int) (p0 : 0 ≤ s 0) (q0 : s 0 ≤ 18446744073709551615) (p1 : 0 ≤ s 1) (q1 : s 1 ≤ 18446744073709551615) (w : World) : Calls Try.prog 3 #[.agg (sv s)] w fun e w' => e = .returned (.bool true) ∧ Below w.heap.size w w' := by
  by_cases h0 : s 0 = 18446744073709551615
  · by_cases d0 : s 1 = 0
    · exact tellsAAC s p0 q0 p1 q1 h0 (by omega) d0 (by omega) w
    · exact tellsAAA s p0 q0 p1 q1 h0 (by omega) d0 w
  by_cases l0 : s 0 ≤ 4294967295
  · by_cases h1 : s 1 ≤ 4294967295
    · by_cases d0 : s 1 = 0
      · exact tellsCBC s p0 q0 p1 q1 h0 h1 l0 d0 (by omega) w
      · exact tellsCBA s p0 q0 p1 q1 h0 h1 l0 d0 w
    · exact tellsBBA s p0 q0 p1 q1 h0 (by omega) l0 (by omega) w
  · by_cases h1 : s 1 ≤ 4294967295
    · by_cases d0 : s 1 = 0
      · by_cases d1 : s 0 = 9223372036854775807
        · exact tellsCAB s p0 q0 p1 q1 h0 h1 (by omega) d0 d1 w
        · exact tellsCAC s p0 q0 p1 q1 h0 h1 (by omega) d0 d1 w
      · exact tellsCAA s p0 q0 p1 q1 h0 h1 (by omega) d0 w
    · exact tellsBAA s p0 q0 p1 q1 h0 (by omega) (by omega) (by omega) w
end Ft
end Go.Proofs.Ytlkipgpfjpmliaa
