import Derived.Test.YtlhpnhjfibkgpaaWvS1
import Derived.Test.YtlhpnhjfibkgpaaWvS2
import Derived.Test.YtlhpnhjfibkgpaaWvS3
import Derived.Test.YtlhpnhjfibkgpaaWvS4
namespace Go.Proofs.Ytlhpnhjfibkgpaa
namespace Wp
open Go.RowKit
set_option linter.unusedVariables false
theorem ftight_any (N src kd : Int) (hs0 : 0 ≤ src) (a : Option Addr) (m c : Nat) (E : Nat → Int × Int × Int) (hm : m ≤ 11728124029610) (w : World) (hr : IRow w a m E) (hE : ∀ i, i < m → 0 ≤ (E i).1 ∧ 0 ≤ (E i).2.1) :
    Calls Try.prog 5 #[.agg #[.int .i64 N, .slice a m c], .int .u32 src, .int .i64 kd] w fun e w' => e = .returned (.bool true) ∧ Below w.heap.size w w' := by
  rcases (show kd < 1 ∨ kd = 1 ∨ kd = 2 ∨ 2 < kd by omega) with h | h | h | h
  · exact ftight_a N src kd h hs0 a m c E hm w hr hE
  · exact ftight_b N src kd h hs0 a m c E hm w hr hE
  · exact ftight_c N src kd h hs0 a m c E hm w hr hE
  · exact ftight_d N src kd h hs0 a m c E hm w hr hE
end Wp
end Go.Proofs.Ytlhpnhjfibkgpaa
