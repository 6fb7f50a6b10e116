import Derived.Test.YtonhmaocgfhcfaaRmLA
import Derived.Test.YtonhmaocgfhcfaaRmLB
import Derived.Test.YtonhmaocgfhcfaaRmLC
import Derived.Test.YtonhmaocgfhcfaaRmLD
import Derived.Test.YtonhmaocgfhcfaaRmLE
import Derived.Test.YtonhmaocgfhcfaaRmLF
import Derived.Test.YtonhmaocgfhcfaaRmLG
import Derived.Test.YtonhmaocgfhcfaaRmLH
import Derived.Test.YtonhmaocgfhcfaaRmLI
import Derived.Test.YtonhmaocgfhcfaaRmLJ
import Derived.Test.YtonhmaocgfhcfaaRmLK
import Derived.Test.YtonhmaocgfhcfaaRmLL
import Derived.Test.YtonhmaocgfhcfaaRmLM
import Derived.Test.YtonhmaocgfhcfaaRmLN
import Derived.Test.YtonhmaocgfhcfaaRmLO
import Derived.Test.YtonhmaocgfhcfaaRmLP
import Derived.Test.YtonhmaocgfhcfaaRmLQ
namespace Go.Proofs.Ytonhmaocgfhcfaa
namespace Rn
open Go.RowKit
set_option linter.unusedVariables false
set_option maxRecDepth 8000
theorem makes_any (n d r k : Int) (hd0 : 0 ≤ d) (hd1 : d < 4294967296) (w : World) : Calls Try.prog 4 #[.int .u32 n, .int .u32 d, .int .i64 r, .int .i64 k] w fun e w' => e = .returned (.bool true) ∧ Below w.heap.size w w' := by
  by_cases hn : n < 1
  · exact law_n0 n d r k hd0 hd1 hn w
  by_cases hn2 : 2147483647 < n
  · exact law_n1 n d r k hd0 hd1 hn2 w
  have n0 : 1 ≤ n := by omega
  have n1 : n ≤ 2147483647 := by omega
  by_cases k0 : k < 1
  · by_cases r0 : r < 1
    · exact law_r0a n d r k hd0 hd1 n0 n1 r0 k0 w
    by_cases r1 : 65536 < r
    · exact law_r1a n d r k hd0 hd1 n0 n1 r1 k0 w
    by_cases d0 : d = 0
    · exact law_d0a n d r k hd0 hd1 n0 n1 (by omega) (by omega) d0 k0 w
    by_cases d1 : 1065353216 ≤ d
    · exact law_d1a n d r k hd0 hd1 n0 n1 (by omega) (by omega) d1 k0 w
    exact law_oka n d r k hd0 hd1 n0 n1 (by omega) (by omega) (by omega) (by omega) k0 w
  by_cases k1 : 3 < k
  · by_cases r0 : r < 1
    · exact law_r0b n d r k hd0 hd1 n0 n1 r0 k1 w
    by_cases r1 : 65536 < r
    · exact law_r1b n d r k hd0 hd1 n0 n1 r1 k1 w
    by_cases d0 : d = 0
    · exact law_d0b n d r k hd0 hd1 n0 n1 (by omega) (by omega) d0 k1 w
    by_cases d1 : 1065353216 ≤ d
    · exact law_d1b n d r k hd0 hd1 n0 n1 (by omega) (by omega) d1 k1 w
    exact law_okb n d r k hd0 hd1 n0 n1 (by omega) (by omega) (by omega) (by omega) k1 w
  have k2 : 1 ≤ k := by omega
  have k3 : k ≤ 3 := by omega
  by_cases r0 : r < 1
  · exact law_r0c n d r k hd0 hd1 n0 n1 r0 k2 k3 w
  by_cases r1 : 65536 < r
  · exact law_r1c n d r k hd0 hd1 n0 n1 r1 k2 k3 w
  by_cases d0 : d = 0
  · exact law_d0c n d r k hd0 hd1 n0 n1 (by omega) (by omega) d0 k2 k3 w
  by_cases d1 : 1065353216 ≤ d
  · exact law_d1c n d r k hd0 hd1 n0 n1 (by omega) (by omega) d1 k2 k3 w
  exact law_okc n d r k hd0 hd1 n0 n1 (by omega) (by omega) (by omega) (by omega) k2 k3 w
end Rn
end Go.Proofs.Ytonhmaocgfhcfaa
