import Derived.Test.YtlhpnhjfibkgpabWpB
namespace Go.Proofs.Ytlhpnhjfibkgpab
namespace Wp
open Go.RowKit
set_option linter.unusedVariables false
set_option maxRecDepth 8000
def labSc (c s : Nat → Int) : Int × Bool := if s 1 = c 0 then (s 0, true) else (0, false)
def labAp (c s : Nat → Int) : (Nat → Int) × Bool := if s 2 < s 0 then (up (up s 0 (s 2)) 1 (c 0 + 1), true) else (s, false)
def labFo (g : Nat → Int) (v : Int) (s : Nat → Int) : Nat → Int := if s 0 = v then up g 0 (g 0 + 1) else g
end Wp
end Go.Proofs.Ytlhpnhjfibkgpab
