import Derived.Test.YtipnlcnikpngcaaDoorSpB
import Derived.Test.YtipnlcnikpngcaaDoorSpE
namespace Go.Proofs.YtipnlcnikpngcaaDoor
namespace Wp
open Go.RowKit
/-- What Set's ctl becomes. -/
def setTu (c g : Nat → Int) : (Nat → Int) × Bool := (c, g 0 == 0)
theorem sturn2 (N A C : Int) (c g : Nat → Int) (w : World) : Calls Tryd.prog 78 #[.agg (rk N A C), .agg (cv c), .agg (sv g)] w fun e w' => e = .returned (.tuple #[.agg (cv (setTu c g).1), .bool (setTu c g).2, .int .i64 0]) ∧ Below w.heap.size w w' := sturn N A C c g w
end Wp
end Go.Proofs.YtipnlcnikpngcaaDoor
