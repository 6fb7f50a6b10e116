import Derived.Test.YtlhpnhjfibkgpabWpC
namespace Go.Proofs.Ytlhpnhjfibkgpab
namespace Wp
open Go.RowKit
set_option linter.unusedVariables false
set_option maxRecDepth 8000
theorem pL (x : Addr) (W : World) : (binOp .eql 29 (.pointer (some x)) (.pointer none)).run Try.prog W = .ok (.bool false) W := rfl
abbrev SstL (q : Nat) (a b : Int) (w : World) : Prop := K2 q a b w
abbrev SscL (q : Nat) (c s : Nat → Int) (x y z : Int) (w : World) : Prop := K4 q c w ∧ K8 (q + 1) s w ∧ K3 (q + 1 + 1) x y z w
abbrev SapL (q : Nat) (c g s : Nat → Int) (w : World) : Prop := K4 q c w ∧ K8 (q + 1) g w ∧ K8 (q + 1 + 1) s w
abbrev SfoL (q : Nat) (c g s : Nat → Int) (w : World) : Prop := K4 q c w ∧ K8 (q + 1) g w ∧ K8 (q + 1 + 1) s w
abbrev StuL (q : Nat) (c g : Nat → Int) (w : World) : Prop := K4 q c w ∧ K8 (q + 1) g w
end Wp
end Go.Proofs.Ytlhpnhjfibkgpab
