import Derived.Test.YtcepfmeoeepjdabAuN
namespace Go.Proofs.Ytcepfmeoeepjdab
namespace Au
open Go.RowKit
set_option linter.unusedVariables false
set_option maxRecDepth 8000
/-- What a look at labels ends with. -/
def RL (n m rb : Nat) (L : List T3) (f : Int) (S : Nat → Nat → Int) (E : Int) (o : Vd) (W : World) : Prop := E = fa n 0 L f ∧ (E = 0 → ∃ U ro, Fo n (prs L) U ro ∧ Lm (fun a b => b = 1 ∧ a < n ∧ (S a 0 != ro a) = true) o) ∧ ∃ Q ro, Rf W rb n m Q ro
end Au
end Go.Proofs.Ytcepfmeoeepjdab
