import Derived.Test.YtcepfmeoeepjdaaDsK
namespace Go.Proofs.Ytcepfmeoeepjdaa
namespace Au
open Go.RowKit
set_option linter.unusedVariables false
set_option maxRecDepth 8000
theorem law6x (c : Cs) (L : List T3) (S : Nat → Nat → Int) (Q : List Nat) (W : World) (hOk : Ok W c L S Q) : Calls Try.prog 6 #[.agg (cb c)] W fun e w' => e = .returned (.bool true) ∧ Below W.heap.size W w' := by
  have h1 := hOk.src
  exact law6 c c.src.toNat L S (by omega) (by omega) hOk.kind hOk.sb hOk.en hOk.s64 hOk.l12 hOk.N hOk.ec W hOk.s hOk.e
end Au
end Go.Proofs.Ytcepfmeoeepjdaa
