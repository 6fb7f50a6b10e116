import Derived.Test.YtcepfmeoeepjdabAyL
namespace Go.Proofs.Ytcepfmeoeepjdab
namespace Au
open Go.RowKit
set_option linter.unusedVariables false
set_option maxRecDepth 8000
theorem law4x (c : Cs) (L : List T3) (S : Nat → Nat → Int) (Q : List Nat) (W : World) (hOk : Ok W c L S Q) : Calls Try.prog 4 #[.agg (cb c)] W fun e w' => e = .returned (.bool true) ∧ Below W.heap.size W w' := by
  have h1 := hOk.src
  refine law4 c c.src.toNat Q L (fun v i => if v < c.sn then S v i else 0) (by omega) hOk.N (fun v i hi => ?_) hOk.en hOk.qn hOk.s64 hOk.l12 hOk.q4 hOk.ec hOk.qc W (fun h0 => ?_) hOk.e hOk.q
  · by_cases hv : v < c.sn
    · simp only [hv, if_true]; exact hOk.sb v hv i hi
    · simp only [hv, if_false]; omega
  · obtain ⟨x, e, a, b⟩ := hOk.s h0
    exact ⟨x, e, a, fun v hv i hi => by simp only [hv, if_true]; exact b v hv i hi⟩
end Au
end Go.Proofs.Ytcepfmeoeepjdab
