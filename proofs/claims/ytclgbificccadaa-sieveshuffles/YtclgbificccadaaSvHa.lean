import Derived.Test.YtclgbificccadaaSvH
namespace Go.Proofs.Ytclgbificccadaa
namespace Sv
open Go.RowKit Go.Shelf
set_option linter.unusedVariables false
theorem rounds_of {F : Fence} {n : Nat} {P : Program} {c : Code} {Q : Exit → Act → World → Prop} (R : Nat → Act → World → Prop) (h : ∀ m a w, R (m + 1) a w → c.wpIn F n P (Exit.then (R m) Q) a w) (h0 : ∀ a w, ¬ R 0 a w) :
    ∀ m a w, R m a w → Code.roundsIn F n P c Q m a w := by
  intro m
  induction m with
  | zero => intro a w hr; exact (h0 a w hr).elim
  | succ m ih =>
    intro a w hr
    exact wpIn_mono (h m a w hr) (fun e a w q => by cases e <;> first | exact ih _ _ q | exact q)
theorem lit_of (T : Array Value) (n : Nat) (h : T.size = n) : ∃ u : Nat → Value, T = ((List.range n).map u).toArray := by
  subst h
  refine ⟨fun i => T.getD i undef, ?_⟩
  apply Array.ext
  · simp
  · intro i h1 h2
    simp [Array.getD, h1]
set_option maxRecDepth 100000 in
theorem lit102 (T : Array Value) (h : T.size = 102) : ∃ u : Nat → Value, T = #[u 0, u 1, u 2, u 3, u 4, u 5, u 6, u 7, u 8, u 9, u 10, u 11, u 12, u 13, u 14, u 15, u 16, u 17, u 18, u 19, u 20, u 21, u 22, u 23, u 24, u 25, u 26, u 27, u 28, u 29, u 30, u 31, u 32, u 33, u 34, u 35, u 36, u 37, u 38, u 39, u 40, u 41, u 42, u 43, u 44, u 45, u 46, u 47, u 48, u 49, u 50, u 51, u 52, u 53, u 54, u 55, u 56, u 57, u 58, u 59, u 60, u 61, u 62, u 63, u 64, u 65, u 66, u 67, u 68, u 69, u 70, u 71, u 72, u 73, u 74, u 75, u 76, u 77, u 78, u 79, u 80, u 81, u 82, u 83, u 84, u 85, u 86, u 87, u 88, u 89, u 90, u 91, u 92, u 93, u 94, u 95, u 96, u 97, u 98, u 99, u 100, u 101] := lit_of T 102 h
end Sv
end Go.Proofs.Ytclgbificccadaa
