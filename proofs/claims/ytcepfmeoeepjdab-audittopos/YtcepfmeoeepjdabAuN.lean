import Derived.Test.YtcepfmeoeepjdabAuM
namespace Go.Proofs.Ytcepfmeoeepjdab
namespace Au
open Go.RowKit
set_option linter.unusedVariables false
set_option maxRecDepth 8000
/-- The ends of edges. -/
def prs (L : List T3) : List (Nat × Nat) := L.map fun e => (e.1, e.2.1)
theorem prs_app (L : List T3) (e : T3) : prs (L ++ [e]) = prs L ++ [(e.1, e.2.1)] := by simp [prs]
/-- The room as a forest. -/
def Rf (W : World) (rb n m : Nat) (Q : List (Nat × Nat)) (ro : Nat → Int) : Prop := ∃ U, GU W rb m U ∧ Fo n Q U ro ∧ ∀ x, n ≤ x → x < m → U x = 99
theorem Rf.of {W W' : World} {rb n m : Nat} {Q : List (Nat × Nat)} {ro : Nat → Int} (h : Rf W rb n m Q ro) (e : W'.heap[rb]? = W.heap[rb]?) : Rf W' rb n m Q ro := by
  obtain ⟨U, a, b, c⟩ := h
  exact ⟨U, a.of e, b, c⟩
theorem Rf.lt {W : World} {rb n m : Nat} {Q : List (Nat × Nat)} {ro : Nat → Int} (h : Rf W rb n m Q ro) : rb < W.heap.size := by
  obtain ⟨U, a, b, c⟩ := h
  exact a.lt
abbrev S46 (sb fb rb sg v n sn sc : Nat) (s0 : Int) (w : World) : Prop := w.cell? ⟨sb, 0, none⟩ = some (.slice (some ⟨sg, 0, none⟩) sn sc) ∧ w.cell? ⟨fb, 0, none⟩ = some (.slice (some ⟨rb, 0, none⟩) n n) ∧ w.cell? ⟨sg, v * 8, none⟩ = some (.int .u64 s0)
end Au
end Go.Proofs.Ytcepfmeoeepjdab
