import Derived.Test.YtlhpnhjfibkgpabWrC
namespace Go.Proofs.Ytlhpnhjfibkgpab
namespace Wp
open Go.RowKit
set_option linter.unusedVariables false
set_option maxRecDepth 8000
/-- A list of words as it lies. -/
def GU (w : World) (b n : Nat) (G : Nat → Int) : Prop := ∃ C : Array Value, w.heap[b]? = some (.cells C 34 (0, 0)) ∧ ∀ v, v < n → C[v]? = some (.int .u64 (G v))
theorem GU.lt {w : World} {b n : Nat} {G : Nat → Int} (h : GU w b n G) : b < w.heap.size := by
  obtain ⟨C, h, _⟩ := h
  exact (Array.getElem?_eq_some_iff.1 h).1
theorem GU.of {w w' : World} {b n : Nat} {G : Nat → Int} (h : GU w b n G) (e : w'.heap[b]? = w.heap[b]?) : GU w' b n G := by
  obtain ⟨C, h, h2⟩ := h
  exact ⟨C, e.trans h, h2⟩
theorem GU.on {w w' : World} {b n : Nat} {G : Nat → Int} (h : GU w b n G) (hb : Below w.heap.size w w') : GU w' b n G := h.of (hb.block b h.lt)
theorem GU.ext {w : World} {b n : Nat} {G H : Nat → Int} (h : GU w b n G) (e : ∀ v, v < n → G v = H v) : GU w b n H := by
  obtain ⟨C, h1, h2⟩ := h
  exact ⟨C, h1, fun v hv => by rw [← e v hv]; exact h2 v hv⟩
theorem GU.cell {w : World} {b n : Nat} {G : Nat → Int} (h : GU w b n G) (v : Nat) (hv : v < n) : w.cell? ⟨b, v, none⟩ = some (.int .u64 (G v)) := by
  obtain ⟨C, h, h2⟩ := h
  exact (cell_of_row w b _ _ 34 (0, 0) h).trans (h2 v hv)
theorem GU.fz {w : World} {b n : Nat} {G : Nat → Int} (h : GU w b n G) (j : Nat) : w.frozen? ⟨b, j, none⟩ = false := by
  obtain ⟨C, h, h2⟩ := h
  exact frozen_of_row w b _ _ 34 h
theorem GU.set {w : World} {b n : Nat} {G : Nat → Int} (h : GU w b n G) (j : Nat) (x : Int) : GU (w.setCell ⟨b, j, none⟩ (.int .u64 x)) b n (up G j x) ∧ ∃ C, w.setCell ⟨b, j, none⟩ (.int .u64 x) = w.setRow b C := by
  obtain ⟨C, h, h2⟩ := h
  rw [setCell_eq_setRow w b j C 34 (0, 0) _ h]
  refine ⟨⟨_, setRow_heap w b _ _ 34 (0, 0) h, fun v hv => ?_⟩, _, rfl⟩
  show _ = some (Value.int .u64 (if v = j then x else G v))
  rw [Array.getElem?_setIfInBounds]
  have hv2 := h2 v hv
  have := (Array.getElem?_eq_some_iff.1 hv2).1
  by_cases e : j = v
  · subst e; rw [if_pos rfl, if_pos this, if_pos rfl]
  · rw [if_neg e, if_neg (fun k => e k.symm)]; exact hv2

end Wp
end Go.Proofs.Ytlhpnhjfibkgpab
