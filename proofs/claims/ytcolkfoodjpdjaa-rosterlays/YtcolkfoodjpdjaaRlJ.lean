import Derived.Test.YtcolkfoodjpdjaaRlH
namespace Go.Proofs.Ytcolkfoodjpdjaa
namespace Rl
open Go.RowKit Ra
set_option linter.unusedVariables false
/-- Worlds alike but for blocks from B1 up to B2, and new ones. -/
structure Kp (B1 B2 : Nat) (w w' : World) : Prop where
  os : w'.os = w.os
  tape : w'.tape = w.tape
  output : w'.output = w.output
  size : w.heap.size ≤ w'.heap.size
  block : ∀ k, k < w.heap.size → k < B1 ∨ B2 ≤ k → w'.heap[k]? = w.heap[k]?
theorem Kp.refl (B1 B2 : Nat) (w : World) : Kp B1 B2 w w := ⟨rfl, rfl, rfl, Nat.le_refl _, fun _ _ _ => rfl⟩
theorem Kp.alloc {B1 B2 : Nat} {w w' : World} (h : Kp B1 B2 w w') (o : Obj) : Kp B1 B2 w (w'.alloc o) :=
  ⟨h.os, h.tape, h.output, by have := h.size; simp; omega, fun k hk hb => (Below.heap_alloc w' o k (by have := h.size; omega)).trans (h.block k hk hb)⟩
theorem Kp.set {B1 B2 g j : Nat} {w w' : World} (h : Kp B1 B2 w w') (h1 : B1 ≤ g) (h2 : g < B2) (u : Value) : Kp B1 B2 w (w'.setCell ⟨g, j, none⟩ u) :=
  ⟨h.os, h.tape, h.output, by simpa using h.size, fun k hk hb => (Below.heap_setCell _ _ _ k (by show k ≠ g; omega)).trans (h.block k hk hb)⟩
theorem Kp.grown {B1 B2 : Nat} {w w' w'' : World} {row : Option Nat} (h : Kp B1 B2 w w') (hg : w'.grownBy w'' row) (hr : ∀ k, row = some k → k < w.heap.size → B1 ≤ k ∧ k < B2) : Kp B1 B2 w w'' :=
  ⟨hg.os.trans h.os, hg.tape.trans h.tape, hg.output.trans h.output, Nat.le_trans h.size hg.size, fun k hk hb => (hg.block k (by have := h.size; omega) (fun e => by have := hr k e.symm hk; omega)).trans (h.block k hk hb)⟩
/-- A row of our own, whatever it holds. -/
theorem own_set {w : World} {B e s n g cap j : Nat} {xs : List Value} {u : Value} (h : w.ownsRow B e s (.slice (some ⟨g, 0, none⟩) n cap) n xs) (hu : u.cells = #[u]) : (w.setCell ⟨g, j, none⟩ u).ownsRow B e s (.slice (some ⟨g, 0, none⟩) n cap) n (xs.set j u) := by
  refine ⟨by rw [List.length_set]; exact h.1, ?_⟩
  rcases h.2 with ⟨e, _⟩ | ⟨g', cap', cur, e, h3, h4, h5, h6, h7, h8⟩
  · cases e
  · cases e
    refine .inr ⟨g, cap, cur.setIfInBounds j u, rfl, h3, ?_, h5, h6, by simpa using h7, ?_⟩
    · obtain ⟨hlt, hk⟩ := Array.getElem?_eq_some_iff.1 h4
      show (w.heap.modify g _)[g]? = _
      rw [Array.getElem?_eq_getElem (by rw [Array.size_modify]; exact hlt), Array.getElem_modify_self, hk]
      rfl
    · rw [← h8]
      simp [List.take_set]
end Rl
end Go.Proofs.Ytcolkfoodjpdjaa
