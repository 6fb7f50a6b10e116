import Derived.Test.YtipnlcnikpngcaaDoorWpB
import Derived.Test.YtipnlcnikpngcaaDoorWpE
namespace Go.Proofs.YtipnlcnikpngcaaDoor
namespace Wp
open Go.RowKit
set_option linter.unusedVariables false
set_option maxRecDepth 8000
/-- Worlds alike but for two blocks, and what is new. -/
structure Tw (a b : Nat) (w w' : World) : Prop where
  os : w'.os = w.os
  tape : w'.tape = w.tape
  output : w'.output = w.output
  size : w.heap.size ≤ w'.heap.size
  block : ∀ k, k < w.heap.size → k ≠ a → k ≠ b → w'.heap[k]? = w.heap[k]?
theorem Tw.refl (a b : Nat) (w : World) : Tw a b w w := ⟨rfl, rfl, rfl, Nat.le_refl _, fun _ _ _ _ => rfl⟩
theorem Tw.trans {a b : Nat} {w w1 w2 : World} (h : Tw a b w w1) (h' : Tw a b w1 w2) : Tw a b w w2 :=
  ⟨h'.os.trans h.os, h'.tape.trans h.tape, h'.output.trans h.output, Nat.le_trans h.size h'.size, fun k hk ha hb => (h'.block k (Nat.lt_of_lt_of_le hk h.size) ha hb).trans (h.block k hk ha hb)⟩
theorem Tw.of {a b : Nat} {w w' : World} (h : Below w.heap.size w w') : Tw a b w w' := ⟨h.os, h.tape, h.output, h.size, fun k hk _ _ => h.block k hk⟩
theorem Tw.below {a b B : Nat} {w w' : World} (h : Tw a b w w') (ha : B ≤ a) (hb : B ≤ b) (hB : B ≤ w.heap.size) : Below B w w' := ⟨h.os, h.tape, h.output, h.size, fun k hk => h.block k (by omega) (by omega) (by omega)⟩
theorem Tw.row {a b g : Nat} {w w' : World} (h : Tw a b w w') (c : Array Value) (hg : g = a ∨ g = b ∨ w.heap.size ≤ g) : Tw a b w (w'.setRow g c) :=
  ⟨h.os, h.tape, h.output, by simp; exact h.size, fun k hk ha hb => (setRow_other w' _ k c (by omega)).trans (h.block k hk ha hb)⟩
/-- A Run as it lies. -/
abbrev rc (st : Value) (A C : Nat → Int) (k u : Int) : Array Value := #[st, .int .u64 (A 0), .int .u64 (A 1), .int .u64 (A 2), .int .u64 (A 3), .int .u64 (A 4), .int .u64 (A 5), .int .u64 (A 6), .int .u64 (A 7), .int .u64 (C 0), .int .u64 (C 1), .int .u64 (C 2), .int .u64 (C 3), .int .i64 k, .int .u64 u]
/-- A list of states as it lies. -/
def SR (w : World) (b n : Nat) (S : Nat → Nat → Int) : Prop := ∃ C : Array Value, w.heap[b]? = some (.cells C 41 (0, 0)) ∧ ∀ v, v < n → ∀ i, i < 8 → C[v * 8 + i]? = some (.int .u64 (S v i))
theorem SR.lt {w : World} {b n : Nat} {S : Nat → Nat → Int} (h : SR w b n S) : b < w.heap.size := by
  obtain ⟨C, h, _⟩ := h
  exact (Array.getElem?_eq_some_iff.1 h).1
theorem SR.of {w w' : World} {b n : Nat} {S : Nat → Nat → Int} (h : SR w b n S) (e : w'.heap[b]? = w.heap[b]?) : SR w' b n S := by
  obtain ⟨C, h, h2⟩ := h
  exact ⟨C, e.trans h, h2⟩
theorem SR.on {w w' : World} {b n : Nat} {S : Nat → Nat → Int} (h : SR w b n S) (hb : Below w.heap.size w w') : SR w' b n S := h.of (hb.block b h.lt)
/-- Eight cells from o on. -/
abbrev K8o (b o : Nat) (c : Nat → Int) (w : World) : Prop := w.cell? ⟨b, o, none⟩ = some (.int .u64 (c 0)) ∧ w.cell? ⟨b, o + 1, none⟩ = some (.int .u64 (c 1)) ∧ w.cell? ⟨b, o + 2, none⟩ = some (.int .u64 (c 2)) ∧ w.cell? ⟨b, o + 3, none⟩ = some (.int .u64 (c 3)) ∧ w.cell? ⟨b, o + 4, none⟩ = some (.int .u64 (c 4)) ∧ w.cell? ⟨b, o + 5, none⟩ = some (.int .u64 (c 5)) ∧ w.cell? ⟨b, o + 6, none⟩ = some (.int .u64 (c 6)) ∧ w.cell? ⟨b, o + 7, none⟩ = some (.int .u64 (c 7))
theorem SR.k8 {w : World} {b n : Nat} {S : Nat → Nat → Int} (h : SR w b n S) (v : Nat) (hv : v < n) : K8o b (v * 8) (S v) w := by
  obtain ⟨C, h, h2⟩ := h
  refine ⟨?_, ?_, ?_, ?_, ?_, ?_, ?_, ?_⟩
  · exact (cell_of_row w b _ _ 41 (0, 0) h).trans (h2 v hv 0 (by decide))
  · exact (cell_of_row w b _ _ 41 (0, 0) h).trans (h2 v hv 1 (by decide))
  · exact (cell_of_row w b _ _ 41 (0, 0) h).trans (h2 v hv 2 (by decide))
  · exact (cell_of_row w b _ _ 41 (0, 0) h).trans (h2 v hv 3 (by decide))
  · exact (cell_of_row w b _ _ 41 (0, 0) h).trans (h2 v hv 4 (by decide))
  · exact (cell_of_row w b _ _ 41 (0, 0) h).trans (h2 v hv 5 (by decide))
  · exact (cell_of_row w b _ _ 41 (0, 0) h).trans (h2 v hv 6 (by decide))
  · exact (cell_of_row w b _ _ 41 (0, 0) h).trans (h2 v hv 7 (by decide))
theorem K8o.on {b o n : Nat} {c : Nat → Int} {w w' : World} (h : K8o b o c w) (hB : Below n w w') (hb : b < n) : K8o b o c w' :=
  ⟨(hB.cell hb).trans h.1, (hB.cell hb).trans h.2.1, (hB.cell hb).trans h.2.2.1, (hB.cell hb).trans h.2.2.2.1, (hB.cell hb).trans h.2.2.2.2.1, (hB.cell hb).trans h.2.2.2.2.2.1, (hB.cell hb).trans h.2.2.2.2.2.2.1, (hB.cell hb).trans h.2.2.2.2.2.2.2⟩
/-- A list of states with one other. -/
def ups (S : Nat → Nat → Int) (v : Nat) (s : Nat → Int) : Nat → Nat → Int := fun u => if u = v then s else S u
theorem sets8o {w : World} {b : Nat} {C : Array Value} {t : TypeId} {fr : Nat × Nat} (hg : w.heap[b]? = some (.cells C t fr)) (o : Nat) (v0 v1 v2 v3 v4 v5 v6 v7 : Value) :
    ((((((((w.setCell ⟨b, o, none⟩ v0).setCell ⟨b, o + 1, none⟩ v1).setCell ⟨b, o + 2, none⟩ v2).setCell ⟨b, o + 3, none⟩ v3).setCell ⟨b, o + 4, none⟩ v4).setCell ⟨b, o + 5, none⟩ v5).setCell ⟨b, o + 6, none⟩ v6).setCell ⟨b, o + 7, none⟩ v7) = w.setRow b ((((((((C.setIfInBounds o v0).setIfInBounds (o + 1) v1).setIfInBounds (o + 2) v2).setIfInBounds (o + 3) v3).setIfInBounds (o + 4) v4).setIfInBounds (o + 5) v5).setIfInBounds (o + 6) v6).setIfInBounds (o + 7) v7) := by
  rw [setCell_eq_setRow w b o C t fr v0 hg]
  have q1 := setRow_heap w b _ (C.setIfInBounds o v0) t fr hg
  rw [setCell_eq_setRow _ b (o + 1) (C.setIfInBounds o v0) t fr v1 q1, setRow_setRow]
  have q2 := setRow_heap w b _ ((C.setIfInBounds o v0).setIfInBounds (o + 1) v1) t fr hg
  rw [setCell_eq_setRow _ b (o + 2) ((C.setIfInBounds o v0).setIfInBounds (o + 1) v1) t fr v2 q2, setRow_setRow]
  have q3 := setRow_heap w b _ (((C.setIfInBounds o v0).setIfInBounds (o + 1) v1).setIfInBounds (o + 2) v2) t fr hg
  rw [setCell_eq_setRow _ b (o + 3) (((C.setIfInBounds o v0).setIfInBounds (o + 1) v1).setIfInBounds (o + 2) v2) t fr v3 q3, setRow_setRow]
  have q4 := setRow_heap w b _ ((((C.setIfInBounds o v0).setIfInBounds (o + 1) v1).setIfInBounds (o + 2) v2).setIfInBounds (o + 3) v3) t fr hg
  rw [setCell_eq_setRow _ b (o + 4) ((((C.setIfInBounds o v0).setIfInBounds (o + 1) v1).setIfInBounds (o + 2) v2).setIfInBounds (o + 3) v3) t fr v4 q4, setRow_setRow]
  have q5 := setRow_heap w b _ (((((C.setIfInBounds o v0).setIfInBounds (o + 1) v1).setIfInBounds (o + 2) v2).setIfInBounds (o + 3) v3).setIfInBounds (o + 4) v4) t fr hg
  rw [setCell_eq_setRow _ b (o + 5) (((((C.setIfInBounds o v0).setIfInBounds (o + 1) v1).setIfInBounds (o + 2) v2).setIfInBounds (o + 3) v3).setIfInBounds (o + 4) v4) t fr v5 q5, setRow_setRow]
  have q6 := setRow_heap w b _ ((((((C.setIfInBounds o v0).setIfInBounds (o + 1) v1).setIfInBounds (o + 2) v2).setIfInBounds (o + 3) v3).setIfInBounds (o + 4) v4).setIfInBounds (o + 5) v5) t fr hg
  rw [setCell_eq_setRow _ b (o + 6) ((((((C.setIfInBounds o v0).setIfInBounds (o + 1) v1).setIfInBounds (o + 2) v2).setIfInBounds (o + 3) v3).setIfInBounds (o + 4) v4).setIfInBounds (o + 5) v5) t fr v6 q6, setRow_setRow]
  have q7 := setRow_heap w b _ (((((((C.setIfInBounds o v0).setIfInBounds (o + 1) v1).setIfInBounds (o + 2) v2).setIfInBounds (o + 3) v3).setIfInBounds (o + 4) v4).setIfInBounds (o + 5) v5).setIfInBounds (o + 6) v6) t fr hg
  rw [setCell_eq_setRow _ b (o + 7) (((((((C.setIfInBounds o v0).setIfInBounds (o + 1) v1).setIfInBounds (o + 2) v2).setIfInBounds (o + 3) v3).setIfInBounds (o + 4) v4).setIfInBounds (o + 5) v5).setIfInBounds (o + 6) v6) t fr v7 q7, setRow_setRow]
/-- An element of a list of states is written. -/
theorem SR.store {w : World} {b n : Nat} {S : Nat → Nat → Int} (h : SR w b n S) (v : Nat) (hv : v < n) (s : Nat → Int) :
    ∃ C', ((((((((w.setCell ⟨b, v * 8, none⟩ (.int .u64 (s 0))).setCell ⟨b, v * 8 + 1, none⟩ (.int .u64 (s 1))).setCell ⟨b, v * 8 + 2, none⟩ (.int .u64 (s 2))).setCell ⟨b, v * 8 + 3, none⟩ (.int .u64 (s 3))).setCell ⟨b, v * 8 + 4, none⟩ (.int .u64 (s 4))).setCell ⟨b, v * 8 + 5, none⟩ (.int .u64 (s 5))).setCell ⟨b, v * 8 + 6, none⟩ (.int .u64 (s 6))).setCell ⟨b, v * 8 + 7, none⟩ (.int .u64 (s 7))) = w.setRow b C' ∧ SR (w.setRow b C') b n (ups S v s) := by
  obtain ⟨C, hC, h2⟩ := h
  refine ⟨_, sets8o hC (v * 8) _ _ _ _ _ _ _ _, _, setRow_heap w b _ _ 41 (0, 0) hC, fun u hu i hi => ?_⟩
  have hsz : ∀ j, j < 8 → v * 8 + j < C.size := fun j hj => (Array.getElem?_eq_some_iff.1 (h2 v hv j hj)).1
  unfold ups
  by_cases e : u = v
  · subst e
    rw [if_pos rfl]
    have h0 := hsz 0 (by decide)
    have h1 := hsz 1 (by decide)
    have h2 := hsz 2 (by decide)
    have h3 := hsz 3 (by decide)
    have h4 := hsz 4 (by decide)
    have h5 := hsz 5 (by decide)
    have h6 := hsz 6 (by decide)
    have h7 := hsz 7 (by decide)
    match i, hi with
    | 0, _ => simp only [Array.getElem?_setIfInBounds, Array.size_setIfInBounds]; simp; omega
    | 1, _ => simp only [Array.getElem?_setIfInBounds, Array.size_setIfInBounds]; simp; omega
    | 2, _ => simp only [Array.getElem?_setIfInBounds, Array.size_setIfInBounds]; simp; omega
    | 3, _ => simp only [Array.getElem?_setIfInBounds, Array.size_setIfInBounds]; simp; omega
    | 4, _ => simp only [Array.getElem?_setIfInBounds, Array.size_setIfInBounds]; simp; omega
    | 5, _ => simp only [Array.getElem?_setIfInBounds, Array.size_setIfInBounds]; simp; omega
    | 6, _ => simp only [Array.getElem?_setIfInBounds, Array.size_setIfInBounds]; simp; omega
    | 7, _ => simp only [Array.getElem?_setIfInBounds, Array.size_setIfInBounds]; simp; omega
  · rw [if_neg e, ← h2 u hu i hi]
    simp only [Array.getElem?_setIfInBounds]
    rw [if_neg (by omega), if_neg (by omega), if_neg (by omega), if_neg (by omega), if_neg (by omega), if_neg (by omega), if_neg (by omega), if_neg (by omega)]
/-- Cells that may be written. -/
theorem SR.f8 {w : World} {b n : Nat} {S : Nat → Nat → Int} (h : SR w b n S) (o : Nat) : w.frozen? ⟨b, o, none⟩ = false ∧ w.frozen? ⟨b, o + 1, none⟩ = false ∧ w.frozen? ⟨b, o + 2, none⟩ = false ∧ w.frozen? ⟨b, o + 3, none⟩ = false ∧ w.frozen? ⟨b, o + 4, none⟩ = false ∧ w.frozen? ⟨b, o + 5, none⟩ = false ∧ w.frozen? ⟨b, o + 6, none⟩ = false ∧ w.frozen? ⟨b, o + 7, none⟩ = false := by
  obtain ⟨C, h, _⟩ := h
  refine ⟨?_, ?_, ?_, ?_, ?_, ?_, ?_, ?_⟩ <;> exact frozen_of_row w b _ _ 41 h
end Wp
end Go.Proofs.YtipnlcnikpngcaaDoor
