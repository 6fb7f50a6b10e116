import Derived.Test.YtobhmadckoemdaaTyT
import Derived.Test.YtobhmadckoemdaaTyO
namespace Go.Proofs.Ytobhmadckoemdaa
namespace Ty
open Go.RowKit
set_option linter.unusedVariables false
theorem Bits.on {w w' : World} {g : Nat} {N : Int} (h : Bits w g N) (hb : Below w.heap.size w w') : Bits w' g N := h.kept hb (World.rowIs.lt h)
theorem both_sums (w : World) (t : TypeId) (A B : Int) : ∃ v : World, ((w.alloc (.cells (sm A) t)).alloc (.cells (sm B) t)).alloc (.cells #[.int .u64 0, .int .u64 0, .int .u64 0, .int .u64 0, .int .u64 0, .int .u64 0] t) = v ∧ Below w.heap.size w v ∧ v.heap.size = w.heap.size + 1 + 1 + 1 ∧ v.heap[w.heap.size]? = some (.cells (sm A) t (0, 0)) ∧ v.heap[w.heap.size + 1]? = some (.cells (sm B) t (0, 0)) ∧ v.heap[w.heap.size + 1 + 1]? = some (.cells (sm 0) t (0, 0)) := by
  rw [zeros_sm]
  obtain ⟨h1, h2, h3⟩ := heap_three w (.cells (sm A) t) (.cells (sm B) t) (.cells (sm 0) t)
  exact ⟨_, rfl, (((Below.refl _ _).alloc (Nat.le_refl _) _).alloc (by simp) _).alloc (by simp; omega) _, by simp, h1, h2, h3⟩
theorem sm_open (N : Int) : ∃ x0 x1 x2 x3 x4 x5 : Int, sm N = #[.int .u64 x0, .int .u64 x1, .int .u64 x2, .int .u64 x3, .int .u64 x4, .int .u64 x5] := ⟨_, _, _, _, _, _, rfl⟩
/-- Six cells. -/
abbrev K6 (w : World) (g : Nat) (x0 x1 x2 x3 x4 x5 : Int) : Prop := w.cell? ⟨g, 0, none⟩ = some (.int .u64 x0) ∧ w.cell? ⟨g, 1, none⟩ = some (.int .u64 x1) ∧ w.cell? ⟨g, 2, none⟩ = some (.int .u64 x2) ∧ w.cell? ⟨g, 3, none⟩ = some (.int .u64 x3) ∧ w.cell? ⟨g, 4, none⟩ = some (.int .u64 x4) ∧ w.cell? ⟨g, 5, none⟩ = some (.int .u64 x5)
theorem K6.on {w w' : World} {g : Nat} {x0 x1 x2 x3 x4 x5 : Int} (h : K6 w g x0 x1 x2 x3 x4 x5) (hb : Below w.heap.size w w') : K6 w' g x0 x1 x2 x3 x4 x5 := by
  obtain ⟨h0, h1, h2, h3, h4, h5⟩ := h
  have hg : g < w.heap.size := World.block_lt_of_cell? w ⟨g, 0, none⟩ h0
  exact ⟨(hb.cell (p := ⟨g, 0, none⟩) hg).trans h0, (hb.cell (p := ⟨g, 1, none⟩) hg).trans h1, (hb.cell (p := ⟨g, 2, none⟩) hg).trans h2, (hb.cell (p := ⟨g, 3, none⟩) hg).trans h3, (hb.cell (p := ⟨g, 4, none⟩) hg).trans h4, (hb.cell (p := ⟨g, 5, none⟩) hg).trans h5⟩
theorem K6.far {w : World} {g : Nat} {x0 x1 x2 x3 x4 x5 : Int} (h : K6 w g x0 x1 x2 x3 x4 x5) (p : Addr) (v : Value) (hp : p.block ≠ g) : K6 (w.setCell p v) g x0 x1 x2 x3 x4 x5 := by
  obtain ⟨h0, h1, h2, h3, h4, h5⟩ := h
  exact ⟨(World.cell?_setCell_far _ _ _ _ hp).trans h0, (World.cell?_setCell_far _ _ _ _ hp).trans h1, (World.cell?_setCell_far _ _ _ _ hp).trans h2, (World.cell?_setCell_far _ _ _ _ hp).trans h3, (World.cell?_setCell_far _ _ _ _ hp).trans h4, (World.cell?_setCell_far _ _ _ _ hp).trans h5⟩
theorem k6_of {w : World} {g : Nat} {t : TypeId} {x0 x1 x2 x3 x4 x5 : Int} (h : w.heap[g]? = some (.cells #[.int .u64 x0, .int .u64 x1, .int .u64 x2, .int .u64 x3, .int .u64 x4, .int .u64 x5] t (0, 0))) : K6 w g x0 x1 x2 x3 x4 x5 ∧ ∀ i, w.frozen? ⟨g, i, none⟩ = false := by
  refine ⟨⟨?_, ?_, ?_, ?_, ?_, ?_⟩, fun i => ?_⟩ <;> simp [World.cell?, World.frozen?, h]
theorem six_sets {w : World} {g : Nat} {t : TypeId} {f : Nat → Value} {x0 x1 x2 x3 x4 x5 : Int} (h : w.rowIs g t 6 f) : ((((((w.setCell ⟨g, 0, none⟩ (.int .u64 x0)).setCell ⟨g, 1, none⟩ (.int .u64 x1)).setCell ⟨g, 2, none⟩ (.int .u64 x2)).setCell ⟨g, 3, none⟩ (.int .u64 x3)).setCell ⟨g, 4, none⟩ (.int .u64 x4)).setCell ⟨g, 5, none⟩ (.int .u64 x5)).heap[g]? = some (.cells #[.int .u64 x0, .int .u64 x1, .int .u64 x2, .int .u64 x3, .int .u64 x4, .int .u64 x5] t (0, 0)) := by
  obtain ⟨c, hc, hs, hv⟩ := ((((((h.set 0 (.int .u64 x0)).set 1 (.int .u64 x1)).set 2 (.int .u64 x2)).set 3 (.int .u64 x3)).set 4 (.int .u64 x4)).set 5 (.int .u64 x5))
  rw [hc]
  have e : c = #[.int .u64 x0, .int .u64 x1, .int .u64 x2, .int .u64 x3, .int .u64 x4, .int .u64 x5] := by
    apply Array.ext_getElem?
    intro i
    by_cases hi : i < 6
    · rw [hv i hi]
      match i, hi with
      | 0, _ => rfl
      | 1, _ => rfl
      | 2, _ => rfl
      | 3, _ => rfl
      | 4, _ => rfl
      | 5, _ => rfl
    · rw [Array.getElem?_eq_none (by omega), Array.getElem?_eq_none (by show 6 ≤ i; omega)]
  rw [e]
theorem sets_below {B : Nat} {w0 w : World} {g : Nat} {x0 x1 x2 x3 x4 x5 : Int} (h : Below B w0 w) (hg : B ≤ g) : Below B w0 ((((((w.setCell ⟨g, 0, none⟩ (.int .u64 x0)).setCell ⟨g, 1, none⟩ (.int .u64 x1)).setCell ⟨g, 2, none⟩ (.int .u64 x2)).setCell ⟨g, 3, none⟩ (.int .u64 x3)).setCell ⟨g, 4, none⟩ (.int .u64 x4)).setCell ⟨g, 5, none⟩ (.int .u64 x5)) :=
  (((((h.setCell (show B ≤ (⟨g, 0, none⟩ : Addr).block from hg) _).setCell (show B ≤ (⟨g, 1, none⟩ : Addr).block from hg) _).setCell (show B ≤ (⟨g, 2, none⟩ : Addr).block from hg) _).setCell (show B ≤ (⟨g, 3, none⟩ : Addr).block from hg) _).setCell (show B ≤ (⟨g, 4, none⟩ : Addr).block from hg) _).setCell (show B ≤ (⟨g, 5, none⟩ : Addr).block from hg) _
end Ty
end Go.Proofs.Ytobhmadckoemdaa
