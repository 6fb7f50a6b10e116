import Derived.Test.YtobhmadckoemdaaTySh
namespace Go.Proofs.Ytobhmadckoemdaa
namespace Ty
open Go.RowKit
set_option linter.unusedVariables false
theorem cells6 {w : World} {g : Nat} {t : TypeId} {N : Int} (h : w.rowIs g t 6 (fun i => .int .u64 (wd N i))) :
    (w.cell? ⟨g, 0, none⟩ = some (.int .u64 (wd N 0)) ∧ w.cell? ⟨g, 1, none⟩ = some (.int .u64 (wd N 1)) ∧ w.cell? ⟨g, 2, none⟩ = some (.int .u64 (wd N 2)) ∧ w.cell? ⟨g, 3, none⟩ = some (.int .u64 (wd N 3)) ∧ w.cell? ⟨g, 4, none⟩ = some (.int .u64 (wd N 4)) ∧ w.cell? ⟨g, 5, none⟩ = some (.int .u64 (wd N 5))) ∧
    (w.frozen? ⟨g, 0, none⟩ = false ∧ w.frozen? ⟨g, 1, none⟩ = false ∧ w.frozen? ⟨g, 2, none⟩ = false ∧ w.frozen? ⟨g, 3, none⟩ = false ∧ w.frozen? ⟨g, 4, none⟩ = false ∧ w.frozen? ⟨g, 5, none⟩ = false) :=
  ⟨⟨h.cell (by omega), h.cell (by omega), h.cell (by omega), h.cell (by omega), h.cell (by omega), h.cell (by omega)⟩, ⟨h.frozen 0, h.frozen 1, h.frozen 2, h.frozen 3, h.frozen 4, h.frozen 5⟩⟩
/-- Six cells. -/
abbrev C6 (w : World) (g : Nat) (N : Int) : Prop :=
  w.cell? ⟨g, 0, none⟩ = some (.int .u64 (wd N 0)) ∧ w.cell? ⟨g, 1, none⟩ = some (.int .u64 (wd N 1)) ∧ w.cell? ⟨g, 2, none⟩ = some (.int .u64 (wd N 2)) ∧ w.cell? ⟨g, 3, none⟩ = some (.int .u64 (wd N 3)) ∧ w.cell? ⟨g, 4, none⟩ = some (.int .u64 (wd N 4)) ∧ w.cell? ⟨g, 5, none⟩ = some (.int .u64 (wd N 5))
theorem C6.on {w w' : World} {g : Nat} {N : Int} (h : C6 w g N) (hb : Below w.heap.size w w') : C6 w' g N := by
  obtain ⟨h0, h1, h2, h3, h4, h5⟩ := h
  have hg : g < w.heap.size := World.block_lt_of_cell? w ⟨g, 0, none⟩ h0
  exact ⟨(hb.cell (p := ⟨g, 0, none⟩) hg).trans h0, (hb.cell (p := ⟨g, 1, none⟩) hg).trans h1, (hb.cell (p := ⟨g, 2, none⟩) hg).trans h2, (hb.cell (p := ⟨g, 3, none⟩) hg).trans h3, (hb.cell (p := ⟨g, 4, none⟩) hg).trans h4, (hb.cell (p := ⟨g, 5, none⟩) hg).trans h5⟩
theorem C6.far {w : World} {g : Nat} {N : Int} (h : C6 w g N) (p : Addr) (v : Value) (hp : p.block ≠ g) : C6 (w.setCell p v) g N := by
  obtain ⟨h0, h1, h2, h3, h4, h5⟩ := h
  exact ⟨(World.cell?_setCell_far _ _ _ _ hp).trans h0, (World.cell?_setCell_far _ _ _ _ hp).trans h1, (World.cell?_setCell_far _ _ _ _ hp).trans h2, (World.cell?_setCell_far _ _ _ _ hp).trans h3, (World.cell?_setCell_far _ _ _ _ hp).trans h4, (World.cell?_setCell_far _ _ _ _ hp).trans h5⟩
def six (w : World) (g : Nat) (N : Int) : World :=
  (((((w.setCell ⟨g, 0, none⟩ (.int .u64 (wd N 0))).setCell ⟨g, 1, none⟩ (.int .u64 (wd N 1))).setCell ⟨g, 2, none⟩ (.int .u64 (wd N 2))).setCell ⟨g, 3, none⟩ (.int .u64 (wd N 3))).setCell ⟨g, 4, none⟩ (.int .u64 (wd N 4))).setCell ⟨g, 5, none⟩ (.int .u64 (wd N 5))
theorem six_row {w : World} {g : Nat} {t : TypeId} {f : Nat → Value} (N : Int) (h : w.rowIs g t 6 f) : (six w g N).rowIs g t 6 (fun i => .int .u64 (wd N i)) := by
  refine ((((((h.set 0 _).set 1 _).set 2 _).set 3 _).set 4 _).set 5 _).congr (fun i hi => ?_)
  match i, hi with
  | 0, _ => rfl
  | 1, _ => rfl
  | 2, _ => rfl
  | 3, _ => rfl
  | 4, _ => rfl
  | 5, _ => rfl
theorem six_other {w : World} {g g2 : Nat} {t : TypeId} {n : Nat} {f : Nat → Value} (N : Int) (h : w.rowIs g2 t n f) (hg : g2 ≠ g) : (six w g N).rowIs g2 t n f :=
  (((((h.setOther hg _).setOther hg _).setOther hg _).setOther hg _).setOther hg _).setOther hg _
theorem six_below {B : Nat} {w0 w : World} {g : Nat} (N : Int) (h : Below B w0 w) (hg : B ≤ g) : Below B w0 (six w g N) :=
  (((((h.setCell (show B ≤ (⟨g, 0, none⟩ : Addr).block from hg) _).setCell (show B ≤ (⟨g, 1, none⟩ : Addr).block from hg) _).setCell (show B ≤ (⟨g, 2, none⟩ : Addr).block from hg) _).setCell (show B ≤ (⟨g, 3, none⟩ : Addr).block from hg) _).setCell (show B ≤ (⟨g, 4, none⟩ : Addr).block from hg) _).setCell (show B ≤ (⟨g, 5, none⟩ : Addr).block from hg) _
/-- The two variables that 'Shift' makes. -/
theorem four_sums (w : World) (A : Int) : ∃ v : World, ((((w.alloc (.cells (sm A) 46)).alloc (.cells #[.int .u64 0, .int .u64 0, .int .u64 0, .int .u64 0, .int .u64 0, .int .u64 0] 46)).alloc (.cells #[.int .u64 0, .int .u64 0, .int .u64 0, .int .u64 0, .int .u64 0, .int .u64 0] 46)).alloc (.cells #[.int .u64 0, .int .u64 0, .int .u64 0, .int .u64 0, .int .u64 0, .int .u64 0] 46)) = v ∧ Below w.heap.size w v ∧ v.heap.size = w.heap.size + 4 ∧ v.heap[w.heap.size]? = some (.cells (sm A) 46 (0, 0)) ∧ v.heap[w.heap.size + 1]? = some (.cells (sm 0) 46 (0, 0)) ∧ v.heap[w.heap.size + 1 + 1]? = some (.cells (sm 0) 46 (0, 0)) ∧ v.heap[w.heap.size + 1 + 1 + 1]? = some (.cells (sm 0) 46 (0, 0)) := by
  rw [zeros_sm]
  obtain ⟨h1, h2, h3⟩ := heap_three w (.cells (sm A) 46) (.cells (sm 0) 46) (.cells (sm 0) 46)
  have h4 := heap_alloc_last (((w.alloc (.cells (sm A) 46)).alloc (.cells (sm 0) 46)).alloc (.cells (sm 0) 46)) (.cells (sm 0) 46)
  have e : (((w.alloc (.cells (sm A) 46)).alloc (.cells (sm 0) 46)).alloc (.cells (sm 0) 46)).heap.size = w.heap.size + 1 + 1 + 1 := by simp
  rw [e] at h4
  exact ⟨_, rfl, ((((Below.refl _ _).alloc (Nat.le_refl _) _).alloc (by simp) _).alloc (by simp; omega) _).alloc (by simp; omega) _, by simp, (blk_alloc _ _ _ (by rw [e]; omega)).trans h1, (blk_alloc _ _ _ (by rw [e]; omega)).trans h2, (blk_alloc _ _ _ (by rw [e]; omega)).trans h3, h4⟩
theorem not_zero (A : Int) (h : Sg A) (hz : ¬ A = 0) : ∀ w : World, (Op.equalIn 10000 46 (.agg (sm A)) (.agg #[.int .u64 0, .int .u64 0, .int .u64 0, .int .u64 0, .int .u64 0, .int .u64 0])).run Try.prog w = .ok false w := by
  intro w
  have hEq := eq_sm 46 Try.underlying46 A 0 w
  have hs0 := same_iff A 0 h sg_zero
  have hsF : same A 0 = false := by
    cases e : same A 0 with
    | false => rfl
    | true => exact absurd (hs0.1 e) hz
  rw [← zeros_sm, hsF] at hEq
  exact hEq
end Ty
end Go.Proofs.Ytobhmadckoemdaa
