import Derived.Test.YtbnmjmlcedkoaaaDoorTyMu
namespace Go.Proofs.YtbnmjmlcedkoaaaDoor
namespace Ty
open Go.RowKit
set_option linter.unusedVariables false
theorem wp_cut {P : Program} {c : Code} {Q : Exit → Act → World → Prop} {a : Act} {w : World} (T : World → Prop) (A1 : Act)
    (h : c.wp P (fun e a' w' => match e with | .normal => a' = A1 ∧ T w' | _ => False) a w) (hq : ∀ w', T w' → Q .normal A1 w') : c.wp P Q a w := by
  refine Code.wp_mono ?_ h
  intro e a' w' hh
  cases e with
  | normal => obtain ⟨rfl, ht⟩ := hh; exact hq w' ht
  | _ => exact hh.elim
theorem one_state (w : World) (f : Nat → Int) : ∃ v0 v, w.alloc (.cells (st f) 33) = v0 ∧ v0.heap[w.heap.size]? = some (.cells (st f) 33 (0, 0)) ∧ (v0.alloc (.cells #[.int .u64 0, .int .u64 0, .int .u64 0, .int .u64 0, .int .u64 0, .int .u64 0, .int .u64 0, .int .u64 0] 33)).heap[w.heap.size + 1]? = some (.cells #[.int .u64 0, .int .u64 0, .int .u64 0, .int .u64 0, .int .u64 0, .int .u64 0, .int .u64 0, .int .u64 0] 33 (0, 0)) ∧ v0.heap.size = w.heap.size + 1 ∧ (v0.alloc (.cells #[.int .u64 0, .int .u64 0, .int .u64 0, .int .u64 0, .int .u64 0, .int .u64 0, .int .u64 0, .int .u64 0] 33)).setRow (w.heap.size + 1) (st f) = v ∧ Below w.heap.size w v ∧ v.heap[w.heap.size]? = some (.cells (st f) 33 (0, 0)) ∧ v.heap[w.heap.size + 1]? = some (.cells (st f) 33 (0, 0)) := by
  obtain ⟨h1, h2⟩ := heap_two w (.cells (st f) 33) (.cells #[.int .u64 0, .int .u64 0, .int .u64 0, .int .u64 0, .int .u64 0, .int .u64 0, .int .u64 0, .int .u64 0] 33)
  refine ⟨_, _, rfl, heap_alloc_last w _, h2, by simp, rfl, below_setRow _ _ (((Below.refl _ _).alloc (Nat.le_refl _) _).alloc (by simp) _) (by omega), ?_, setRow_heap _ (w.heap.size + 1) _ _ 33 (0, 0) h2⟩
  rw [setRow_other _ _ _ _ (by omega)]; exact h1
/-- A list of gatherings that lies in memory. -/
def MRow (w : World) (a : Option Addr) (len : Nat) (M A Y : Nat → Int) : Prop :=
  len ≤ 9223372036854775807 ∧ (0 < len → ∃ x : Addr, a = some x ∧ x.block < w.heap.size ∧ ∀ i, i < len → w.cell? (x.add (i * 3)) = some (.int .i64 (M i)) ∧ w.cell? (x.add (i * 3 + 1)) = some (.int .i64 (A i)) ∧ w.cell? (x.add (i * 3 + 2)) = some (.int .u64 (Y i))) ∧
  ∀ i, i < len → (-9223372036854775808 ≤ M i ∧ M i ≤ 9223372036854775807) ∧ (-9223372036854775808 ≤ A i ∧ A i ≤ 9223372036854775807) ∧ (0 ≤ Y i ∧ Y i < 18446744073709551616)
theorem cells3 {v : World} {ad : Addr} {j : Nat} {m a y : Int} (h : v.cell? (ad.add (j * 3)) = some (.int .i64 m) ∧ v.cell? (ad.add (j * 3 + 1)) = some (.int .i64 a) ∧ v.cell? (ad.add (j * 3 + 2)) = some (.int .u64 y)) : v.cell? (ad.add (j * 3)) = some (.int .i64 m) ∧ v.cell? ⟨(ad.add (j * 3)).block, (ad.add (j * 3)).off + 1, none⟩ = some (.int .i64 a) ∧ v.cell? ⟨(ad.add (j * 3)).block, (ad.add (j * 3)).off + 2, none⟩ = some (.int .u64 y) := by
  rw [← Addr.add_add, ← Addr.add_add] at h
  exact h
def L2 (w wr : World) (f t : Nat → Int) : Prop :=
  Below w.heap.size w wr ∧ w.heap.size + 1 < wr.heap.size ∧ wr.heap[w.heap.size]? = some (.cells (st f) 33 (0, 0)) ∧ wr.heap[w.heap.size + 1]? = some (.cells (st t) 33 (0, 0))
theorem l2_on {w wr v : World} {f t : Nat → Int} (h : L2 w wr f t) (hb : Below wr.heap.size wr v) : L2 w v f t := by
  obtain ⟨b1, s1, h0, h1⟩ := h
  have := hb.size
  exact ⟨b1.trans (hb.mono b1.size), by omega, (hb.block _ (by omega)).trans h0, (hb.block _ (by omega)).trans h1⟩
theorem sets8_size (w : World) (g : Nat) (x0 x1 x2 x3 x4 x5 x6 x7 : Int) : (sets8 w g x0 x1 x2 x3 x4 x5 x6 x7).heap.size = w.heap.size := by simp
theorem l2_s {w v : World} {f t g : Nat → Int} {z0 z1 z2 z3 z4 z5 z6 z7 : Int} (h : L2 w v f t) (hz : st g = #[.int .u64 z0, .int .u64 z1, .int .u64 z2, .int .u64 z3, .int .u64 z4, .int .u64 z5, .int .u64 z6, .int .u64 z7]) : L2 w (sets8 v w.heap.size z0 z1 z2 z3 z4 z5 z6 z7) g t := by
  obtain ⟨b1, s1, h0, h1⟩ := h
  refine ⟨sets_below8 b1 (Nat.le_refl _), by rw [sets8_size]; exact s1, ?_, ?_⟩
  · rw [hz]; exact eight_sets (row_st h0)
  · exact st_row (((((((((row_st h1).setOther (show w.heap.size + 1 ≠ (⟨w.heap.size, 0, none⟩ : Addr).block from Nat.succ_ne_self _) _).setOther (show w.heap.size + 1 ≠ (⟨w.heap.size, 1, none⟩ : Addr).block from Nat.succ_ne_self _) _).setOther (show w.heap.size + 1 ≠ (⟨w.heap.size, 2, none⟩ : Addr).block from Nat.succ_ne_self _) _).setOther (show w.heap.size + 1 ≠ (⟨w.heap.size, 3, none⟩ : Addr).block from Nat.succ_ne_self _) _).setOther (show w.heap.size + 1 ≠ (⟨w.heap.size, 4, none⟩ : Addr).block from Nat.succ_ne_self _) _).setOther (show w.heap.size + 1 ≠ (⟨w.heap.size, 5, none⟩ : Addr).block from Nat.succ_ne_self _) _).setOther (show w.heap.size + 1 ≠ (⟨w.heap.size, 6, none⟩ : Addr).block from Nat.succ_ne_self _) _).setOther (show w.heap.size + 1 ≠ (⟨w.heap.size, 7, none⟩ : Addr).block from Nat.succ_ne_self _) _)
theorem l2_t {w v : World} {f t g : Nat → Int} {z0 z1 z2 z3 z4 z5 z6 z7 : Int} (h : L2 w v f t) (hz : st g = #[.int .u64 z0, .int .u64 z1, .int .u64 z2, .int .u64 z3, .int .u64 z4, .int .u64 z5, .int .u64 z6, .int .u64 z7]) : L2 w (sets8 v (w.heap.size + 1) z0 z1 z2 z3 z4 z5 z6 z7) f g := by
  obtain ⟨b1, s1, h0, h1⟩ := h
  refine ⟨sets_below8 b1 (by omega), by rw [sets8_size]; exact s1, ?_, ?_⟩
  · exact st_row (((((((((row_st h0).setOther (show w.heap.size ≠ (⟨w.heap.size + 1, 0, none⟩ : Addr).block from (Nat.succ_ne_self _).symm) _).setOther (show w.heap.size ≠ (⟨w.heap.size + 1, 1, none⟩ : Addr).block from (Nat.succ_ne_self _).symm) _).setOther (show w.heap.size ≠ (⟨w.heap.size + 1, 2, none⟩ : Addr).block from (Nat.succ_ne_self _).symm) _).setOther (show w.heap.size ≠ (⟨w.heap.size + 1, 3, none⟩ : Addr).block from (Nat.succ_ne_self _).symm) _).setOther (show w.heap.size ≠ (⟨w.heap.size + 1, 4, none⟩ : Addr).block from (Nat.succ_ne_self _).symm) _).setOther (show w.heap.size ≠ (⟨w.heap.size + 1, 5, none⟩ : Addr).block from (Nat.succ_ne_self _).symm) _).setOther (show w.heap.size ≠ (⟨w.heap.size + 1, 6, none⟩ : Addr).block from (Nat.succ_ne_self _).symm) _).setOther (show w.heap.size ≠ (⟨w.heap.size + 1, 7, none⟩ : Addr).block from (Nat.succ_ne_self _).symm) _)
  · rw [hz]; exact eight_sets (row_st h1)
abbrev SM (w : World) (ad : Addr) (j : Nat) (mj aj yj : Int) : Prop := (w.cell? (ad.add (j * 3)) = some (.int .i64 mj) ∧ w.cell? ⟨(ad.add (j * 3)).block, (ad.add (j * 3)).off + 1, none⟩ = some (.int .i64 aj) ∧ w.cell? ⟨(ad.add (j * 3)).block, (ad.add (j * 3)).off + 2, none⟩ = some (.int .u64 yj))
theorem SM.on {w w' : World} {ad : Addr} {j : Nat} {mj aj yj : Int} (h : SM w ad j mj aj yj) (hb : Below w.heap.size w w') : SM w' ad j mj aj yj := by
  obtain ⟨a0, a1, a2⟩ := h
  have l1 := World.block_lt_of_cell? w _ a0
  have l2 := World.block_lt_of_cell? w _ a1
  have l3 := World.block_lt_of_cell? w _ a2
  exact ⟨(hb.cell l1).trans a0, (hb.cell l2).trans a1, (hb.cell l3).trans a2⟩
theorem SM.far {w : World} {ad : Addr} {j : Nat} {mj aj yj : Int} (h : SM w ad j mj aj yj) (p : Addr) (v : Value) (hp : p.block ≠ (ad.add (j * 3)).block) : SM (w.setCell p v) ad j mj aj yj :=
  ⟨(World.cell?_setCell_far w p (ad.add (j * 3)) v hp).trans h.1, (World.cell?_setCell_far w p ⟨(ad.add (j * 3)).block, (ad.add (j * 3)).off + 1, none⟩ v hp).trans h.2.1, (World.cell?_setCell_far w p ⟨(ad.add (j * 3)).block, (ad.add (j * 3)).off + 2, none⟩ v hp).trans h.2.2⟩
theorem SM.sets {w : World} {ad : Addr} {j : Nat} {mj aj yj : Int} {g : Nat} (x0 x1 x2 x3 x4 x5 x6 x7 : Int) (h : SM w ad j mj aj yj) (hp : g ≠ (ad.add (j * 3)).block) : SM (sets8 w g x0 x1 x2 x3 x4 x5 x6 x7) ad j mj aj yj :=
  (SM.far (SM.far (SM.far (SM.far (SM.far (SM.far (SM.far (SM.far h ⟨g, 0, none⟩ _ hp) ⟨g, 1, none⟩ _ hp) ⟨g, 2, none⟩ _ hp) ⟨g, 3, none⟩ _ hp) ⟨g, 4, none⟩ _ hp) ⟨g, 5, none⟩ _ hp) ⟨g, 6, none⟩ _ hp) ⟨g, 7, none⟩ _ hp)
end Ty
end Go.Proofs.YtbnmjmlcedkoaaaDoor
