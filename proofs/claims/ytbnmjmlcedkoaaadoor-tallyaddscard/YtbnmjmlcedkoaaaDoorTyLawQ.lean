import Derived.Test.YtbnmjmlcedkoaaaDoorTyFs
namespace Go.Proofs.YtbnmjmlcedkoaaaDoor
namespace Ty
open Go.RowKit
set_option linter.unusedVariables false
theorem own_cells {B k e : Nat} {xs ts : List Value} {w : World} {v : Value} (hl : xs.length = k) (h : w.ownsRow B e 1 v (k + ts.length) (xs ++ ts)) (hp : 0 < k + ts.length) :
    ∃ g cap, v = .slice (some ⟨g, 0, none⟩) (k + ts.length) cap ∧ B ≤ g ∧ g < w.heap.size ∧ k + ts.length ≤ cap ∧ cap ≤ maxLen ∧ (∀ j, j < k + ts.length → w.cell? ⟨g, j, none⟩ = (xs ++ ts)[j]?) ∧ ∀ j, w.frozen? ⟨g, j, none⟩ = false := by
  have h' := h
  obtain ⟨h1, h2⟩ := h
  rcases h2 with ⟨_, h0⟩ | ⟨g, cap, cur, rfl, hb, hh, hn, hm, hcs, ht⟩
  · omega
  · exact ⟨g, cap, rfl, hb, (World.ownsRow.lt h' g rfl).2, hn, hm, fun j hj => World.ownsRow.cellAt h' j (by omega), fun j => World.ownsRow.frozenAt h' j⟩
theorem cell_two (w : World) (x y : Value) (t : TypeId) : ∀ j u, [x, y][j]? = some u → (w.alloc (.cells #[x, y] t)).cell? ((⟨w.heap.size, 0, none⟩ : Addr).add j) = some u := by
  intro j u hj
  match j, hj with
  | 0, hj => simp at hj; subst hj; simp [Addr.add]
  | 1, hj => simp at hj; subst hj; simp [Addr.add]
theorem add0 (g i : Nat) : (⟨g, 0, none⟩ : Addr).add i = ⟨g, i, none⟩ := by unfold Addr.add; split <;> simp_all
/-- The list of float32 with two more behind it. -/
def FB (w : World) (g len : Nat) (zs : List Int) : Prop :=
  g < w.heap.size ∧ (∀ j, j < len → w.cell? ⟨g, j, none⟩ = some (.float .f32 (zs.getD j 0).toNat)) ∧ w.cell? ⟨g, len, none⟩ = some (.float .f32 1088421888) ∧ w.cell? ⟨g, len + 1, none⟩ = some (.float .f32 1091567616) ∧ ∀ j, w.frozen? ⟨g, j, none⟩ = false
theorem FB.block {w w' : World} {g len : Nat} {zs : List Int} (h : FB w g len zs) (hb : w'.heap[g]? = w.heap[g]?) (hs : w.heap.size ≤ w'.heap.size) : FB w' g len zs := by
  obtain ⟨h1, h2, h3, h4, h5⟩ := h
  refine ⟨by omega, fun j hj => ?_, ?_, ?_, fun j => ?_⟩
  · rw [World.cell?_of_block (w := w) (a := ⟨g, j, none⟩) hb]; exact h2 j hj
  · rw [World.cell?_of_block (w := w) (a := ⟨g, len, none⟩) hb]; exact h3
  · rw [World.cell?_of_block (w := w) (a := ⟨g, len + 1, none⟩) hb]; exact h4
  · rw [World.frozen?_of_block (w := w) (a := ⟨g, j, none⟩) hb]; exact h5 j
theorem FB.on {w w' : World} {g len : Nat} {zs : List Int} (h : FB w g len zs) (hb : Below w.heap.size w w') : FB w' g len zs := h.block (hb.block g h.1) hb.size
theorem FB.row {w : World} {g len : Nat} {zs : List Int} (h : FB w g len zs) (hz : (len ≤ zs.length ∧ len ≤ 9223372036854775807) ∧ ∀ i, i < len → 0 ≤ zs.getD i 0 ∧ zs.getD i 0 < 4294967296) : FRow w (some ⟨g, 0, none⟩) len zs :=
  ⟨hz.1, fun _ => ⟨_, rfl, h.1, fun i hi => by rw [add0]; exact h.2.1 i hi⟩, hz.2⟩
theorem fb_own {w : World} {B len : Nat} {zs : List Int} {v : Value} (hl : len ≤ zs.length) (h : w.ownsRow B 42 1 v (len + 2) (fvals zs len ++ [.float .f32 1088421888, .float .f32 1091567616])) :
    ∃ g cap, v = .slice (some ⟨g, 0, none⟩) (len + 2) cap ∧ B ≤ g ∧ len + 2 ≤ cap ∧ cap ≤ maxLen ∧ FB w g len zs := by
  obtain ⟨g, cap, rfl, h1, h2, h3, h4, h5, h6⟩ := own_cells (ts := [.float .f32 1088421888, .float .f32 1091567616]) (fvals_len zs len hl) h (by simp)
  refine ⟨g, cap, rfl, h1, h3, h4, h2, fun j hj => ?_, ?_, ?_, h6⟩
  · rw [h5 j (by simp; omega), fvals_get zs len j _ hl hj]
  · rw [h5 len (by simp), List.getElem?_append_right (by rw [fvals_len zs len hl]; omega), fvals_len zs len hl]; simp
  · rw [h5 (len + 1) (by simp), List.getElem?_append_right (by rw [fvals_len zs len hl]; omega), fvals_len zs len hl]; simp
/-- A fresh variable that holds a sum. -/
theorem new_sum {W : World} (t : TypeId) (N : Int) : ∃ V, (W.alloc (.cells #[.int .u64 0, .int .u64 0, .int .u64 0, .int .u64 0, .int .u64 0, .int .u64 0] t)).setRow W.heap.size (sm N) = V ∧ Below W.heap.size W V ∧ V.heap.size = W.heap.size + 1 ∧ V.heap[W.heap.size]? = some (.cells (sm N) t (0, 0)) := by
  refine ⟨_, rfl, below_setRow _ _ ((Below.refl _ _).alloc (Nat.le_refl _) _) (Nat.le_refl _), by simp, ?_⟩
  exact setRow_heap _ W.heap.size _ _ t (0, 0) (heap_alloc_last W _)
theorem neq7 (w : World) : (binOp .neq 42 (.float .f32 1088421888) (.float .f32 1088421888)).run Tryd.prog w = .ok (.bool false) w := by
  have h : (FloatKind.f32.format.order 1088421888 1088421888 != some .eq) = false := by decide +kernel
  simp [binOp, Op.floatCmp, h]
theorem neq9 (w : World) : (binOp .neq 42 (.float .f32 1091567616) (.float .f32 1091567616)).run Tryd.prog w = .ok (.bool false) w := by
  have h : (FloatKind.f32.format.order 1091567616 1091567616 != some .eq) = false := by decide +kernel
  simp [binOp, Op.floatCmp, h]
/-- A list of float32 that the call itself made. -/
def FG (w : World) (B : Nat) (a : Option Addr) (len : Nat) (zs : List Int) : Prop :=
  0 < len → ∃ g, a = some ⟨g, 0, none⟩ ∧ B ≤ g ∧ g < w.heap.size ∧ ∀ j, j < len → w.cell? ⟨g, j, none⟩ = some (.float .f32 (zs.getD j 0).toNat)
theorem fg_own {w : World} {B len : Nat} {zs : List Int} {v : Value} (hl : len ≤ zs.length) (h : w.ownsRow B 42 1 v len (fvals zs len)) : ∃ a cap, v = .slice a len cap ∧ len ≤ cap ∧ FG w B a len zs := by
  by_cases hp : 0 < len
  · have h' : w.ownsRow B 42 1 v (len + ([] : List Value).length) (fvals zs len ++ []) := by simpa using h
    obtain ⟨g, cap, hv, h1, h2, h3, h4, h5, h6⟩ := own_cells (fvals_len zs len hl) h' (by simpa using hp)
    refine ⟨_, cap, by simpa using hv, by simpa using h3, fun _ => ⟨g, rfl, h1, h2, fun j hj => ?_⟩⟩
    rw [h5 j (by simpa using hj), fvals_get zs len j _ hl hj]
  · obtain ⟨h1, h2⟩ := h
    rcases h2 with ⟨rfl, h0⟩ | ⟨g, cap, cur, rfl, hb, hh, hn, r⟩
    · exact ⟨none, 0, by rw [show len = 0 from by omega], by omega, fun h => absurd h hp⟩
    · exact ⟨_, cap, rfl, hn, fun h => absurd h hp⟩
theorem FG.on {w w' : World} {B len : Nat} {a : Option Addr} {zs : List Int} (h : FG w B a len zs) (hb : Below w.heap.size w w') : FG w' B a len zs := fun h0 => by
  obtain ⟨g, e, h1, h2, h3⟩ := h h0
  exact ⟨g, e, h1, Nat.lt_of_lt_of_le h2 hb.size, fun j hj => (hb.cell (p := ⟨g, j, none⟩) h2).trans (h3 j hj)⟩
theorem infoU : (Tryd.prog.info? 29).map (fun i => (i.zero, i.size, i.bytes)) = some (some (.int .u32 0), 1, 4) := by kernel_rfl
/-- The list the other way round. -/
def rv (zs : List Int) (len : Nat) : List Int := (zs.take len).reverse
theorem rv_len (zs : List Int) (len : Nat) (h : len ≤ zs.length) : (rv zs len).length = len := by simp [rv]; omega
theorem rv_get (zs : List Int) (len i : Nat) (h : len ≤ zs.length) (hi : i < len) : (rv zs len).getD i 0 = zs.getD (len - 1 - i) 0 := by
  unfold rv
  rw [List.getD_eq_getElem?_getD, List.getElem?_reverse (by simp; omega), List.getD_eq_getElem?_getD]
  rw [List.getElem?_take_of_lt (by simp; omega)]
  congr 2
  simp; omega
def uvals (zs : List Int) (k : Nat) : List Value := (zs.take k).map (Value.int .u32)
theorem uvals_succ (zs : List Int) (k : Nat) (h : k < zs.length) : uvals zs (k + 1) = uvals zs k ++ [.int .u32 (zs.getD k 0)] := by
  unfold uvals
  rw [List.take_succ_eq_append_getElem h, List.map_append]
  simp [List.getD_eq_getElem?_getD, h]
theorem uvals_len (zs : List Int) (k : Nat) (h : k ≤ zs.length) : (uvals zs k).length = k := by simp [uvals]; omega
theorem uvals_get (zs : List Int) (k i : Nat) (hk : k ≤ zs.length) (hi : i < k) : (uvals zs k)[i]? = some (.int .u32 (zs.getD i 0)) := by
  unfold uvals
  rw [List.getElem?_map, List.getElem?_take_of_lt hi, List.getD_eq_getElem?_getD, List.getElem?_eq_getElem (by omega)]
  rfl
/-- What stands behind j rounds of the list's turning. -/
def L2 (w wr : World) (B g ga gb len j : Nat) (ag : Option Addr) (zs : List Int) (bv : Value) (N : Int) : Prop :=
  (Below w.heap.size w wr ∧ w.heap.size ≤ B ∧ B ≤ wr.heap.size ∧ g < B ∧ ga < B ∧ gb < B ∧ w.heap.size ≤ g) ∧
  (∀ i, i < len → wr.cell? ⟨g, i, none⟩ = some (.float .f32 (if i < j then (rv zs len).getD i 0 else zs.getD i 0).toNat)) ∧ (∀ i, wr.frozen? ⟨g, i, none⟩ = false) ∧
  (0 < len → ∃ g2, ag = some ⟨g2, 0, none⟩ ∧ g2 < B ∧ g2 ≠ g ∧ ∀ i, i < len → wr.cell? ⟨g2, i, none⟩ = some (.float .f32 (zs.getD i 0).toNat)) ∧
  wr.heap[ga]? = some (.cells (sm N) 26 (0, 0)) ∧ wr.heap[gb]? = some (.cells (sm N) 27 (0, 0)) ∧ ga ≠ g ∧ gb ≠ g ∧ ga ≠ gb ∧
  wr.ownsRow B 29 1 bv j (uvals (rv zs len) j)
theorem grown_set (w : World) (g j : Nat) (v : Value) : w.grownBy (w.setCell ⟨g, j, none⟩ v) (some g) :=
  ⟨rfl, rfl, rfl, by simp, fun k hk hne => Go.Deep.blk_setCell_other _ _ _ _ (fun e => hne (by rw [e]))⟩
theorem l2_step {w wr w1 : World} {B g ga gb len j : Nat} {ag : Option Addr} {zs : List Int} {bv bv' : Value} {N : Int} {o : Obj} (h : L2 w wr B g ga gb len j ag zs bv N) (hj : j < len) (hl : len ≤ zs.length)
    (hgrow : ((wr.setCell ⟨g, j, none⟩ (.float .f32 ((rv zs len).getD j 0).toNat)).alloc o).grownBy w1 bv.ownBlock) (hown : w1.ownsRow B 29 1 bv' (j + 1) (uvals (rv zs len) j ++ [.int .u32 ((rv zs len).getD j 0)])) :
    L2 w w1 B g ga gb len (j + 1) ag zs bv' N := by
  obtain ⟨⟨b1, b2, b3, b4, b5, b6, b7⟩, c1, c2, c3, c4, c5, n1, n2, n3, c6⟩ := h
  have hlt : ∀ k, bv.ownBlock = some k → B ≤ k := fun k hk => (c6.lt k hk).1
  have hS : Below B (wr.setCell ⟨g, j, none⟩ (.float .f32 ((rv zs len).getD j 0).toNat)) w1 := ((Below.refl _ _).alloc (by simpa using b3) o).grown hgrow (by simp; omega) hlt
  have hsz : wr.heap.size ≤ w1.heap.size := by have := hS.size; simpa using this
  have hblk : ∀ k, k < B → k ≠ g → w1.heap[k]? = wr.heap[k]? := fun k hk hne => by rw [hS.block k hk]; exact Go.Deep.blk_setCell_other _ _ _ _ hne
  have hBw : Below w.heap.size w w1 := (b1.setCell (show w.heap.size ≤ (⟨g, j, none⟩ : Addr).block from b7) _).trans (hS.mono b2)
  refine ⟨⟨hBw, b2, by omega, b4, b5, b6, b7⟩, fun i hi => ?_, fun i => ?_, fun h0 => ?_, by rw [hblk ga b5 n1]; exact c4, by rw [hblk gb b6 n2]; exact c5, n1, n2, n3, ?_⟩
  · rw [hS.cell (p := ⟨g, i, none⟩) b4]
    by_cases e : i = j
    · subst e
      rw [if_pos (by omega)]
      exact World.cell?_setCell_same _ _ _ (by rw [c1 i hi])
    · rw [World.cell?_setCell_other _ _ _ _ (fun e2 => e (by simpa using congrArg Addr.off e2.symm)), c1 i hi]
      by_cases h1 : i < j
      · rw [if_pos h1, if_pos (by omega)]
      · rw [if_neg h1, if_neg (by omega)]
  · rw [hS.frozen (p := ⟨g, i, none⟩) b4]
    simpa using c2 i
  · obtain ⟨g2, e, h2, h3, h4⟩ := c3 h0
    exact ⟨g2, e, h2, h3, fun i hi => by rw [World.cell?_of_block (w := wr) (a := ⟨g2, i, none⟩) (hblk g2 h2 h3)]; exact h4 i hi⟩
  · rw [uvals_succ _ _ (by rw [rv_len zs len hl]; exact hj)]; exact hown
/-- The turned list with its first sign turned. -/
def ys (zs : List Int) (len : Nat) : List Int := (rv zs len).set 0 (bits .xor .u32 ((rv zs len).getD 0 0) 2147483648)
theorem ys_len (zs : List Int) (len : Nat) (h : len ≤ zs.length) : (ys zs len).length = len := by unfold ys; rw [List.length_set, rv_len zs len h]
theorem ys_get (zs : List Int) (len i : Nat) (h : len ≤ zs.length) (hi : i < len) : (ys zs len).getD i 0 = if i = 0 then bits .xor .u32 ((rv zs len).getD 0 0) 2147483648 else (rv zs len).getD i 0 := by
  unfold ys
  by_cases e : i = 0
  · subst e
    rw [if_pos rfl, List.getD_eq_getElem?_getD, List.getElem?_set_self (by rw [rv_len zs len h]; exact hi)]; rfl
  · rw [if_neg e, List.getD_eq_getElem?_getD, List.getElem?_set_ne (by omega), List.getD_eq_getElem?_getD]
theorem xor_b (x y : Int) (hx : 0 ≤ x ∧ x < 4294967296) (hy : 0 ≤ y ∧ y < 4294967296) : 0 ≤ bits .xor .u32 x y ∧ bits .xor .u32 x y < 4294967296 := by
  rw [u32_xor x y hx.1 hx.2 hy.1 hy.2]
  have h : x.toNat ^^^ y.toNat < 2 ^ 32 := Nat.xor_lt_two_pow (by omega) (by omega)
  omega
theorem ys_b (zs : List Int) (len : Nat) (h : len ≤ zs.length) (hz : ∀ i, i < len → 0 ≤ zs.getD i 0 ∧ zs.getD i 0 < 4294967296) : ∀ i, i < len → 0 ≤ (ys zs len).getD i 0 ∧ (ys zs len).getD i 0 < 4294967296 := by
  intro i hi
  have hrv : ∀ k, k < len → 0 ≤ (rv zs len).getD k 0 ∧ (rv zs len).getD k 0 < 4294967296 := fun k hk => by rw [rv_get zs len k h hk]; exact hz _ (by omega)
  rw [ys_get zs len i h hi]
  split
  · exact xor_b _ _ (hrv 0 (by omega)) ⟨by decide, by decide⟩
  · exact hrv i hi
theorem URow.blocks {w w' : World} {g : Nat} {len : Nat} {zs : List Int} (h : URow w (some ⟨g, 0, none⟩) len zs) (hb : w'.heap[g]? = w.heap[g]?) (hs : w.heap.size ≤ w'.heap.size) : URow w' (some ⟨g, 0, none⟩) len zs := by
  obtain ⟨h1, h2, h3⟩ := h
  refine ⟨h1, fun h0 => ?_, h3⟩
  obtain ⟨x, e, hx, hc⟩ := h2 h0
  obtain rfl : x = ⟨g, 0, none⟩ := (Option.some.inj e).symm
  exact ⟨_, rfl, Nat.lt_of_lt_of_le hx hs, fun i hi => by rw [World.cell?_of_block (w := w) (a := (⟨g, 0, none⟩ : Addr).add i) (by rw [add0]; exact hb)]; exact hc i hi⟩
/-- The end: both lists turned, in a world W that is as wr but for their first cells. -/
theorem l2_fin {w wr : World} {B g ga gb gq len capq : Nat} {ag : Option Addr} {zs : List Int} {N : Int} (h : L2 w wr B g ga gb len len ag zs (.slice (some ⟨gq, 0, none⟩) len capq) N) (hp : 0 < len) (hl : len ≤ zs.length) (hl2 : len ≤ 9223372036854775807)
    (hz : ∀ i, i < len → 0 ≤ zs.getD i 0 ∧ zs.getD i 0 < 4294967296) (m n : Nat) :
    ∃ W, ((((wr.drewN m).setCell ⟨g, 0, none⟩ (.float .f32 (bits .xor .u32 ((rv zs len).getD 0 0) 2147483648).toNat)).drewN n).setCell ⟨gq, 0, none⟩ (.int .u32 (bits .xor .u32 ((rv zs len).getD 0 0) 2147483648))) = W ∧ Below w.heap.size w W ∧ FRow W (some ⟨g, 0, none⟩) len (ys zs len) ∧ URow W (some ⟨gq, 0, none⟩) len (ys zs len) ∧
      W.heap[ga]? = some (.cells (sm N) 26 (0, 0)) ∧ W.heap[gb]? = some (.cells (sm N) 27 (0, 0)) ∧ ga < W.heap.size ∧ gb < W.heap.size := by
  obtain ⟨⟨b1, b2, b3, b4, b5, b6, b7⟩, c1, c2, c3, c4, c5, n1, n2, n3, c6⟩ := h
  have hq := c6.lt gq rfl
  have hcq : ∀ i, i < len → wr.cell? ⟨gq, i, none⟩ = some (.int .u32 ((rv zs len).getD i 0)) := fun i hi => by
    rw [c6.cellAt i (by omega)]; exact uvals_get _ _ _ (by rw [rv_len zs len hl]; omega) hi
  have hgq : gq ≠ g := by omega
  have hsz : wr.heap.size = ((((wr.drewN m).setCell ⟨g, 0, none⟩ (.float .f32 (bits .xor .u32 ((rv zs len).getD 0 0) 2147483648).toNat)).drewN n).setCell ⟨gq, 0, none⟩ (.int .u32 (bits .xor .u32 ((rv zs len).getD 0 0) 2147483648))).heap.size := by simp
  have hoth : ∀ k, k ≠ g → k ≠ gq → ((((wr.drewN m).setCell ⟨g, 0, none⟩ (.float .f32 (bits .xor .u32 ((rv zs len).getD 0 0) 2147483648).toNat)).drewN n).setCell ⟨gq, 0, none⟩ (.int .u32 (bits .xor .u32 ((rv zs len).getD 0 0) 2147483648))).heap[k]? = wr.heap[k]? := fun k h1 h2 => by
    rw [Go.Deep.blk_setCell_other _ _ _ _ h2]
    show ((wr.drewN m).setCell _ _).heap[k]? = _
    rw [Go.Deep.blk_setCell_other _ _ _ _ h1]; rfl
  refine ⟨_, rfl, ?_, ⟨⟨by rw [ys_len zs len hl]; exact Nat.le_refl _, hl2⟩, fun _ => ⟨_, rfl, (show g < _ from by omega), fun i hi => ?_⟩, ys_b zs len hl hz⟩, ⟨⟨by rw [ys_len zs len hl]; exact Nat.le_refl _, hl2⟩, fun _ => ⟨_, rfl, (show gq < _ from by omega), fun i hi => ?_⟩, ys_b zs len hl hz⟩, by rw [hoth ga n1 (by omega)]; exact c4, by rw [hoth gb n2 (by omega)]; exact c5, by omega, by omega⟩
  · exact (below_drewN ((below_drewN b1 m).setCell (show w.heap.size ≤ (⟨g, 0, none⟩ : Addr).block from b7) _) n).setCell (show w.heap.size ≤ (⟨gq, 0, none⟩ : Addr).block from by show w.heap.size ≤ gq; omega) _
  · rw [add0, World.cell?_setCell_far _ _ _ _ hgq, World.cell?_drewN, ys_get zs len i hl hi]
    by_cases e : i = 0
    · subst e
      rw [if_pos rfl]
      exact World.cell?_setCell_same _ _ _ (by rw [World.cell?_drewN, c1 0 hp])
    · rw [if_neg e, World.cell?_setCell_other _ _ _ _ (fun e2 => e (by simpa using congrArg Addr.off e2.symm)), World.cell?_drewN, c1 i hi, if_pos hi]
  · rw [add0, ys_get zs len i hl hi]
    by_cases e : i = 0
    · subst e
      rw [if_pos rfl]
      refine World.cell?_setCell_same _ _ _ (u := .int .u32 ((rv zs len).getD 0 0)) ?_
      rw [World.cell?_drewN, World.cell?_setCell_far _ _ _ _ (show g ≠ gq from fun e => hgq e.symm), World.cell?_drewN, hcq 0 hp]
    · rw [if_neg e, World.cell?_setCell_other _ _ _ _ (fun e2 => e (by simpa using congrArg Addr.off e2.symm)), World.cell?_drewN, World.cell?_setCell_far _ _ _ _ (show g ≠ gq from fun e => hgq e.symm), World.cell?_drewN, hcq i hi]
end Ty
end Go.Proofs.YtbnmjmlcedkoaaaDoor
