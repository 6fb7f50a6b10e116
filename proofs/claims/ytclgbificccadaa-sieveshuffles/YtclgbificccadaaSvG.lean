import Derived.Test.YtclgbificccadaaSvF
import Derived.RangeFuncNested
import Derived.RangeFuncBound
import Derived.RangeFuncCalls
import Derived.RangeFuncLeaves
import Derived.Shelf.Abstract
import Derived.Shelf.RegionOpen
import Derived.OwnWalkIn
import Derived.TacticsInMore
import Derived.LoopNIn
import Derived.LoopIn
namespace Go.Proofs.Ytclgbificccadaa
namespace Sv
open Go.RowKit Go.Shelf
set_option linter.unusedVariables false
attribute [local go_sem] Oper.semAt_some
/-- Two blocks lie as they lay. -/
def Kk (g b : Nat) (W W' : World) : Prop := W'.heap[g]? = W.heap[g]? ∧ W'.heap[b]? = W.heap[b]?
theorem Kk.t {g b : Nat} {A B C : World} (h : Kk g b A B) (k : Kk g b B C) : Kk g b A C := ⟨Eq.trans k.1 h.1, Eq.trans k.2 h.2⟩
theorem Kk.b {g b : Nat} {w : World} (hg : g < w.heap.size) (hb : b < w.heap.size) (W : World) (l : Nat) (o o' : Obj) (hl : w.heap.size ≤ l) (_ : W.heap[l]? = some o) (_ : o.isCells = false) (_ : o.isWalk = false) : Kk g b W (W.putObj l o') := ⟨World.putObj_heap_other (by omega), World.putObj_heap_other (by omega)⟩
theorem Kk.below {g b : Nat} {W W' : World} (h : Below W.heap.size W W') (hg : g < W.heap.size) (hb : b < W.heap.size) : Kk g b W W' := ⟨h.block g hg, h.block b hb⟩
theorem same_lt {g : Nat} {W W' : World} (h : W'.heap[g]? = W.heap[g]?) (hg : g < W.heap.size) : g < W'.heap.size := by
  have e : W'.heap[g]? = some W.heap[g] := Eq.trans h (Array.getElem?_eq_getElem hg)
  exact (Array.getElem?_eq_some_iff.1 e).1
/-- What an iterator tells at once: an edge, and an error. -/
abbrev Tl := T3 × Int
abbrev encT (x : Tl) : Array Value := #[eV x.1.1 x.1.2.1 x.1.2.2, .int .i64 x.2]
/-- What Feed's iterator tells. -/
def Ms (L : List T3) (f : Int) : List Tl := L.map (fun x => (x, 0)) ++ if f = 0 then [] else [((0, 0, 0), f)]
theorem Ms_take (L : List T3) (f : Int) (k : Nat) (hk : k ≤ L.length) : (Ms L f).take k = (L.take k).map fun x => (x, 0) := by
  unfold Ms
  rw [List.take_append_of_le_length (by simpa using hk), List.map_take]
theorem Ms_step (L : List T3) (f : Int) (k : Nat) (e : T3) (h : L[k]? = some e) : (Ms L f).take (k + 1) = (Ms L f).take k ++ [(e, 0)] := by
  have hk := (List.getElem?_eq_some_iff.1 h).1
  rw [Ms_take _ _ _ (by omega), Ms_take _ _ _ (by omega), List.take_add_one, h]
  simp
theorem Ms_len (L : List T3) (f : Int) : (Ms L f).length = L.length + if f = 0 then 0 else 1 := by
  unfold Ms; rw [List.length_append, List.length_map]; split <;> rfl
theorem Ms_zero (L : List T3) : (Ms L 0).take L.length = Ms L 0 := by
  rw [Ms_take _ _ _ (Nat.le_refl _)]; simp [Ms]
theorem Ms_last (L : List T3) (f : Int) (h : f ≠ 0) : Ms L f = (Ms L f).take L.length ++ [((0, 0, 0), f)] := by
  rw [Ms_take _ _ _ (Nat.le_refl _)]; simp [Ms, h]
set_option maxRecDepth 100000 in
set_option maxHeartbeats 2000000 in
/-- The closure that Feed answers, over whatever loop. -/
theorem feed1_in (F : Fence) (n : Nat) (hf : F.fn 30) (hro : F.round = none) (hn : 1 ≤ n) (l Bt Bf g cap : Nat) (L : List T3) (f : Int) (hlen : L.length ≤ 140737488351232) (hcap : L.length ≤ cap) (J Jx : List Tl → World → Prop) (W : World) (hJ : AbidesFrom W.heap.size J)
    (hY : ∀ pre x W, J pre W → pre.length < (Ms L f).length → YieldAt F (n - 1) Try.prog l #[eV x.1.1 x.1.2.1 x.1.2.2, .int .i64 x.2] W fun e W' =>
      (e = .returned (.bool true) ∧ J (pre ++ [x]) W' ∧ Kk g Bf W W') ∨ (e = .returned (.bool false) ∧ Jx (pre ++ [x]) W'))
    (hBt : W.cell? ⟨Bt, 0, none⟩ = some (.slice (some ⟨g, 0, none⟩) L.length cap)) (hBf : W.cell? ⟨Bf, 0, none⟩ = some (.int .i64 f)) (hg : g < W.heap.size) (hb : Bf < W.heap.size)
    (hc : At3 .u32 W ⟨g, 0, none⟩ L) (h0 : J [] W) :
    CallsIn F n Try.prog 30 #[.func (.yield l) #[] #[], .pointer (some ⟨Bt, 0, none⟩), .pointer (some ⟨Bf, 0, none⟩)] W fun e W' => (∃ v, e = .returned v) ∧
      ((∃ ys, ys = Ms L f ∧ J ys W') ∨ (∃ pre, pre <+: Ms L f ∧ Jx pre W')) := by
  refine callsIn_of_wp Try.func30 rfl hf ?_ hro
  simp only [Try.ntmps30, List.size_toArray, List.length_cons, List.length_nil, Nat.reduceAdd, Nat.reduceSub, Array.replicate_succ, Array.replicate_zero, List.push_toArray, List.append_toArray, List.nil_append, List.cons_append]
  gi_wp2
  gi_loopw [8] (fun i wr => ∃ k : Nat, k ≤ L.length ∧ i = .int .i64 k ∧ J ((Ms L f).take k) wr ∧ Kk g Bf W wr ∧ g < wr.heap.size ∧ Bf < wr.heap.size)
    (fun i _ => L.length - (intOf i).toNat)
  case atStart => exact ⟨0, Nat.zero_le _, rfl, by simpa using h0, ⟨rfl, rfl⟩, hg, hb⟩
  case round =>
    obtain ⟨k, hk, rfl, hJs, hnx, hgr, hbr⟩ := hrel
    by_cases hlt : k < L.length
    · obtain ⟨e, he⟩ : ∃ e, L[k]? = some e := ⟨L[k], List.getElem?_eq_getElem hlt⟩
      obtain ⟨c0, c1, c2⟩ := hc.2 k e he
      rw [add0] at c0 c1 c2
      have hc0 : wr.cell? ⟨g, k * 3, none⟩ = some (.int .u32 e.1) := (World.cell?_of_block (a := ⟨g, k * 3, none⟩) hnx.1).trans c0
      have hc1 : wr.cell? ⟨g, k * 3 + 1, none⟩ = some (.int .u32 e.2.1) := (World.cell?_of_block (a := ⟨g, k * 3 + 1, none⟩) hnx.1).trans c1
      have hc2 : wr.cell? ⟨g, k * 3 + 2, none⟩ = some (.int .u32 e.2.2) := (World.cell?_of_block (a := ⟨g, k * 3 + 2, none⟩) hnx.1).trans c2
      have hJ1 : J ((Ms L f).take k) (wr.alloc (.cells #[.int .u32 e.1, .int .u32 e.2.1, .int .u32 e.2.2] 29)) := hJ _ _ _ none hJs (World.grownBy_alloc wr _ none) (fun r h => by cases h)
      obtain ⟨fn, tmps, assign, body, hy, hR⟩ := hY _ (e, 0) _ hJ1 (by rw [List.length_take, Ms_len]; split <;> omega)
      have HC : Hid (At3 .u32 W ⟨g, 0, none⟩ L) := hc
      clear hc c0 c1 c2 hY
      gi_wp2
      refine hR.mono ?_
      rintro e9 W3 (⟨rfl, hJ3, hk3⟩ | ⟨rfl, hJx3⟩)
      · have hk4 : Kk g Bf wr W3 := ⟨Eq.trans hk3.1 (Below.heap_alloc wr _ g hgr), Eq.trans hk3.2 (Below.heap_alloc wr _ Bf hbr)⟩
        have HT : Hid (J ((Ms L f).take (k + 1)) W3) := by
          rw [Ms_step L f k e he]; exact hJ3
        clear hJ3 hc0 hc1 hc2 hR hy
        gi_wp2
        go_roundw
        case rel => exact ⟨k + 1, by omega, by go_num, HT.out, hnx.t hk4, same_lt hk4.1 hgr, same_lt hk4.2 hbr⟩
        case measure => simp [intOf]; omega
      · have HT : Hid (Jx ((Ms L f).take (k + 1)) W3) := by
          rw [Ms_step L f k e he]; exact hJx3
        clear hJx3 hc0 hc1 hc2 hR hy
        gi_wp2
        refine bodyPost_ret (results_none rfl _ _ _) rfl ?_
        exact ⟨⟨_, rfl⟩, .inr ⟨(Ms L f).take (k + 1), List.take_prefix _ _, HT.out⟩⟩
    · obtain rfl : k = L.length := by omega
      have hcf : wr.cell? ⟨Bf, 0, none⟩ = some (.int .i64 f) := (World.cell?_of_block (a := ⟨Bf, 0, none⟩) hnx.2).trans hBf
      by_cases hf0 : f = 0
      · subst hf0
        have HJ : Hid (J (Ms L 0) wr) := by rw [← Ms_zero]; exact hJs
        clear hY hc hJs
        gi_wp2
        go_end0
        exact ⟨⟨_, rfl⟩, .inl ⟨_, rfl, HJ.out⟩⟩
      · have hf1 : (f != 0) = true := by simpa using hf0
        obtain ⟨fn, tmps, assign, body, hy, hR⟩ := hY _ ((0, 0, 0), f) _ hJs (by rw [List.length_take, Ms_len, if_neg hf0]; omega)
        rw [← Ms_last L f hf0] at hR
        clear hY hc
        gi_wp2
        refine hR.mono ?_
        rintro e9 W3 (⟨rfl, hJ3, hk3⟩ | ⟨rfl, hJx3⟩)
        · have HT : Hid (J (Ms L f) W3) := hJ3
          clear hJ3 hR hy
          gi_wp2
          go_end0
          exact ⟨⟨_, rfl⟩, .inl ⟨_, rfl, HT.out⟩⟩
        · have HT : Hid (Jx (Ms L f) W3) := hJx3
          clear hJx3 hR hy
          gi_wp2
          go_end0
          exact ⟨⟨_, rfl⟩, .inr ⟨_, List.prefix_refl _, HT.out⟩⟩
/-- What Feed answers tells the edges and the error behind. -/
theorem feed_stops (F : Fence) (n : Nat) (hf : F.fn 30) (hro : F.round = none) (hn : 1 ≤ n) (Bt Bf B g cap : Nat) (L : List T3) (f : Int) (hlen : L.length ≤ 140737488351232) (hcap : L.length ≤ cap) (w : World) (hb : Boxed w Bt 22 (.slice (some ⟨g, 0, none⟩) L.length cap)) (hbf : Boxed w Bf 23 (.int .i64 f)) (hL : At3 .u32 w ⟨g, 0, none⟩ L) :
    SeqStopsK F n Try.prog 30 #[.pointer (some ⟨Bt, 0, none⟩), .pointer (some ⟨Bf, 0, none⟩)] encT (Kk g Bf) (fun ys => ys = Ms L f) (fun pre => pre <+: Ms L f) (Ms L f).length w := fun l J Jx W hW hJ _ hY h0 => by
  have hb' : W.cell? ⟨Bt, 0, none⟩ = some (.slice (some ⟨g, 0, none⟩) L.length cap) := (hW.cell (p := ⟨Bt, 0, none⟩) hb.lt).trans hb.cell
  have hf' : W.cell? ⟨Bf, 0, none⟩ = some (.int .i64 f) := (hW.cell (p := ⟨Bf, 0, none⟩) hbf.lt).trans hbf.cell
  exact feed1_in F n hf hro hn l Bt Bf g cap L f hlen hcap J Jx W hJ hY hb' hf' (Nat.lt_of_lt_of_le hL.1 hW.size) (Nat.lt_of_lt_of_le hbf.lt hW.size)
    ⟨Nat.lt_of_lt_of_le hL.1 hW.size, fun i e he => ⟨(hW.cell (p := (⟨g, 0, none⟩ : Addr).add (i * 3)) (by rw [add_block]; exact hL.1)).trans (hL.2 i e he).1, (hW.cell (p := (⟨g, 0, none⟩ : Addr).add (i * 3 + 1)) (by rw [add_block]; exact hL.1)).trans (hL.2 i e he).2.1, (hW.cell (p := (⟨g, 0, none⟩ : Addr).add (i * 3 + 2)) (by rw [add_block]; exact hL.1)).trans (hL.2 i e he).2.2⟩⟩ h0
end Sv
end Go.Proofs.Ytclgbificccadaa
