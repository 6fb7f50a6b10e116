import Derived.Test.YtcolkfoodjpdjaaRaI
import Derived.RangeFuncNested
import Derived.RangeFuncBound
import Derived.RangeFuncCalls
import Derived.RangeFuncLeaves
import Derived.Shelf.Abstract
import Derived.Shelf.RegionOpen
import Derived.OwnWalkIn
import Derived.TacticsInMore
import Derived.LoopNIn
import Derived.LoopIn
namespace Go.Proofs.Ytcolkfoodjpdjaa
namespace Ra
open Go.RowKit Go.Shelf
set_option linter.unusedVariables false
attribute [local go_sem] Oper.semAt_some
/-- Block g lies as it lay. -/
def Kg (g : Nat) (W W' : World) : Prop := W'.heap[g]? = W.heap[g]?
theorem Kg.t {g : Nat} {A B C : World} (h : Kg g A B) (k : Kg g B C) : Kg g A C := Eq.trans k h
theorem Kg.b {g : Nat} {w : World} (hg : g < w.heap.size) (W : World) (l : Nat) (o o' : Obj) (hl : w.heap.size ≤ l) (_ : W.heap[l]? = some o) (_ : o.isCells = false) (_ : o.isWalk = false) : Kg g W (W.putObj l o') := World.putObj_heap_other (by omega)
theorem Kg.below {g : Nat} {W W' : World} (h : Below W.heap.size W W') (hg : g < W.heap.size) : Kg g W W' := h.block g hg
theorem Kg.lt {g : Nat} {W W' : World} (h : Kg g W W') (hg : g < W.heap.size) : g < W'.heap.size := by
  have e : W'.heap[g]? = some W.heap[g] := Eq.trans h (Array.getElem?_eq_getElem hg)
  exact (Array.getElem?_eq_some_iff.1 e).1
abbrev enc (x : En) : Array Value := #[.string x.1, .string x.2]
set_option maxRecDepth 100000 in
set_option maxHeartbeats 2000000 in
/-- The closure that All answers, over whatever loop. -/
theorem all1_in (F : Fence) (n : Nat) (hf : F.fn 14) (hro : F.round = none) (hn : 1 ≤ n) (l Bs g cap : Nat) (L : List En) (hlen : L.length ≤ 100000) (J Jx : List En → World → Prop) (W : World) (hJ : AbidesFrom W.heap.size J)
    (hY : ∀ pre x W, J pre W → pre.length < L.length → YieldAt F (n - 1) Try.prog l #[.string x.1, .string x.2] W fun e W' =>
      (e = .returned (.bool true) ∧ J (pre ++ [x]) W' ∧ Kg g W W') ∨ (e = .returned (.bool false) ∧ Jx (pre ++ [x]) W'))
    (hBs : W.cell? ⟨Bs, 0, none⟩ = some (.slice (some ⟨g, 0, none⟩) L.length cap)) (hg : g < W.heap.size)
    (hc : ∀ j e, L[j]? = some e → W.cell? ⟨g, j * 2, none⟩ = some (.string e.1) ∧ W.cell? ⟨g, j * 2 + 1, none⟩ = some (.string e.2)) (h0 : J [] W) :
    CallsIn F n Try.prog 14 #[.func (.yield l) #[] #[], .pointer (some ⟨Bs, 0, none⟩)] W fun e W' => (∃ v, e = .returned v) ∧
      ((∃ ys, ys = L ∧ J ys W') ∨ (∃ pre, pre <+: L ∧ Jx pre W')) := by
  refine callsIn_of_wp Try.func14 rfl hf ?_ hro
  simp only [Try.ntmps14, List.size_toArray, List.length_cons, List.length_nil, Nat.reduceAdd, Nat.reduceSub, Array.replicate_succ, Array.replicate_zero, List.push_toArray, List.append_toArray, List.nil_append, List.cons_append]
  gi_wp2
  gi_loopw [7] (fun i wr => ∃ k : Nat, k ≤ L.length ∧ i = .int .i64 k ∧ J (L.take k) wr ∧ Kg g W wr ∧ g < wr.heap.size)
    (fun i _ => L.length - (intOf i).toNat)
  case atStart => exact ⟨0, Nat.zero_le _, rfl, by simpa using h0, rfl, hg⟩
  case round =>
    obtain ⟨k, hk, rfl, hJs, hnx, hgr⟩ := hrel
    by_cases hlt : k < L.length
    · obtain ⟨e, he⟩ : ∃ e, L[k]? = some e := ⟨L[k], List.getElem?_eq_getElem hlt⟩
      have hc0 : wr.cell? ⟨g, k * 2, none⟩ = some (.string e.1) := (World.cell?_of_block (a := ⟨g, k * 2, none⟩) hnx).trans (hc k e he).1
      have hc1 : wr.cell? ⟨g, k * 2 + 1, none⟩ = some (.string e.2) := (World.cell?_of_block (a := ⟨g, k * 2 + 1, none⟩) hnx).trans (hc k e he).2
      have hJ1 : J (L.take k) (wr.alloc (.cells #[.string e.1, .string e.2] 31)) := hJ _ _ _ none hJs (World.grownBy_alloc wr _ none) (fun r h => by cases h)
      obtain ⟨fn, tmps, assign, body, hy, hR⟩ := hY _ e _ hJ1 (by rw [List.length_take]; omega)
      have HC : Hid (∀ j e, L[j]? = some e → W.cell? ⟨g, j * 2, none⟩ = some (.string e.1) ∧ W.cell? ⟨g, j * 2 + 1, none⟩ = some (.string e.2)) := hc
      clear hc
      gi_wp2
      refine hR.mono ?_
      rintro e9 W3 (⟨rfl, hJ3, hk3⟩ | ⟨rfl, hJx3⟩)
      · have hk4 : Kg g wr W3 := Eq.trans hk3 (Below.heap_alloc wr _ g hgr)
        have HT : Hid (J (L.take (k + 1)) W3) := by
          rw [List.take_add_one, he]; exact hJ3
        clear hJ3 hc0 hc1 hR hy
        gi_wp2
        go_roundw
        case rel => exact ⟨k + 1, by omega, by go_num, HT.out, hnx.t hk4, hk4.lt hgr⟩
        case measure => simp [intOf]; omega
      · have HT : Hid (Jx (L.take (k + 1)) W3) := by
          rw [List.take_add_one, he]; exact hJx3
        clear hJx3 hc0 hc1 hR hy
        gi_wp2
        refine bodyPost_ret (results_none rfl _ _ _) rfl ?_
        exact ⟨⟨_, rfl⟩, .inr ⟨L.take (k + 1), List.take_prefix _ _, HT.out⟩⟩
    · obtain rfl : k = L.length := by omega
      gi_wp2
      go_end0
      exact ⟨⟨_, rfl⟩, .inl ⟨_, rfl, by simpa using hJs⟩⟩
set_option maxRecDepth 100000 in
set_option maxHeartbeats 1000000 in
theorem all1_nil (F : Fence) (n : Nat) (hf : F.fn 14) (hro : F.round = none) (l Bs : Nat) (J : List En → World → Prop) (W : World) (hBs : W.cell? ⟨Bs, 0, none⟩ = some (.slice none 0 0)) (h0 : J [] W) :
    CallsIn F n Try.prog 14 #[.func (.yield l) #[] #[], .pointer (some ⟨Bs, 0, none⟩)] W fun e W' => (∃ v, e = .returned v) ∧ J [] W' := by
  refine callsIn_of_wp Try.func14 rfl hf ?_ hro
  simp only [Try.ntmps14, List.size_toArray, List.length_cons, List.length_nil, Nat.reduceAdd, Nat.reduceSub, Array.replicate_succ, Array.replicate_zero, List.push_toArray, List.append_toArray, List.nil_append, List.cons_append]
  gi_wp2
  gi_loopw [7] (fun i wr => i = .int .i64 0 ∧ J [] wr) (fun _ _ => 0)
  case atStart => exact ⟨rfl, h0⟩
  case round =>
    obtain ⟨rfl, hJs⟩ := hrel
    gi_wp2
    go_end0
    exact ⟨⟨_, rfl⟩, hJs⟩
theorem add0 (g i : Nat) : (⟨g, 0, none⟩ : Addr).add i = ⟨g, i, none⟩ := by
  unfold Addr.add
  split
  · simp_all
  · simp
/-- The block of a slice, if any. -/
def gOf : Value → Nat
  | .slice (some a) _ _ => a.block
  | _ => 0
theorem LR.get {w : World} {B g c m : Nat} {L : List En} (h : LR w B (.slice (some ⟨g, 0, none⟩) m c) L) : m = L.length ∧ g < w.heap.size ∧ B ≤ g ∧ ∀ j e, L[j]? = some e → w.cell? ⟨g, j * 2, none⟩ = some (.string e.1) ∧ w.cell? ⟨g, j * 2 + 1, none⟩ = some (.string e.2) := by
  have hlt := h.lt g rfl
  have hc := World.ownsRow.cells h (g := g) rfl
  have hm : m = L.length := by
    rcases h.2 with ⟨e, _⟩ | ⟨g', cap', cur, e, _⟩
    · cases e
    · cases e; rfl
  refine ⟨hm, hlt.2, hlt.1, fun j e he => ?_⟩
  obtain ⟨a, b⟩ := lc_get L j e he
  have a' := hc _ _ a
  have b' := hc _ _ b
  rw [add0] at a' b'
  exact ⟨a', b'⟩
/-- All answers a value that tells L. -/
theorem all_stops (F : Fence) (n : Nat) (hf : F.fn 14) (hro : F.round = none) (hn : 1 ≤ n) (Bs B : Nat) (v : Value) (L : List En) (hlen : L.length ≤ 100000) (w : World) (hb : Boxed w Bs 25 v) (hL : LR w B v L) :
    SeqStopsK F n Try.prog 14 #[.pointer (some ⟨Bs, 0, none⟩)] enc (Kg (gOf v)) (fun ys => ys = L) (fun pre => pre <+: L) L.length w := fun l J Jx W hW hJ _ hY h0 => by
  have hb' : W.cell? ⟨Bs, 0, none⟩ = some v := (hW.cell (p := ⟨Bs, 0, none⟩) hb.lt).trans hb.cell
  rcases hL.2 with ⟨rfl, hl⟩ | ⟨g, cap, cur, rfl, _⟩
  · obtain rfl : L = [] := List.length_eq_zero_iff.1 hl
    exact (all1_nil F n hf hro l Bs J W hb' h0).mono fun e W' ⟨he, hj⟩ => ⟨he, .inl ⟨_, rfl, hj⟩⟩
  · obtain ⟨_, hg, _, hc⟩ := hL.get
    exact all1_in F n hf hro hn l Bs g cap L hlen J Jx W hJ hY hb' (Nat.lt_of_lt_of_le hg hW.size) (fun j e he => ⟨(hW.cell (p := ⟨g, j * 2, none⟩) hg).trans (hc j e he).1, (hW.cell (p := ⟨g, j * 2 + 1, none⟩) hg).trans (hc j e he).2⟩) h0
end Ra
end Go.Proofs.Ytcolkfoodjpdjaa
