import Derived.Test.YtcepfmeoeepjdaaRows
import Derived.WalkKit
import Derived.BigQuiet
import Derived.BigRegion
import Derived.Deep.QuietTactic
import Derived.Deep.RegionWith
import Derived.Deep.RegionHeld3
import Derived.Deep.RegionLaw
import Derived.WalkSmall
import Derived.WalkMore
import Derived.Handy
import Derived.Below
import Derived.OwnWalk
import Derived.Laws.CopyOwn
import Derived.Laws.EntriesVeiled
import Derived.Laws.AppendOwnNone
import Derived.Laws.AppendOwn
import Derived.Maps.AppendAt
import Derived.RangeFuncBox
import Derived.RangeFuncNested
import Derived.RangeFuncBound
import Derived.RangeFuncCalls
import Derived.RangeFuncLeaves
import Derived.Shelf.Abstract
import Derived.Shelf.RegionOpen
import Derived.OwnWalkIn
import Derived.TacticsInMore
import Derived.LoopNIn
import Derived.LoopIn
namespace Go.Proofs.Ytcepfmeoeepjdaa
namespace Au
open Go.RowKit
set_option linter.unusedVariables false
set_option maxRecDepth 8000
theorem ret_bool {a b : Bool} (h : a = b) : Ending.returned (.bool a) = .returned (.bool b) := by rw [h]
theorem b1 (w : World) (t : TypeId) (v : Array Value) : Below w.heap.size w (w.alloc (.cells v t)) := (Below.refl _ w).alloc (Nat.le_refl _) _
theorem belowN {B : Nat} {w w' : World} (h : Below B w w') (n : Nat) : Below B w (w'.drewN n) := ⟨h.os, h.tape, h.output, h.size, h.block⟩
theorem belowD {B : Nat} {w w' : World} (h : Below B w w') : Below B w w'.drew := ⟨h.os, h.tape, h.output, h.size, h.block⟩
theorem at0 (w : World) (o : Obj) : (w.alloc o).heap[w.heap.size]? = some o := by
  show (w.heap.push o)[w.heap.size]? = _; simp
theorem keep {w : World} {b : Nat} {x : Obj} (o : Obj) (h : w.heap[b]? = some x) : (w.alloc o).heap[b]? = some x := by
  have hb : b < w.heap.size := by
    rcases Nat.lt_or_ge b w.heap.size with k | k
    · exact k
    · rw [Array.getElem?_eq_none (by omega)] at h; cases h
  show (w.heap.push o)[b]? = _
  rw [Array.getElem?_push, if_neg (by omega)]; exact h
theorem keepD {w : World} {b : Nat} {x : Obj} (h : w.heap[b]? = some x) : w.drew.heap[b]? = some x := h
theorem hide {p : Prop} (h : p) : Hid p := h
theorem bA {B : Nat} {w w' : World} (h : Below B w w') (hB : B ≤ w'.heap.size) (o : Obj) : Below B w (w'.alloc o) := h.alloc hB o
abbrev sv (s : Nat → Int) : Array Value := #[.int .u64 (s 0), .int .u64 (s 1), .int .u64 (s 2), .int .u64 (s 3), .int .u64 (s 4), .int .u64 (s 5), .int .u64 (s 6), .int .u64 (s 7)]
theorem ret_int {k : IntKind} {a b : Int} (h : a = b) : Ending.returned (.int k a) = .returned (.int k b) := by rw [h]
theorem sv_get (s : Nat → Int) (i : Nat) (h : i < 8) : (sv s)[i]? = some (.int .u64 (s i)) := by
  match i, h with
  | 0, _ => rfl
  | 1, _ => rfl
  | 2, _ => rfl
  | 3, _ => rfl
  | 4, _ => rfl
  | 5, _ => rfl
  | 6, _ => rfl
  | 7, _ => rfl
abbrev z8 : Array Value := #[.int .u64 0, .int .u64 0, .int .u64 0, .int .u64 0, .int .u64 0, .int .u64 0, .int .u64 0, .int .u64 0]
theorem below_setRow {B b : Nat} {w wr : World} (h : Below B w wr) (hb : B ≤ b) (c : Array Value) : Below B w (wr.setRow b c) :=
  h.trans ⟨rfl, rfl, rfl, by simp, fun k hk => setRow_other wr _ k c (by omega)⟩
def up (s : Nat → Int) (j : Nat) (x : Int) : Nat → Int := fun i => if i = j then x else s i
theorem up_eq (s : Nat → Int) (j : Nat) (x : Int) : up s j x j = x := by simp [up]
theorem up_ne (s : Nat → Int) (j i : Nat) (x : Int) (h : i ≠ j) : up s j x i = s i := by simp [up, h]
theorem wu (x : Int) (h0 : 0 ≤ x) (h1 : x < 18446744073709551616) : IntKind.u64.wrap x = x := by simp only [IntKind.wrap, IntKind.signed, IntKind.bits]; simp; omega
theorem add_block (x : Addr) (i : Nat) : (x.add i).block = x.block := by unfold Addr.add; split <;> rfl
theorem add0 (g i : Nat) : (⟨g, 0, none⟩ : Addr).add i = ⟨g, i, none⟩ := by
  unfold Addr.add
  split
  · simp_all
  · simp
/-- Worlds alike but for the blocks of X, and what is new. -/
structure Ch (X : Nat → Prop) (w w' : World) : Prop where
  os : w'.os = w.os
  tape : w'.tape = w.tape
  output : w'.output = w.output
  size : w.heap.size ≤ w'.heap.size
  block : ∀ k, k < w.heap.size → ¬ X k → w'.heap[k]? = w.heap[k]?
theorem Ch.refl (X : Nat → Prop) (w : World) : Ch X w w := ⟨rfl, rfl, rfl, Nat.le_refl _, fun _ _ _ => rfl⟩
theorem Ch.trans {X : Nat → Prop} {w w1 w2 : World} (h : Ch X w w1) (h' : Ch X w1 w2) : Ch X w w2 :=
  ⟨h'.os.trans h.os, h'.tape.trans h.tape, h'.output.trans h.output, Nat.le_trans h.size h'.size, fun k hk ha => (h'.block k (Nat.lt_of_lt_of_le hk h.size) ha).trans (h.block k hk ha)⟩
theorem Ch.mono {X Y : Nat → Prop} {w w' : World} (h : Ch X w w') (hs : ∀ k, k < w.heap.size → X k → Y k) : Ch Y w w' := ⟨h.os, h.tape, h.output, h.size, fun k hk hy => h.block k hk (fun hx => hy (hs k hk hx))⟩
theorem Ch.of {X : Nat → Prop} {w w' : World} (h : Below w.heap.size w w') : Ch X w w' := ⟨h.os, h.tape, h.output, h.size, fun k hk _ => h.block k hk⟩
theorem Ch.below {X : Nat → Prop} {B : Nat} {w w' : World} (h : Ch X w w') (hX : ∀ k, k < B → ¬ X k) (hB : B ≤ w.heap.size) : Below B w w' := ⟨h.os, h.tape, h.output, h.size, fun k hk => h.block k (by omega) (hX k hk)⟩
theorem Ch.row {X : Nat → Prop} {g : Nat} {w w' : World} (h : Ch X w w') (c : Array Value) (hg : X g ∨ w.heap.size ≤ g) : Ch X w (w'.setRow g c) :=
  ⟨h.os, h.tape, h.output, by simp; exact h.size, fun k hk ha => (setRow_other w' _ k c (by intro e; subst e; rcases hg with h1 | h1 <;> first | exact ha h1 | omega)).trans (h.block k hk ha)⟩
theorem Ch.set {X : Nat → Prop} {g : Nat} {w w' : World} (h : Ch X w w') (j : Nat) (v : Value) (hg : X g ∨ w.heap.size ≤ g) : Ch X w (w'.setCell ⟨g, j, none⟩ v) := by
  have k := (Below.refl 0 w').setCell (p := ⟨g, j, none⟩) (Nat.zero_le _) v
  exact ⟨k.os.trans h.os, k.tape.trans h.tape, k.output.trans h.output, Nat.le_trans h.size k.size, fun i hi ha => (Below.heap_setCell _ _ _ i (by intro e; have e' : i = g := e; subst e'; rcases hg with h1 | h1 <;> first | exact ha h1 | omega)).trans (h.block i hi ha)⟩
theorem Ch.alloc {X : Nat → Prop} {w w' : World} (h : Ch X w w') (o : Obj) : Ch X w (w'.alloc o) := h.trans (Ch.of ((Below.refl _ w').alloc (Nat.le_refl _) o))
theorem Ch.drew {X : Nat → Prop} {w w' : World} (h : Ch X w w') : Ch X w w'.drew := ⟨h.os, h.tape, h.output, h.size, h.block⟩
theorem Ch.cell {X : Nat → Prop} {w w' : World} (h : Ch X w w') {p : Addr} (hp : p.block < w.heap.size) (hx : ¬ X p.block) : w'.cell? p = w.cell? p := World.cell?_of_block (h.block _ hp hx)
theorem same_lt {g : Nat} {W W' : World} (h : W'.heap[g]? = W.heap[g]?) (hg : g < W.heap.size) : g < W'.heap.size := by
  have e : W'.heap[g]? = some W.heap[g] := Eq.trans h (Array.getElem?_eq_getElem hg)
  exact (Array.getElem?_eq_some_iff.1 e).1
theorem lt_of_some {g : Nat} {W : World} {o : Obj} (h : W.heap[g]? = some o) : g < W.heap.size := (Array.getElem?_eq_some_iff.1 h).1
theorem grown_refl (w : World) (r : Option Nat) : w.grownBy w r := ⟨rfl, rfl, rfl, Nat.le_refl _, fun _ _ _ => rfl⟩
/-- A list of words as it lies. -/
def GU (w : World) (b n : Nat) (G : Nat → Int) : Prop := ∃ C : Array Value, w.heap[b]? = some (.cells C 28 (0, 0)) ∧ ∀ v, v < n → C[v]? = some (.int .u64 (G v))
theorem GU.lt {w : World} {b n : Nat} {G : Nat → Int} (h : GU w b n G) : b < w.heap.size := by
  obtain ⟨C, h, _⟩ := h
  exact (Array.getElem?_eq_some_iff.1 h).1
theorem GU.of {w w' : World} {b n : Nat} {G : Nat → Int} (h : GU w b n G) (e : w'.heap[b]? = w.heap[b]?) : GU w' b n G := by
  obtain ⟨C, h, h2⟩ := h
  exact ⟨C, e.trans h, h2⟩
theorem GU.on {w w' : World} {b n : Nat} {G : Nat → Int} (h : GU w b n G) (hb : Below w.heap.size w w') : GU w' b n G := h.of (hb.block b h.lt)
theorem GU.ext {w : World} {b n : Nat} {G H : Nat → Int} (h : GU w b n G) (e : ∀ v, v < n → G v = H v) : GU w b n H := by
  obtain ⟨C, h1, h2⟩ := h
  exact ⟨C, h1, fun v hv => by rw [← e v hv]; exact h2 v hv⟩
theorem GU.cell {w : World} {b n : Nat} {G : Nat → Int} (h : GU w b n G) (v : Nat) (hv : v < n) : w.cell? ⟨b, v, none⟩ = some (.int .u64 (G v)) := by
  obtain ⟨C, h, h2⟩ := h
  exact (cell_of_row w b _ _ 28 (0, 0) h).trans (h2 v hv)
theorem GU.fz {w : World} {b n : Nat} {G : Nat → Int} (h : GU w b n G) (j : Nat) : w.frozen? ⟨b, j, none⟩ = false := by
  obtain ⟨C, h, h2⟩ := h
  exact frozen_of_row w b _ _ 28 h
theorem GU.set {w : World} {b n : Nat} {G : Nat → Int} (h : GU w b n G) (j : Nat) (x : Int) : GU (w.setCell ⟨b, j, none⟩ (.int .u64 x)) b n (up G j x) ∧ ∃ C, w.setCell ⟨b, j, none⟩ (.int .u64 x) = w.setRow b C := by
  obtain ⟨C, h, h2⟩ := h
  rw [setCell_eq_setRow w b j C 28 (0, 0) _ h]
  refine ⟨⟨_, setRow_heap w b _ _ 28 (0, 0) h, fun v hv => ?_⟩, _, rfl⟩
  show _ = some (Value.int .u64 (if v = j then x else G v))
  rw [Array.getElem?_setIfInBounds]
  have hv2 := h2 v hv
  have := (Array.getElem?_eq_some_iff.1 hv2).1
  by_cases e : j = v
  · subst e; rw [if_pos rfl, if_pos this, if_pos rfl]
  · rw [if_neg e, if_neg (fun k => e k.symm)]; exact hv2
/-- A world's block g is row C. -/
theorem GU.setCell_ch {X : Nat → Prop} {w w0 : World} {b n : Nat} {G : Nat → Int} (h : GU w b n G) (hc : Ch X w0 w) (hx : X b ∨ w0.heap.size ≤ b) (j : Nat) (x : Int) : Ch X w0 (w.setCell ⟨b, j, none⟩ (.int .u64 x)) := hc.set j _ hx
end Au
end Go.Proofs.Ytcepfmeoeepjdaa
