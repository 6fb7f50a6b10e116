import Derived.Test.YtgoigcpdfecfhaaGreatDoorRows
import Derived.WalkKit
import Derived.BigQuiet
import Derived.BigRegion
import Derived.Deep.QuietTactic
import Derived.Deep.RegionWith
import Derived.Deep.RegionHeld3
import Derived.Deep.RegionLaw
import Derived.WalkSmall
import Derived.WalkMore
import Derived.Handy
import Derived.Below
import Derived.OwnWalk
import Derived.Laws.CopyOwn
import Derived.Laws.EntriesVeiled
import Derived.Laws.AppendOwnNone
import Derived.Laws.AppendOwn
import Derived.Maps.AppendAt
import Derived.RangeFuncBox
import Derived.RangeFuncNested
import Derived.RangeFuncBound
import Derived.RangeFuncCalls
import Derived.RangeFuncLeaves
import Derived.Shelf.Abstract
import Derived.Shelf.RegionOpen
import Derived.OwnWalkIn
import Derived.TacticsInMore
import Derived.LoopNIn
import Derived.LoopIn
namespace Go.Proofs.YtgoigcpdfecfhaaGreatDoor
namespace Au
open Go.RowKit
set_option linter.unusedVariables false
set_option maxRecDepth 8000
theorem ret_bool {a b : Bool} (h : a = b) : Ending.returned (.bool a) = .returned (.bool b) := by rw [h]
theorem b1 (w : World) (t : TypeId) (v : Array Value) : Below w.heap.size w (w.alloc (.cells v t)) := (Below.refl _ w).alloc (Nat.le_refl _) _
theorem belowN {B : Nat} {w w' : World} (h : Below B w w') (n : Nat) : Below B w (w'.drewN n) := ⟨h.os, h.tape, h.output, h.size, h.block⟩
theorem belowD {B : Nat} {w w' : World} (h : Below B w w') : Below B w w'.drew := ⟨h.os, h.tape, h.output, h.size, h.block⟩
theorem at0 (w : World) (o : Obj) : (w.alloc o).heap[w.heap.size]? = some o := by
  show (w.heap.push o)[w.heap.size]? = _; simp
theorem keep {w : World} {b : Nat} {x : Obj} (o : Obj) (h : w.heap[b]? = some x) : (w.alloc o).heap[b]? = some x := by
  have hb : b < w.heap.size := by
    rcases Nat.lt_or_ge b w.heap.size with k | k
    · exact k
    · rw [Array.getElem?_eq_none (by omega)] at h; cases h
  show (w.heap.push o)[b]? = _
  rw [Array.getElem?_push, if_neg (by omega)]; exact h
theorem keepD {w : World} {b : Nat} {x : Obj} (h : w.heap[b]? = some x) : w.drew.heap[b]? = some x := h
theorem hide {p : Prop} (h : p) : Hid p := h
theorem bA {B : Nat} {w w' : World} (h : Below B w w') (hB : B ≤ w'.heap.size) (o : Obj) : Below B w (w'.alloc o) := h.alloc hB o
abbrev sv (s : Nat → Int) : Array Value := #[.int .u64 (s 0), .int .u64 (s 1), .int .u64 (s 2), .int .u64 (s 3), .int .u64 (s 4), .int .u64 (s 5), .int .u64 (s 6), .int .u64 (s 7)]
theorem ret_int {k : IntKind} {a b : Int} (h : a = b) : Ending.returned (.int k a) = .returned (.int k b) := by rw [h]
theorem sv_get (s : Nat → Int) (i : Nat) (h : i < 8) : (sv s)[i]? = some (.int .u64 (s i)) := by
  match i, h with
  | 0, _ => rfl
  | 1, _ => rfl
  | 2, _ => rfl
  | 3, _ => rfl
  | 4, _ => rfl
  | 5, _ => rfl
  | 6, _ => rfl
  | 7, _ => rfl
abbrev z8 : Array Value := #[.int .u64 0, .int .u64 0, .int .u64 0, .int .u64 0, .int .u64 0, .int .u64 0, .int .u64 0, .int .u64 0]
theorem below_setRow {B b : Nat} {w wr : World} (h : Below B w wr) (hb : B ≤ b) (c : Array Value) : Below B w (wr.setRow b c) :=
  h.trans ⟨rfl, rfl, rfl, by simp, fun k hk => setRow_other wr _ k c (by omega)⟩
def up (s : Nat → Int) (j : Nat) (x : Int) : Nat → Int := fun i => if i = j then x else s i
theorem up_eq (s : Nat → Int) (j : Nat) (x : Int) : up s j x j = x := by simp [up]
theorem up_ne (s : Nat → Int) (j i : Nat) (x : Int) (h : i ≠ j) : up s j x i = s i := by simp [up, h]
theorem wu (x : Int) (h0 : 0 ≤ x) (h1 : x < 18446744073709551616) : IntKind.u64.wrap x = x := by simp only [IntKind.wrap, IntKind.signed, IntKind.bits]; simp; omega
theorem add_block (x : Addr) (i : Nat) : (x.add i).block = x.block := by unfold Addr.add; split <;> rfl
theorem add0 (g i : Nat) : (⟨g, 0, none⟩ : Addr).add i = ⟨g, i, none⟩ := by
  unfold Addr.add
  split
  · simp_all
  · simp
/-- Worlds alike but for the blocks of X, and what is new. -/
structure Ch (X : Nat → Prop) (w w' : World) : Prop where
  os : w'.os = w.os
  tape : w'.tape = w.tape
  output : w'.output = w.output
  size : w.heap.size ≤ w'.heap.size
  block : ∀ k, k < w.heap.size → ¬ X k → w'.heap[k]? = w.heap[k]?
theorem Ch.refl (X : Nat → Prop) (w : World) : Ch X w w := ⟨rfl, rfl, rfl, Nat.le_refl _, fun _ _ _ => rfl⟩
theorem Ch.trans {X : Nat → Prop} {w w1 w2 : World} (h : Ch X w w1) (h' : Ch X w1 w2) : Ch X w w2 :=
  ⟨h'.os.trans h.os, h'.tape.trans h.tape, h'.output.trans h.output, Nat.le_trans h.size h'.size, fun k hk ha => (h'.block k (Nat.lt_of_lt_of_le hk h.size) ha).trans (h.block k hk ha)⟩
theorem Ch.mono {X Y : Nat → Prop} {w w' : World} (h : Ch X w w') (hs : ∀ k, k < w.heap.size → X k → Y k) : Ch Y w w' := ⟨h.os, h.tape, h.output, h.size, fun k hk hy => h.block k hk (fun hx => hy (hs k hk hx))⟩
theorem Ch.of {X : Nat → Prop} {w w' : World} (h : Below w.heap.size w w') : Ch X w w' := ⟨h.os, h.tape, h.output, h.size, fun k hk _ => h.block k hk⟩
theorem Ch.below {X : Nat → Prop} {B : Nat} {w w' : World} (h : Ch X w w') (hX : ∀ k, k < B → ¬ X k) (hB : B ≤ w.heap.size) : Below B w w' := ⟨h.os, h.tape, h.output, h.size, fun k hk => h.block k (by omega) (hX k hk)⟩
theorem Ch.row {X : Nat → Prop} {g : Nat} {w w' : World} (h : Ch X w w') (c : Array Value) (hg : X g ∨ w.heap.size ≤ g) : Ch X w (w'.setRow g c) :=
  ⟨h.os, h.tape, h.output, by simp; exact h.size, fun k hk ha => (setRow_other w' _ k c (by intro e; subst e; rcases hg with h1 | h1 <;> first | exact ha h1 | omega)).trans (h.block k hk ha)⟩
theorem Ch.set {X : Nat → Prop} {g : Nat} {w w' : World} (h : Ch X w w') (j : Nat) (v : Value) (hg : X g ∨ w.heap.size ≤ g) : Ch X w (w'.setCell ⟨g, j, none⟩ v) := by
  have k := (Below.refl 0 w').setCell (p := ⟨g, j, none⟩) (Nat.zero_le _) v
  exact ⟨k.os.trans h.os, k.tape.trans h.tape, k.output.trans h.output, Nat.le_trans h.size k.size, fun i hi ha => (Below.heap_setCell _ _ _ i (by intro e; have e' : i = g := e; subst e'; rcases hg with h1 | h1 <;> first | exact ha h1 | omega)).trans (h.block i hi ha)⟩
theorem Ch.alloc {X : Nat → Prop} {w w' : World} (h : Ch X w w') (o : Obj) : Ch X w (w'.alloc o) := h.trans (Ch.of ((Below.refl _ w').alloc (Nat.le_refl _) o))
theorem Ch.drew {X : Nat → Prop} {w w' : World} (h : Ch X w w') : Ch X w w'.drew := ⟨h.os, h.tape, h.output, h.size, h.block⟩
theorem Ch.cell {X : Nat → Prop} {w w' : World} (h : Ch X w w') {p : Addr} (hp : p.block < w.heap.size) (hx : ¬ X p.block) : w'.cell? p = w.cell? p := World.cell?_of_block (h.block _ hp hx)
theorem same_lt {g : Nat} {W W' : World} (h : W'.heap[g]? = W.heap[g]?) (hg : g < W.heap.size) : g < W'.heap.size := by
  have e : W'.heap[g]? = some W.heap[g] := Eq.trans h (Array.getElem?_eq_getElem hg)
  exact (Array.getElem?_eq_some_iff.1 e).1
theorem lt_of_some {g : Nat} {W : World} {o : Obj} (h : W.heap[g]? = some o) : g < W.heap.size := (Array.getElem?_eq_some_iff.1 h).1
theorem grown_refl (w : World) (r : Option Nat) : w.grownBy w r := ⟨rfl, rfl, rfl, Nat.le_refl _, fun _ _ _ => rfl⟩
/-- A list of words as it lies. -/
def GU (w : World) (b n : Nat) (G : Nat → Int) : Prop := ∃ C : Array Value, w.heap[b]? = some (.cells C 28 (0, 0)) ∧ ∀ v, v < n → C[v]? = some (.int .u64 (G v))
theorem GU.lt {w : World} {b n : Nat} {G : Nat → Int} (h : GU w b n G) : b < w.heap.size := by
  obtain ⟨C, h, _⟩ := h
  exact (Array.getElem?_eq_some_iff.1 h).1
theorem GU.of {w w' : World} {b n : Nat} {G : Nat → Int} (h : GU w b n G) (e : w'.heap[b]? = w.heap[b]?) : GU w' b n G := by
  obtain ⟨C, h, h2⟩ := h
  exact ⟨C, e.trans h, h2⟩
theorem GU.on {w w' : World} {b n : Nat} {G : Nat → Int} (h : GU w b n G) (hb : Below w.heap.size w w') : GU w' b n G := h.of (hb.block b h.lt)
theorem GU.ext {w : World} {b n : Nat} {G H : Nat → Int} (h : GU w b n G) (e : ∀ v, v < n → G v = H v) : GU w b n H := by
  obtain ⟨C, h1, h2⟩ := h
  exact ⟨C, h1, fun v hv => by rw [← e v hv]; exact h2 v hv⟩
theorem GU.cell {w : World} {b n : Nat} {G : Nat → Int} (h : GU w b n G) (v : Nat) (hv : v < n) : w.cell? ⟨b, v, none⟩ = some (.int .u64 (G v)) := by
  obtain ⟨C, h, h2⟩ := h
  exact (cell_of_row w b _ _ 28 (0, 0) h).trans (h2 v hv)
theorem GU.fz {w : World} {b n : Nat} {G : Nat → Int} (h : GU w b n G) (j : Nat) : w.frozen? ⟨b, j, none⟩ = false := by
  obtain ⟨C, h, h2⟩ := h
  exact frozen_of_row w b _ _ 28 h
theorem GU.set {w : World} {b n : Nat} {G : Nat → Int} (h : GU w b n G) (j : Nat) (x : Int) : GU (w.setCell ⟨b, j, none⟩ (.int .u64 x)) b n (up G j x) ∧ ∃ C, w.setCell ⟨b, j, none⟩ (.int .u64 x) = w.setRow b C := by
  obtain ⟨C, h, h2⟩ := h
  rw [setCell_eq_setRow w b j C 28 (0, 0) _ h]
  refine ⟨⟨_, setRow_heap w b _ _ 28 (0, 0) h, fun v hv => ?_⟩, _, rfl⟩
  show _ = some (Value.int .u64 (if v = j then x else G v))
  rw [Array.getElem?_setIfInBounds]
  have hv2 := h2 v hv
  have := (Array.getElem?_eq_some_iff.1 hv2).1
  by_cases e : j = v
  · subst e; rw [if_pos rfl, if_pos this, if_pos rfl]
  · rw [if_neg e, if_neg (fun k => e k.symm)]; exact hv2
/-- A world's block g is row C. -/
theorem GU.setCell_ch {X : Nat → Prop} {w w0 : World} {b n : Nat} {G : Nat → Int} (h : GU w b n G) (hc : Ch X w0 w) (hx : X b ∨ w0.heap.size ≤ b) (j : Nat) (x : Int) : Ch X w0 (w.setCell ⟨b, j, none⟩ (.int .u64 x)) := hc.set j _ hx
end Au
end Go.Proofs.YtgoigcpdfecfhaaGreatDoor
namespace Go.Proofs.YtgoigcpdfecfhaaGreatDoor
namespace Au
open Go.RowKit Go.Shelf
set_option linter.unusedVariables false
set_option maxRecDepth 8000
attribute [local go_sem] Oper.semAt_some
abbrev eV (a b c : Int) : Value := .agg #[.int .u32 a, .int .u32 b, .int .u32 c]
/-- A record: three numbers; as cells. -/
abbrev T3 := Nat × Nat × Nat
def e3 (q : IntKind) (x : T3) : List Value := [.int .u32 x.1, .int q x.2.1, .int q x.2.2]
def cl (q : IntKind) (L : List T3) : List Value := L.flatMap (e3 q)
theorem cl_nil (q : IntKind) : cl q [] = [] := rfl
theorem cl_cons (q : IntKind) (x : T3) (L : List T3) : cl q (x :: L) = e3 q x ++ cl q L := rfl
theorem cl_app (q : IntKind) (L M : List T3) : cl q (L ++ M) = cl q L ++ cl q M := by simp [cl]
theorem cl_len (q : IntKind) (L : List T3) : (cl q L).length = L.length * 3 := by
  induction L with
  | nil => rfl
  | cons e L ih => rw [cl_cons, List.length_append, ih]; simp [e3]; omega
theorem cl_get (q : IntKind) (L : List T3) (i : Nat) (e : T3) (h : L[i]? = some e) : (cl q L)[i * 3]? = some (.int .u32 e.1) ∧ (cl q L)[i * 3 + 1]? = some (.int q e.2.1) ∧ (cl q L)[i * 3 + 2]? = some (.int q e.2.2) := by
  induction L generalizing i with
  | nil => simp at h
  | cons f L ih =>
    rw [cl_cons]
    cases i with
    | zero => simp at h; subst h; simp [e3]
    | succ i =>
      simp only [List.getElem?_cons_succ] at h
      obtain ⟨a, b, c⟩ := ih i h
      rw [List.getElem?_append_right (by simp [e3]; omega), List.getElem?_append_right (by simp [e3]; omega), List.getElem?_append_right (by simp [e3]; omega)]
      rw [show (i + 1) * 3 - (e3 q f).length = i * 3 by simp [e3]; omega, show (i + 1) * 3 + 1 - (e3 q f).length = i * 3 + 1 by simp [e3]; omega, show (i + 1) * 3 + 2 - (e3 q f).length = i * 3 + 2 by simp [e3]; omega]
      exact ⟨a, b, c⟩
theorem cl_one (q : IntKind) (L : List T3) (u : Value) (h : u ∈ cl q L) : u.oneCell' = true := by
  simp only [cl, List.mem_flatMap, e3] at h
  obtain ⟨x, _, h⟩ := h
  simp at h
  rcases h with rfl | rfl | rfl <;> rfl
/-- Any cell of a list of records is a record's. -/
theorem cl_at (q : IntKind) (L : List T3) (j : Nat) (u : Value) (h : (cl q L)[j]? = some u) : ∃ i e, L[i]? = some e ∧ ((j = i * 3 ∧ u = .int .u32 e.1) ∨ (j = i * 3 + 1 ∧ u = .int q e.2.1) ∨ (j = i * 3 + 2 ∧ u = .int q e.2.2)) := by
  have hj : j < L.length * 3 := by rw [← cl_len q]; exact (List.getElem?_eq_some_iff.1 h).1
  have hi : j / 3 < L.length := by omega
  obtain ⟨e, he⟩ : ∃ e, L[j / 3]? = some e := ⟨L[j / 3], List.getElem?_eq_getElem hi⟩
  obtain ⟨a, b, c⟩ := cl_get q L _ e he
  refine ⟨j / 3, e, he, ?_⟩
  rcases show j = j / 3 * 3 ∨ j = j / 3 * 3 + 1 ∨ j = j / 3 * 3 + 2 by omega with k | k | k
  · rw [← k, h] at a; exact .inl ⟨k, by simpa using a⟩
  · rw [← k, h] at b; exact .inr (.inl ⟨k, by simpa using b⟩)
  · rw [← k, h] at c; exact .inr (.inr ⟨k, by simpa using c⟩)
/-- Records that lie from x on, as they came in. -/
def At3 (q : IntKind) (w : World) (x : Addr) (L : List T3) : Prop := x.block < w.heap.size ∧ ∀ i e, L[i]? = some e → w.cell? (x.add (i * 3)) = some (.int .u32 e.1) ∧ w.cell? (x.add (i * 3 + 1)) = some (.int q e.2.1) ∧ w.cell? (x.add (i * 3 + 2)) = some (.int q e.2.2)
def Row3 (q : IntKind) (w : World) (a : Option Addr) (L : List T3) : Prop := 0 < L.length → ∃ x, a = some x ∧ At3 q w x L
theorem At3.on {q : IntKind} {w w' : World} {x : Addr} {L : List T3} {B : Nat} (h : At3 q w x L) (hb : Below B w w') (hB : w.heap.size ≤ B) : At3 q w' x L :=
  have hx := Nat.lt_of_lt_of_le h.1 hB
  ⟨Nat.lt_of_lt_of_le h.1 hb.size, fun i e he => ⟨(hb.cell (p := x.add (i * 3)) (by rw [add_block]; exact hx)).trans (h.2 i e he).1, (hb.cell (p := x.add (i * 3 + 1)) (by rw [add_block]; exact hx)).trans (h.2 i e he).2.1, (hb.cell (p := x.add (i * 3 + 2)) (by rw [add_block]; exact hx)).trans (h.2 i e he).2.2⟩⟩
theorem Row3.on {q : IntKind} {w w' : World} {a : Option Addr} {L : List T3} {B : Nat} (h : Row3 q w a L) (hb : Below B w w') (hB : w.heap.size ≤ B) : Row3 q w' a L := fun h0 => by
  obtain ⟨x, rfl, hx⟩ := h h0
  exact ⟨x, rfl, hx.on hb hB⟩
/-- A list's type and its elements', of three cells. -/
def Tp (t e : TypeId) (B : Nat) : Prop := Tryz.prog.underlying t = some (.slice e) ∧ ∃ i z, Tryz.prog.info? e = some i ∧ i.zero = some z ∧ i.size = 3 ∧ i.bytes = B ∧ z.cells.size = 3
theorem infoE : (Tryz.prog.info? 78).map (fun i => (i.zero, i.size, i.bytes)) = some (some (eV 0 0 0), 3, 12) := by kernel_rfl
theorem tpE : Tp 24 78 12 := by
  refine ⟨Tryz.underlying24, ?_⟩
  have h := infoE
  cases hh : Tryz.prog.info? 78 with
  | none => rw [hh] at h; cases h
  | some i => rw [hh] at h; simp at h; exact ⟨i, _, rfl, h.1, h.2.1, h.2.2, rfl⟩
/-- What an append takes: nothing, or cells that lie somewhere. -/
def Src3 (w : World) (sv : Value) (m : Nat) (news : List Value) : Prop :=
  (sv = .slice none 0 0 ∧ m = 0 ∧ news = []) ∨ ∃ ad c, sv = .slice (some ad) m c ∧ news.length = m * 3 ∧ (∀ j u, news[j]? = some u → w.cell? (ad.add j) = some u) ∧ ∀ u ∈ news, u.oneCell' = true
theorem wpList_append3 {t e : TypeId} {B : Nat} (hT : Tp t e B) {w : World} {ops : Array Oper} {rest : List Oper} {o : Oper} {a : Act} {Q : Exit → Act → World → Prop} (hgd : o.guard = none) (s x : Operand)
    (ho : o.op = .call { callee := .builtin .append, args := #[s, x], argTypes := #[t, t] }) (base : Nat) (v sv : Value) (n m : Nat) (xs news : List Value) (hs : a.eval s = v) (hown : w.ownsRow base e 3 v n xs)
    (hx : a.eval x = sv) (hsrc : Src3 w sv m news) (h63 : (n + m) * B ≤ 140737488355328) (h12 : 12 ≤ B) (hbase : base ≤ w.heap.size)
    (h : ∀ v' w', w'.ownsRow base e 3 v' (n + m) (xs ++ news) → w.grownBy w' v.ownBlock → (v'.ownBlock = v.ownBlock ∨ v'.ownBlock = some w.heap.size) → wpList Tryz.prog ops Q rest (a.put o.dst v') w') : wpList Tryz.prog ops Q (o :: rest) a w := by
  obtain ⟨hu, i0, z, hi, hz0, hz1, hz2, hz3⟩ := hT
  have hm : n + m ≤ 140737488355328 := Nat.le_trans (by have := Nat.mul_le_mul_left (n + m) (show 1 ≤ B by omega); omega) h63
  rcases hsrc with ⟨rfl, rfl, rfl⟩ | ⟨ad, c, rfl, hl, hc, h1⟩
  · refine wpList_append_own_none hgd s x t ho base e i0 3 hu hi v n xs hs hown hx ?_
    exact h v w (by simpa using hown) (grown_refl _ _) (Or.inl rfl)
  · exact wpList_append_own_at w hgd s x t ho base e i0 z 3 B hu hi hz0 hz1 hz2 hz3 (by decide) v n xs hs hown ad m c news hx (by omega) hc h1 (by unfold maxLen; omega) h63 hbase (fun v' w' h2 h3 _ h5 => h v' w' h2 h3 h5)
theorem Row3.src {q : IntKind} {w : World} {a : Option Addr} {L : List T3} (h : Row3 q w a L) (c : Nat) (hn : a = none → c = 0) : Src3 w (.slice a L.length c) L.length (cl q L) := by
  cases a with
  | none =>
    obtain rfl := hn rfl
    have h0 : L.length = 0 := by
      rcases Nat.eq_zero_or_pos L.length with e | e
      · exact e
      · obtain ⟨x, hx, _⟩ := h e; cases hx
    obtain rfl := List.length_eq_zero_iff.1 h0
    exact .inl ⟨rfl, rfl, rfl⟩
  | some x =>
    refine .inr ⟨x, c, rfl, cl_len q L, fun j u hj => ?_, cl_one q L⟩
    obtain ⟨i, e, he, hh⟩ := cl_at q L j u hj
    obtain ⟨x', hx', hA⟩ := h (by have := (List.getElem?_eq_some_iff.1 he).1; omega)
    cases hx'
    obtain ⟨a, b, c⟩ := hA.2 i e he
    rcases hh with ⟨rfl, rfl⟩ | ⟨rfl, rfl⟩ | ⟨rfl, rfl⟩ <;> assumption
/-- A row of our own of records. -/
abbrev LR (q : IntKind) (t : TypeId) (w : World) (B : Nat) (v : Value) (L : List T3) : Prop := w.ownsRow B t 3 v L.length (cl q L)
theorem own_empty (w : World) (t : TypeId) (B : Nat) (h : B ≤ w.heap.size) : (w.alloc (.cells #[] t)).ownsRow B t 3 (.slice (some ⟨w.heap.size, 0, none⟩) 0 0) 0 [] := by
  refine ⟨rfl, .inr ⟨w.heap.size, 0, #[], rfl, h, World.alloc_heap_new w _, Nat.le_refl _, by decide, rfl, rfl⟩⟩
theorem own_some {w : World} {B : Nat} {t : TypeId} {v : Value} {n : Nat} {xs : List Value} (h : w.ownsRow B t 3 v n xs) (hb : v.ownBlock ≠ none) : ∃ g c, v = .slice (some ⟨g, 0, none⟩) n c := by
  rcases h.2 with ⟨rfl, _⟩ | ⟨g, cap, cur, rfl, _⟩
  · exact absurd rfl hb
  · exact ⟨g, cap, rfl⟩
theorem LR.cells {q : IntKind} {t : TypeId} {w : World} {B g c m : Nat} {L : List T3} (h : LR q t w B (.slice (some ⟨g, 0, none⟩) m c) L) : At3 q w ⟨g, 0, none⟩ L := by
  have hc := World.ownsRow.cells h (g := g) rfl
  refine ⟨(h.lt g rfl).2, fun i e he => ?_⟩
  obtain ⟨a, b, d⟩ := cl_get q L i e he
  exact ⟨hc _ _ a, hc _ _ b, hc _ _ d⟩
set_option maxHeartbeats 1000000 in
theorem clone_any (x : Addr) (c : Nat) (L : List T3) (w : World) (hl : L.length * 12 ≤ 140737488351232) (hr : Row3 .u32 w (some x) L) :
    Calls Tryz.prog 40 #[.slice (some x) L.length c] w fun e w' => ∃ g c', e = .returned (.slice (some ⟨g, 0, none⟩) L.length c') ∧ LR .u32 78 w' w.heap.size (.slice (some ⟨g, 0, none⟩) L.length c') L ∧ Below w.heap.size w w' := by
  have hq : ∀ (n : Nat) (W : World), Sem.run Tryz.prog (binOp BinOp.eql 24 (.slice (some x) n c) (.slice none 0 0)) W = .ok (.bool false) W := fun _ _ => rfl
  have HS : Hid (Src3 (w.alloc (.cells #[] 78)) (.slice (some x) L.length c) L.length (cl .u32 L)) := (hr.on (b1 w 78 #[]) (Nat.le_refl _)).src c (fun h => by cases h)
  clear hr
  go_enter Tryz.func40, Tryz.ntmps40
  go_wp2_with (at_builtin; refine wpList_append3 tpE rfl _ _ rfl w.heap.size _ _ 0 L.length [] (cl .u32 L) rfl (own_empty w 78 _ (Nat.le_refl _)) rfl HS.out (by omega) (by decide) (by simp) ?_)
  intro v1 w1 hown1 hgr1 hat1
  have hB1 : Below w.heap.size w w1 := (b1 w 78 #[]).grown hgr1 (by simp) (fun j hj => by simp [Value.ownBlock] at hj; omega)
  replace hown1 : w1.ownsRow w.heap.size 78 3 v1 L.length (cl .u32 L) := by simpa using hown1
  obtain ⟨g, c', rfl⟩ := own_some hown1 (by rcases hat1 with h | h <;> rw [h] <;> simp [Value.ownBlock])
  clear hgr1 hat1 HS hq
  go_wp2
  go_ret
  exact ⟨g, c', rfl, hown1, hB1⟩
set_option maxHeartbeats 1000000 in
theorem feed_any (x : Addr) (c : Nat) (L : List T3) (f : Int) (w : World) (hl : L.length * 12 ≤ 140737488351232) (hr : Row3 .u32 w (some x) L) :
    Calls Tryz.prog 9 #[.slice (some x) L.length c, .int .i64 f] w fun e w' => ∃ g c' Bt, e = .returned (.func (.func 41) #[] #[.pointer (some ⟨Bt, 0, none⟩), .pointer (some ⟨w.heap.size, 0, none⟩)]) ∧ LR .u32 78 w' w.heap.size (.slice (some ⟨g, 0, none⟩) L.length c') L ∧
      Boxed w' Bt 24 (.slice (some ⟨g, 0, none⟩) L.length c') ∧ Boxed w' w.heap.size 36 (.int .i64 f) ∧ w.heap.size < Bt ∧ Below w.heap.size w w' := by
  have HR : Hid (Row3 .u32 (w.alloc (.cells #[.int .i64 f] 36)) (some x) L) := hr.on (b1 w 36 _) (Nat.le_refl _)
  clear hr
  go_enter Tryz.func9, Tryz.ntmps9
  go_wp2_with (fail)
  refine (clone_any x c L _ hl HR.out).mono ?_
  rintro e9 w9 ⟨g, c', rfl, hL, hB⟩
  have hs := hB.size
  simp only [World.size_alloc] at hs hL hB
  have bF := Boxed.new w 36 (.int .i64 f)
  have bF' : Boxed w9 w.heap.size 36 (.int .i64 f) := (hB.block w.heap.size (by omega)).trans bF
  have hBw : Below w.heap.size w w9 := (b1 w 36 _).trans (hB.mono (by simp))
  clear HR
  go_wp2
  go_ret
  refine ⟨g, c', w9.heap.size, rfl, ?_, Boxed.new w9 _ _, bF'.alloc _, by omega, hBw.alloc (by omega) _⟩
  have h9 := hL.alloc (.cells #[.slice (some ⟨g, 0, none⟩) L.length c'] 24)
  refine ⟨h9.1, ?_⟩
  rcases h9.2 with h | ⟨g', cap, cur, h1, h2, h3⟩
  · exact .inl h
  · exact .inr ⟨g', cap, cur, h1, by omega, h3⟩
/-- Two blocks lie as they lay. -/
def Kk (g b : Nat) (W W' : World) : Prop := W'.heap[g]? = W.heap[g]? ∧ W'.heap[b]? = W.heap[b]?
theorem Kk.t {g b : Nat} {A B C : World} (h : Kk g b A B) (k : Kk g b B C) : Kk g b A C := ⟨Eq.trans k.1 h.1, Eq.trans k.2 h.2⟩
theorem Kk.b {g b : Nat} {w : World} (hg : g < w.heap.size) (hb : b < w.heap.size) (W : World) (l : Nat) (o o' : Obj) (hl : w.heap.size ≤ l) (_ : W.heap[l]? = some o) (_ : o.isCells = false) (_ : o.isWalk = false) : Kk g b W (W.putObj l o') := ⟨World.putObj_heap_other (by omega), World.putObj_heap_other (by omega)⟩
theorem Kk.below {g b : Nat} {W W' : World} (h : Below W.heap.size W W') (hg : g < W.heap.size) (hb : b < W.heap.size) : Kk g b W W' := ⟨h.block g hg, h.block b hb⟩
/-- What an iterator tells at once: an edge, and an error. -/
abbrev Tl := T3 × Int
abbrev encT (x : Tl) : Array Value := #[eV x.1.1 x.1.2.1 x.1.2.2, .int .i64 x.2]
/-- What Feed's iterator tells. -/
def Ms (L : List T3) (f : Int) : List Tl := L.map (fun x => (x, 0)) ++ if f = 0 then [] else [((0, 0, 0), f)]
theorem Ms_take (L : List T3) (f : Int) (k : Nat) (hk : k ≤ L.length) : (Ms L f).take k = (L.take k).map fun x => (x, 0) := by
  unfold Ms
  rw [List.take_append_of_le_length (by simpa using hk), List.map_take]
theorem Ms_step (L : List T3) (f : Int) (k : Nat) (e : T3) (h : L[k]? = some e) : (Ms L f).take (k + 1) = (Ms L f).take k ++ [(e, 0)] := by
  have hk := (List.getElem?_eq_some_iff.1 h).1
  rw [Ms_take _ _ _ (by omega), Ms_take _ _ _ (by omega), List.take_add_one, h]
  simp
theorem Ms_len (L : List T3) (f : Int) : (Ms L f).length = L.length + if f = 0 then 0 else 1 := by
  unfold Ms; rw [List.length_append, List.length_map]; split <;> rfl
theorem Ms_zero (L : List T3) : (Ms L 0).take L.length = Ms L 0 := by
  rw [Ms_take _ _ _ (Nat.le_refl _)]; simp [Ms]
theorem Ms_last (L : List T3) (f : Int) (h : f ≠ 0) : Ms L f = (Ms L f).take L.length ++ [((0, 0, 0), f)] := by
  rw [Ms_take _ _ _ (Nat.le_refl _)]; simp [Ms, h]
set_option maxRecDepth 100000 in
set_option maxHeartbeats 2000000 in
/-- The closure that Feed answers, over whatever loop. -/
theorem feed1_in (F : Fence) (n : Nat) (hf : F.fn 41) (hro : F.round = none) (hn : 1 ≤ n) (l Bt Bf g cap : Nat) (L : List T3) (f : Int) (hlen : L.length ≤ 140737488351232) (hcap : L.length ≤ cap) (J Jx : List Tl → World → Prop) (W : World) (hJ : AbidesFrom W.heap.size J)
    (hY : ∀ pre x W, J pre W → pre.length < (Ms L f).length → YieldAt F (n - 1) Tryz.prog l #[eV x.1.1 x.1.2.1 x.1.2.2, .int .i64 x.2] W fun e W' =>
      (e = .returned (.bool true) ∧ J (pre ++ [x]) W' ∧ Kk g Bf W W') ∨ (e = .returned (.bool false) ∧ Jx (pre ++ [x]) W'))
    (hBt : W.cell? ⟨Bt, 0, none⟩ = some (.slice (some ⟨g, 0, none⟩) L.length cap)) (hBf : W.cell? ⟨Bf, 0, none⟩ = some (.int .i64 f)) (hg : g < W.heap.size) (hb : Bf < W.heap.size)
    (hc : At3 .u32 W ⟨g, 0, none⟩ L) (h0 : J [] W) :
    CallsIn F n Tryz.prog 41 #[.func (.yield l) #[] #[], .pointer (some ⟨Bt, 0, none⟩), .pointer (some ⟨Bf, 0, none⟩)] W fun e W' => (∃ v, e = .returned v) ∧
      ((∃ ys, ys = Ms L f ∧ J ys W') ∨ (∃ pre, pre <+: Ms L f ∧ Jx pre W')) := by
  refine callsIn_of_wp Tryz.func41 rfl hf ?_ hro
  simp only [Tryz.ntmps41, List.size_toArray, List.length_cons, List.length_nil, Nat.reduceAdd, Nat.reduceSub, Array.replicate_succ, Array.replicate_zero, List.push_toArray, List.append_toArray, List.nil_append, List.cons_append]
  gi_wp2
  gi_loopw [8] (fun i wr => ∃ k : Nat, k ≤ L.length ∧ i = .int .i64 k ∧ J ((Ms L f).take k) wr ∧ Kk g Bf W wr ∧ g < wr.heap.size ∧ Bf < wr.heap.size)
    (fun i _ => L.length - (intOf i).toNat)
  case atStart => exact ⟨0, Nat.zero_le _, rfl, by simpa using h0, ⟨rfl, rfl⟩, hg, hb⟩
  case round =>
    obtain ⟨k, hk, rfl, hJs, hnx, hgr, hbr⟩ := hrel
    by_cases hlt : k < L.length
    · obtain ⟨e, he⟩ : ∃ e, L[k]? = some e := ⟨L[k], List.getElem?_eq_getElem hlt⟩
      obtain ⟨c0, c1, c2⟩ := hc.2 k e he
      rw [add0] at c0 c1 c2
      have hc0 : wr.cell? ⟨g, k * 3, none⟩ = some (.int .u32 e.1) := (World.cell?_of_block (a := ⟨g, k * 3, none⟩) hnx.1).trans c0
      have hc1 : wr.cell? ⟨g, k * 3 + 1, none⟩ = some (.int .u32 e.2.1) := (World.cell?_of_block (a := ⟨g, k * 3 + 1, none⟩) hnx.1).trans c1
      have hc2 : wr.cell? ⟨g, k * 3 + 2, none⟩ = some (.int .u32 e.2.2) := (World.cell?_of_block (a := ⟨g, k * 3 + 2, none⟩) hnx.1).trans c2
      have hJ1 : J ((Ms L f).take k) (wr.alloc (.cells #[.int .u32 e.1, .int .u32 e.2.1, .int .u32 e.2.2] 78)) := hJ _ _ _ none hJs (World.grownBy_alloc wr _ none) (fun r h => by cases h)
      obtain ⟨fn, tmps, assign, body, hy, hR⟩ := hY _ (e, 0) _ hJ1 (by rw [List.length_take, Ms_len]; split <;> omega)
      have HC : Hid (At3 .u32 W ⟨g, 0, none⟩ L) := hc
      clear hc c0 c1 c2 hY
      gi_wp2
      refine hR.mono ?_
      rintro e9 W3 (⟨rfl, hJ3, hk3⟩ | ⟨rfl, hJx3⟩)
      · have hk4 : Kk g Bf wr W3 := ⟨Eq.trans hk3.1 (Below.heap_alloc wr _ g hgr), Eq.trans hk3.2 (Below.heap_alloc wr _ Bf hbr)⟩
        have HT : Hid (J ((Ms L f).take (k + 1)) W3) := by
          rw [Ms_step L f k e he]; exact hJ3
        clear hJ3 hc0 hc1 hc2 hR hy
        gi_wp2
        go_roundw
        case rel => exact ⟨k + 1, by omega, by go_num, HT.out, hnx.t hk4, same_lt hk4.1 hgr, same_lt hk4.2 hbr⟩
        case measure => simp [intOf]; omega
      · have HT : Hid (Jx ((Ms L f).take (k + 1)) W3) := by
          rw [Ms_step L f k e he]; exact hJx3
        clear hJx3 hc0 hc1 hc2 hR hy
        gi_wp2
        refine bodyPost_ret (results_none rfl _ _ _) rfl ?_
        exact ⟨⟨_, rfl⟩, .inr ⟨(Ms L f).take (k + 1), List.take_prefix _ _, HT.out⟩⟩
    · obtain rfl : k = L.length := by omega
      have hcf : wr.cell? ⟨Bf, 0, none⟩ = some (.int .i64 f) := (World.cell?_of_block (a := ⟨Bf, 0, none⟩) hnx.2).trans hBf
      by_cases hf0 : f = 0
      · subst hf0
        have HJ : Hid (J (Ms L 0) wr) := by rw [← Ms_zero]; exact hJs
        clear hY hc hJs
        gi_wp2
        go_end0
        exact ⟨⟨_, rfl⟩, .inl ⟨_, rfl, HJ.out⟩⟩
      · have hf1 : (f != 0) = true := by simpa using hf0
        have hY0 := hY _ ((0, 0, 0), f) _ hJs (by rw [List.length_take, Ms_len, if_neg hf0]; omega)
        have hc0 : ((0 : Nat) : Int) = 0 := rfl
        simp only [hc0] at hY0
        obtain ⟨fn, tmps, assign, body, hy, hR⟩ := hY0
        rw [← Ms_last L f hf0] at hR
        clear hY hc
        gi_wp2
        refine hR.mono ?_
        rintro e9 W3 (⟨rfl, hJ3, hk3⟩ | ⟨rfl, hJx3⟩)
        · have HT : Hid (J (Ms L f) W3) := hJ3
          clear hJ3 hR hy
          gi_wp2
          go_end0
          exact ⟨⟨_, rfl⟩, .inl ⟨_, rfl, HT.out⟩⟩
        · have HT : Hid (Jx (Ms L f) W3) := hJx3
          clear hJx3 hR hy
          gi_wp2
          go_end0
          exact ⟨⟨_, rfl⟩, .inr ⟨_, List.prefix_refl _, HT.out⟩⟩
/-- What Feed answers tells the edges and the error behind. -/
theorem feed_stops (F : Fence) (n : Nat) (hf : F.fn 41) (hro : F.round = none) (hn : 1 ≤ n) (Bt Bf B g cap : Nat) (L : List T3) (f : Int) (hlen : L.length ≤ 140737488351232) (hcap : L.length ≤ cap) (w : World) (hb : Boxed w Bt 24 (.slice (some ⟨g, 0, none⟩) L.length cap)) (hbf : Boxed w Bf 36 (.int .i64 f)) (hL : At3 .u32 w ⟨g, 0, none⟩ L) :
    SeqStopsK F n Tryz.prog 41 #[.pointer (some ⟨Bt, 0, none⟩), .pointer (some ⟨Bf, 0, none⟩)] encT (Kk g Bf) (fun ys => ys = Ms L f) (fun pre => pre <+: Ms L f) (Ms L f).length w := fun l J Jx W hW hJ _ hY h0 => by
  have hb' : W.cell? ⟨Bt, 0, none⟩ = some (.slice (some ⟨g, 0, none⟩) L.length cap) := (hW.cell (p := ⟨Bt, 0, none⟩) hb.lt).trans hb.cell
  have hf' : W.cell? ⟨Bf, 0, none⟩ = some (.int .i64 f) := (hW.cell (p := ⟨Bf, 0, none⟩) hbf.lt).trans hbf.cell
  exact feed1_in F n hf hro hn l Bt Bf g cap L f hlen hcap J Jx W hJ hY hb' hf' (Nat.lt_of_lt_of_le hL.1 hW.size) (Nat.lt_of_lt_of_le hbf.lt hW.size)
    ⟨Nat.lt_of_lt_of_le hL.1 hW.size, fun i e he => ⟨(hW.cell (p := (⟨g, 0, none⟩ : Addr).add (i * 3)) (by rw [add_block]; exact hL.1)).trans (hL.2 i e he).1, (hW.cell (p := (⟨g, 0, none⟩ : Addr).add (i * 3 + 1)) (by rw [add_block]; exact hL.1)).trans (hL.2 i e he).2.1, (hW.cell (p := (⟨g, 0, none⟩ : Addr).add (i * 3 + 2)) (by rw [add_block]; exact hL.1)).trans (hL.2 i e he).2.2⟩⟩ h0
set_option maxRecDepth 100000 in
set_option maxHeartbeats 2000000 in
/-- The closure that Feed answers to no list. -/
theorem feed0_in (F : Fence) (n : Nat) (hf : F.fn 41) (hro : F.round = none) (hn : 1 ≤ n) (l Bt Bf : Nat) (f : Int) (J Jx : List Tl → World → Prop) (W : World) (hJ : AbidesFrom W.heap.size J)
    (hY : ∀ pre x W, J pre W → pre.length < (Ms [] f).length → YieldAt F (n - 1) Tryz.prog l #[eV x.1.1 x.1.2.1 x.1.2.2, .int .i64 x.2] W fun e W' =>
      (e = .returned (.bool true) ∧ J (pre ++ [x]) W' ∧ Kk Bf Bf W W') ∨ (e = .returned (.bool false) ∧ Jx (pre ++ [x]) W'))
    (hBt : W.cell? ⟨Bt, 0, none⟩ = some (.slice none 0 0)) (hBf : W.cell? ⟨Bf, 0, none⟩ = some (.int .i64 f)) (hb : Bf < W.heap.size) (h0 : J [] W) :
    CallsIn F n Tryz.prog 41 #[.func (.yield l) #[] #[], .pointer (some ⟨Bt, 0, none⟩), .pointer (some ⟨Bf, 0, none⟩)] W fun e W' => (∃ v, e = .returned v) ∧
      ((∃ ys, ys = Ms [] f ∧ J ys W') ∨ (∃ pre, pre <+: Ms [] f ∧ Jx pre W')) := by
  refine callsIn_of_wp Tryz.func41 rfl hf ?_ hro
  simp only [Tryz.ntmps41, List.size_toArray, List.length_cons, List.length_nil, Nat.reduceAdd, Nat.reduceSub, Array.replicate_succ, Array.replicate_zero, List.push_toArray, List.append_toArray, List.nil_append, List.cons_append]
  gi_wp2
  gi_loopw [8] (fun i wr => i = .int .i64 0 ∧ wr = W) (fun i _ => 0)
  case atStart => exact ⟨rfl, rfl⟩
  case round =>
    obtain ⟨rfl, rfl⟩ := hrel
    by_cases hf0 : f = 0
    · subst hf0
      have HJ : Hid (J (Ms [] 0) wr) := h0
      clear hY h0
      gi_wp2
      go_end0
      exact ⟨⟨_, rfl⟩, .inl ⟨_, rfl, HJ.out⟩⟩
    · have hf1 : (f != 0) = true := by simpa using hf0
      have hms : Ms [] f = [] ++ [((0, 0, 0), f)] := by unfold Ms; rw [if_neg hf0]; rfl
      have hY0 := hY _ ((0, 0, 0), f) _ h0 (by rw [hms]; simp)
      have hc0 : ((0 : Nat) : Int) = 0 := rfl
      simp only [hc0] at hY0
      obtain ⟨fn, tmps, assign, body, hy, hR⟩ := hY0
      rw [← hms] at hR
      clear hY
      gi_wp2
      refine hR.mono ?_
      rintro e9 W3 (⟨rfl, hJ3, hk3⟩ | ⟨rfl, hJx3⟩)
      · have HT : Hid (J (Ms [] f) W3) := hJ3
        clear hJ3 hR hy
        gi_wp2
        go_end0
        exact ⟨⟨_, rfl⟩, .inl ⟨_, rfl, HT.out⟩⟩
      · have HT : Hid (Jx (Ms [] f) W3) := hJx3
        clear hJx3 hR hy
        gi_wp2
        go_end0
        exact ⟨⟨_, rfl⟩, .inr ⟨_, List.prefix_refl _, HT.out⟩⟩
/-- What Feed has laid down. -/
def Fd (w : World) (g Bt Bf : Nat) (L : List T3) (f : Int) : Prop := Boxed w Bf 36 (.int .i64 f) ∧ g < w.heap.size ∧
  ((∃ cap, Boxed w Bt 24 (.slice (some ⟨g, 0, none⟩) L.length cap) ∧ At3 .u32 w ⟨g, 0, none⟩ L ∧ L.length ≤ cap) ∨ (L = [] ∧ g = Bf ∧ Boxed w Bt 24 (.slice none 0 0)))
theorem Fd.lt {w : World} {g Bt Bf : Nat} {L : List T3} {f : Int} (h : Fd w g Bt Bf L f) : g < w.heap.size ∧ Bt < w.heap.size ∧ Bf < w.heap.size := by
  obtain ⟨h1, h2, h3⟩ := h
  rcases h3 with ⟨_, b, _⟩ | ⟨_, _, b⟩ <;> exact ⟨h2, b.lt, h1.lt⟩
theorem At3.of {w w' : World} {g : Nat} {L : List T3} (h : At3 .u32 w ⟨g, 0, none⟩ L) (hg : w'.heap[g]? = w.heap[g]?) : At3 .u32 w' ⟨g, 0, none⟩ L := by
  refine ⟨same_lt hg h.1, fun i e he => ?_⟩
  obtain ⟨c0, c1, c2⟩ := h.2 i e he
  exact ⟨(World.cell?_of_block (by rw [add_block]; exact hg)).trans c0, (World.cell?_of_block (by rw [add_block]; exact hg)).trans c1, (World.cell?_of_block (by rw [add_block]; exact hg)).trans c2⟩
theorem Fd.of {w w' : World} {g Bt Bf : Nat} {L : List T3} {f : Int} (h : Fd w g Bt Bf L f) (hg : w'.heap[g]? = w.heap[g]?) (ht : w'.heap[Bt]? = w.heap[Bt]?) (hf : w'.heap[Bf]? = w.heap[Bf]?) : Fd w' g Bt Bf L f := by
  obtain ⟨h1, h2, h3⟩ := h
  refine ⟨hf.trans h1, same_lt hg h2, ?_⟩
  rcases h3 with ⟨cap, b, c, d⟩ | ⟨a, e, b⟩
  · exact .inl ⟨cap, ht.trans b, c.of hg, d⟩
  · exact .inr ⟨a, e, ht.trans b⟩
theorem Fd.on {X : Nat → Prop} {w w' : World} {g Bt Bf : Nat} {L : List T3} {f : Int} (h : Fd w g Bt Bf L f) (hc : Ch X w w') (hg : ¬ X g) (ht : ¬ X Bt) (hf : ¬ X Bf) : Fd w' g Bt Bf L f :=
  h.of (hc.block g h.lt.1 hg) (hc.block Bt h.lt.2.1 ht) (hc.block Bf h.lt.2.2 hf)
theorem Fd.stops (F : Fence) (n : Nat) (hf : F.fn 41) (hro : F.round = none) (hn : 1 ≤ n) {Bt Bf g : Nat} {L : List T3} {f : Int} (hlen : L.length ≤ 140737488351232) {w : World} (h : Fd w g Bt Bf L f) :
    SeqStopsK F n Tryz.prog 41 #[.pointer (some ⟨Bt, 0, none⟩), .pointer (some ⟨Bf, 0, none⟩)] encT (Kk g Bf) (fun ys => ys = Ms L f) (fun pre => pre <+: Ms L f) (Ms L f).length w := by
  obtain ⟨h1, h2, h3⟩ := h
  rcases h3 with ⟨cap, b, c, d⟩ | ⟨rfl, rfl, b⟩
  · exact feed_stops F n hf hro hn Bt Bf 0 g cap L f hlen d w b h1 c
  · intro l J Jx W hW hJ _ hY h0
    exact feed0_in F n hf hro hn l Bt g f J Jx W hJ hY ((hW.cell (p := ⟨Bt, 0, none⟩) b.lt).trans b.cell) ((hW.cell (p := ⟨g, 0, none⟩) h1.lt).trans h1.cell) (Nat.lt_of_lt_of_le h1.lt hW.size) h0
set_option maxHeartbeats 1000000 in
theorem feed_all (a : Option Addr) (c : Nat) (L : List T3) (f : Int) (w : World) (hl : L.length * 12 ≤ 140737488351232) (hn : a = none → c = 0) (hr : Row3 .u32 w a L) :
    Calls Tryz.prog 9 #[.slice a L.length c, .int .i64 f] w fun e w' => ∃ g Bt Bf, e = .returned (.func (.func 41) #[] #[.pointer (some ⟨Bt, 0, none⟩), .pointer (some ⟨Bf, 0, none⟩)]) ∧ Fd w' g Bt Bf L f ∧ w.heap.size ≤ g ∧ w.heap.size ≤ Bt ∧ w.heap.size ≤ Bf ∧ Below w.heap.size w w' := by
  cases a with
  | some x =>
    refine (feed_any x c L f w hl hr).mono ?_
    rintro e w' ⟨g, c', Bt, rfl, hL, bT, bF, hB, hW⟩
    have hgl := hL.lt g rfl
    refine ⟨g, Bt, w.heap.size, rfl, ⟨bF, hgl.2, .inl ⟨c', bT, LR.cells hL, ?_⟩⟩, hgl.1, by omega, Nat.le_refl _, hW⟩
    rcases hL.2 with ⟨e, _⟩ | ⟨g', cap', cur, e, h3, h4, h5, _⟩
    · cases e
    · cases e; exact h5
  | none =>
    obtain rfl := hn rfl
    have h0 : L.length = 0 := by
      rcases Nat.eq_zero_or_pos L.length with e | e
      · exact e
      · obtain ⟨x, hx, _⟩ := hr e; cases hx
    obtain rfl := List.length_eq_zero_iff.1 h0
    have HC : ∀ W : World, Calls Tryz.prog 40 #[.slice none 0 0] W fun e w' => e = .returned (.slice none 0 0) ∧ w' = W := fun W => by
      have hq : ∀ W : World, Sem.run Tryz.prog (binOp BinOp.eql 24 (.slice none 0 0) (.slice none 0 0)) W = .ok (.bool true) W := fun _ => rfl
      go_enter Tryz.func40, Tryz.ntmps40
      go_wp2
      all_goals go_ret
      all_goals exact ⟨rfl, rfl⟩
    have HCh := hide HC
    clear HC hr hl hn h0
    go_enter Tryz.func9, Tryz.ntmps9
    go_wp2_with (fail)
    refine (HCh.out _).mono ?_
    rintro e9 w9 ⟨rfl, hw9⟩
    subst w9
    have bF := (Boxed.new w 36 (.int .i64 f)).alloc (.cells #[.slice none 0 0] 24)
    have bT := Boxed.new (w.alloc (.cells #[.int .i64 f] 36)) 24 (.slice none 0 0)
    simp only [World.size_alloc] at bT
    have HE : Hid (∃ g Bt Bf, Ending.returned (.func (.func 41) #[] #[.pointer (some ⟨w.heap.size + 1, 0, none⟩), .pointer (some ⟨w.heap.size, 0, none⟩)]) = .returned (.func (.func 41) #[] #[.pointer (some ⟨Bt, 0, none⟩), .pointer (some ⟨Bf, 0, none⟩)]) ∧ Fd ((w.alloc (.cells #[.int .i64 f] 36)).alloc (.cells #[.slice none 0 0] 24)) g Bt Bf [] f ∧ w.heap.size ≤ g ∧ w.heap.size ≤ Bt ∧ w.heap.size ≤ Bf ∧ Below w.heap.size w ((w.alloc (.cells #[.int .i64 f] 36)).alloc (.cells #[.slice none 0 0] 24))) :=
      ⟨w.heap.size, w.heap.size + 1, w.heap.size, rfl, ⟨bF, bF.lt, .inr ⟨rfl, rfl, bT⟩⟩, Nat.le_refl _, Nat.le_succ _, Nat.le_refl _, bA (b1 w 36 _) (by simp) _⟩
    clear bF bT HCh
    go_wp2
    all_goals go_ret
    all_goals exact HE.out
end Au
end Go.Proofs.YtgoigcpdfecfhaaGreatDoor
namespace Go.Proofs.YtgoigcpdfecfhaaGreatDoor
namespace Au
open Go.RowKit Go.Shelf
set_option linter.unusedVariables false
set_option maxRecDepth 8000
/-- A verdict: none, if it is right; else the vertex and the rule. -/
abbrev Vd := Option (Nat × Nat)
def vR : Vd → Bool | none => true | some _ => false
def vV : Vd → Int | none => 0 | some p => p.1
def vK : Vd → Int | none => 0 | some p => p.2
def nt (o : Vd) (v r : Nat) : Vd := match o with
  | none => some (v, r)
  | some p => if v < p.1 ∨ v = p.1 ∧ r < p.2 then some (v, r) else some p
/-- The least of all that is noted. -/
def Lm (P : Nat → Nat → Prop) : Vd → Prop
  | none => ∀ v r, ¬ P v r
  | some p => P p.1 p.2 ∧ ∀ v r, P v r → p.1 < v ∨ p.1 = v ∧ p.2 ≤ r
theorem Lm.one {P : Nat → Nat → Prop} {o o' : Vd} (h : Lm P o) (h' : Lm P o') : o = o' := by
  match o, o', h, h' with
  | none, none, _, _ => rfl
  | none, some p, h, h' => exact absurd h'.1 (h _ _)
  | some p, none, h, h' => exact absurd h.1 (h' _ _)
  | some p, some q, h, h' =>
    have a := h.2 _ _ h'.1
    have b := h'.2 _ _ h.1
    have e1 : p.1 = q.1 := by omega
    have e2 : p.2 = q.2 := by omega
    rw [show p = q from Prod.ext e1 e2]
theorem Lm.nt {P : Nat → Nat → Prop} {o : Vd} (h : Lm P o) (v r : Nat) : Lm (fun a b => P a b ∨ (a = v ∧ b = r)) (nt o v r) := by
  match o, h with
  | none, h => exact ⟨Or.inr ⟨rfl, rfl⟩, fun a b hab => Or.elim hab (fun hp => absurd hp (h _ _)) (fun e => Or.inr ⟨e.1.symm, Nat.le_of_eq e.2.symm⟩)⟩
  | some p, h =>
    unfold Au.nt
    by_cases e : v < p.1 ∨ v = p.1 ∧ r < p.2
    · simp only [e, if_true]
      refine ⟨Or.inr ⟨rfl, rfl⟩, fun a b hab => ?_⟩
      rcases hab with hp | ⟨rfl, rfl⟩
      · have := h.2 _ _ hp; show v < a ∨ v = a ∧ r ≤ b; omega
      · exact Or.inr ⟨rfl, Nat.le_refl _⟩
    · simp only [e, if_false]
      refine ⟨Or.inl h.1, fun a b hab => ?_⟩
      rcases hab with hp | ⟨rfl, rfl⟩
      · exact h.2 _ _ hp
      · omega
theorem Lm.ext {P Q : Nat → Nat → Prop} {o : Vd} (h : Lm P o) (e : ∀ v r, P v r ↔ Q v r) : Lm Q o := by
  have : P = Q := funext fun v => funext fun r => propext (e v r)
  rw [← this]; exact h
/-- What a rule adds: only the first vertex at which it is broken is noted. -/
theorem Lm.rule {P : Nat → Nat → Prop} {o : Vd} {n k r : Nat} {β : Nat → Bool} (h : Lm P o) (hk : k < n) (hb : β k = true) (hl : ∀ v, v < k → β v = false) : Lm (fun a b => P a b ∨ (b = r ∧ a < n ∧ β a = true)) (Au.nt o k r) := by
  have h1 := h.nt k r
  generalize Au.nt o k r = o' at *
  match o', h1 with
  | none, h1 => exact absurd (Or.inr ⟨rfl, rfl⟩) (h1 k r)
  | some p, h1 =>
    refine ⟨?_, fun a b hab => ?_⟩
    · rcases h1.1 with hp | ⟨e1, e2⟩
      · exact Or.inl hp
      · exact Or.inr ⟨e2, by omega, by rw [e1]; exact hb⟩
    · rcases hab with hp | ⟨rfl, ha, hba⟩
      · exact h1.2 _ _ (Or.inl hp)
      · have h2 := h1.2 k b (Or.inr ⟨rfl, rfl⟩)
        have : k ≤ a := by
          rcases Nat.lt_or_ge a k with q | q
          · rw [hl a q] at hba; cases hba
          · exact q
        omega
theorem Lm.none_rule {P : Nat → Nat → Prop} {o : Vd} {n r : Nat} {β : Nat → Bool} (h : Lm P o) (hl : ∀ v, v < n → β v = false) : Lm (fun a b => P a b ∨ (b = r ∧ a < n ∧ β a = true)) o := h.ext (fun a b => ⟨Or.inl, fun hab => by
  rcases hab with hp | ⟨_, ha, hb⟩
  · exact hp
  · rw [hl a ha] at hb; cases hb⟩)
/-- An inquiry as it lies. -/
abbrev qc (n : Nat) (kd : Int) (ed sl : Value) (o : Vd) : Array Value := #[.int .u32 (n : Int), .int .i64 kd, ed, sl, .bool (vR o), .int .u32 (vV o), .int .i64 (vK o)]
def Iq (w : World) (qb n : Nat) (kd : Int) (ed sl : Value) (o : Vd) : Prop := w.heap[qb]? = some (.cells (qc n kd ed sl o) 69 (0, 0))
theorem Iq.lt {w : World} {qb n : Nat} {kd : Int} {ed sl : Value} {o : Vd} (h : Iq w qb n kd ed sl o) : qb < w.heap.size := lt_of_some h
theorem Iq.on {X : Nat → Prop} {w w' : World} {qb n : Nat} {kd : Int} {ed sl : Value} {o : Vd} (h : Iq w qb n kd ed sl o) (hc : Ch X w w') (hx : ¬ X qb) : Iq w' qb n kd ed sl o := (hc.block qb h.lt hx).trans h
theorem Iq.c {w : World} {qb n : Nat} {kd : Int} {ed sl : Value} {o : Vd} (h : Iq w qb n kd ed sl o) : w.cell? ⟨qb, 0, none⟩ = some (.int .u32 (n : Int)) ∧ w.cell? ⟨qb, 1, none⟩ = some (.int .i64 kd) ∧ w.cell? ⟨qb, 2, none⟩ = some ed ∧ w.cell? ⟨qb, 3, none⟩ = some sl ∧ w.cell? ⟨qb, 4, none⟩ = some (.bool (vR o)) ∧ w.cell? ⟨qb, 5, none⟩ = some (.int .u32 (vV o)) ∧ w.cell? ⟨qb, 6, none⟩ = some (.int .i64 (vK o)) := by
  refine ⟨?_, ?_, ?_, ?_, ?_, ?_, ?_⟩ <;> exact (cell_of_row w qb _ _ 69 (0, 0) h).trans rfl
theorem Iq.f {w : World} {qb n : Nat} {kd : Int} {ed sl : Value} {o : Vd} (h : Iq w qb n kd ed sl o) (j : Nat) : w.frozen? ⟨qb, j, none⟩ = false := frozen_of_row w qb _ _ 69 h
theorem Iq.set {w : World} {qb n : Nat} {kd : Int} {ed sl : Value} {o : Vd} (h : Iq w qb n kd ed sl o) (o' : Vd) : Iq (((w.setCell ⟨qb, 4, none⟩ (.bool (vR o'))).setCell ⟨qb, 5, none⟩ (.int .u32 (vV o'))).setCell ⟨qb, 6, none⟩ (.int .i64 (vK o'))) qb n kd ed sl o' := by
  unfold Iq at *
  rw [setCell_eq_setRow w qb 4 _ 69 (0, 0) _ h]
  have h1 := setRow_heap w qb _ ((qc n kd ed sl o).setIfInBounds 4 (.bool (vR o'))) 69 (0, 0) h
  rw [setCell_eq_setRow _ qb 5 _ 69 (0, 0) _ h1]
  have h2 := setRow_heap _ qb _ (((qc n kd ed sl o).setIfInBounds 4 (.bool (vR o'))).setIfInBounds 5 (.int .u32 (vV o'))) 69 (0, 0) h1
  rw [setCell_eq_setRow _ qb 6 _ 69 (0, 0) _ h2]
  exact setRow_heap _ qb _ _ 69 (0, 0) h2
set_option maxHeartbeats 4000000 in
theorem note_any (qb v r n : Nat) (kd : Int) (ed sl : Value) (o : Vd) (w : World) (h : Iq w qb n kd ed sl o) :
    Calls Tryz.prog 95 #[.pointer (some ⟨qb, 0, none⟩), .int .u32 (v : Int), .int .i64 (r : Int)] w fun e w' => (∃ x, e = .returned x) ∧ Iq w' qb n kd ed sl (nt o v r) ∧ Ch (fun k => k = qb) w w' := by
  obtain ⟨c0, c1, c2, c3, c4, c5, c6⟩ := h.c
  have f4 := h.f 4
  have f5 := h.f 5
  have f6 := h.f 6
  have hlt := h.lt
  have HA : Hid (∀ C : Array Value, Iq (w.alloc (.cells C 35)) qb n kd ed sl o ∧ Ch (fun k => k = qb) w (w.alloc (.cells C 35))) := fun C => ⟨h.on (X := fun _ => False) (Ch.of (b1 _ _ _)) (fun h => h), Ch.of (b1 _ _ _)⟩
  have HH : Hid (∀ C : Array Value, Iq ((((w.setCell ⟨qb, 4, none⟩ (.bool false)).setCell ⟨qb, 5, none⟩ (.int .u32 (v : Int))).setCell ⟨qb, 6, none⟩ (.int .i64 (r : Int))).alloc (.cells C 35)) qb n kd ed sl (some (v, r)) ∧ Ch (fun k => k = qb) w ((((w.setCell ⟨qb, 4, none⟩ (.bool false)).setCell ⟨qb, 5, none⟩ (.int .u32 (v : Int))).setCell ⟨qb, 6, none⟩ (.int .i64 (r : Int))).alloc (.cells C 35))) := fun C =>
    ⟨(h.set (some (v, r))).on (X := fun _ => False) (Ch.of (b1 _ _ _)) (fun h => h), ((((Ch.refl (fun k => k = qb) w).set _ _ (Or.inl rfl)).set _ _ (Or.inl rfl)).set _ _ (Or.inl rfl)).alloc _⟩
  clear h c0 c1 c2 c3
  match o with
  | none =>
    simp only [vR, vV, vK] at *
    rw [show nt none v r = some (v, r) from rfl]
    go_enter Tryz.func95, Tryz.ntmps95
    go_wp2
    go_end0
    exact ⟨⟨_, rfl⟩, HH.out _⟩
  | some p =>
    simp only [vR, vV, vK] at *
    by_cases e : v < p.1 ∨ v = p.1 ∧ r < p.2
    · have hn : nt (some p) v r = some (v, r) := by unfold nt; simp only [e, if_true]
      rw [hn]
      clear hn
      rcases e with e | ⟨e1, e2⟩
      · have hl : (v : Int) < (p.1 : Int) := by omega
        go_enter Tryz.func95, Tryz.ntmps95
        go_wp2
        go_end0
        exact ⟨⟨_, rfl⟩, HH.out _⟩
      · have hl : ¬ (v : Int) < (p.1 : Int) := by omega
        have hq : ((v : Int) == (p.1 : Int)) = true := by simp; omega
        have hr : (r : Int) < (p.2 : Int) := by omega
        clear e1 e2
        go_enter Tryz.func95, Tryz.ntmps95
        go_wp2
        go_end0
        exact ⟨⟨_, rfl⟩, HH.out _⟩
    · have hn : nt (some p) v r = some p := by unfold nt; simp only [e, if_false]
      rw [hn]
      have hl : ¬ (v : Int) < (p.1 : Int) := by omega
      by_cases e2 : v = p.1
      · have hq : ((v : Int) == (p.1 : Int)) = true := by simp; omega
        have hr : ¬ (r : Int) < (p.2 : Int) := by omega
        clear e2 e hn
        go_enter Tryz.func95, Tryz.ntmps95
        go_wp2
        go_end0
        exact ⟨⟨_, rfl⟩, HA.out _⟩
      · have hq : ((v : Int) == (p.1 : Int)) = false := by simp; omega
        clear e2 e hn
        go_enter Tryz.func95, Tryz.ntmps95
        go_wp2
        go_end0
        exact ⟨⟨_, rfl⟩, HA.out _⟩
end Au
end Go.Proofs.YtgoigcpdfecfhaaGreatDoor
namespace Go.Proofs.YtgoigcpdfecfhaaGreatDoor
namespace Au
open Go.RowKit Go.Shelf
set_option linter.unusedVariables false
set_option maxRecDepth 8000
/-- May an edge of the kind have this weight? -/
def wg (kd x : Int) : Bool := kd != 1 || x == 0
/-- What is wrong with an edge. -/
def bz (n : Nat) (kd x y z : Int) : Int := if (n : Int) ≤ x ∨ (n : Int) ≤ y then 91 else if wg kd z = true then 0 else 95
def bad (n : Nat) (kd : Int) (e : T3) : Int := bz n kd e.1 e.2.1 e.2.2
/-- What is wrong first. -/
def fa (n : Nat) (kd : Int) : List T3 → Int → Int
  | [], f => f
  | e :: L, f => if bad n kd e = 0 then fa n kd L f else bad n kd e
theorem fa_app (n : Nat) (kd : Int) (P L : List T3) (f : Int) (h : ∀ e ∈ P, bad n kd e = 0) : fa n kd (P ++ L) f = fa n kd L f := by
  induction P with
  | nil => rfl
  | cons e P ih => simp only [List.cons_append, fa, h e (by simp), if_true]; exact ih (fun x hx => h x (by simp [hx]))
theorem bad_ok {n : Nat} {kd : Int} {e : T3} (h : bad n kd e = 0) : e.1 < n ∧ e.2.1 < n ∧ wg kd e.2.2 = true := by
  unfold bad bz at h
  split at h
  · omega
  · split at h
    · rename_i a b; exact ⟨by omega, by omega, b⟩
    · omega
set_option maxHeartbeats 1000000 in
theorem isWeight_any (kd x : Int) (hk : kd ≠ 3) (w : World) : Calls Tryz.prog 174 #[.int .i64 kd, .int .u32 x] w fun e w' => e = .returned (.bool (wg kd x)) ∧ w' = w := by
  have h3 : (kd == 3) = false := by simpa using hk
  by_cases h : kd = 1
  · have h1 : (kd == 1) = true := by simpa using h
    have hw : wg kd x = (x == 0) := by unfold wg; rw [h]; rfl
    rw [hw]
    clear h hk hw
    go_enter Tryz.func174, Tryz.ntmps174
    go_wp2
    all_goals go_ret
    all_goals exact ⟨rfl, rfl⟩
  · have h1 : (kd == 1) = false := by simpa using h
    have hw : wg kd x = true := by unfold wg; simp [h]
    rw [hw]
    clear h hk hw
    go_enter Tryz.func174, Tryz.ntmps174
    go_wp2
    all_goals go_ret
    all_goals exact ⟨rfl, rfl⟩
set_option maxHeartbeats 4000000 in
theorem fault_int (qb n : Nat) (kd : Int) (ed sl : Value) (o : Vd) (x y z : Int) (hk : kd ≠ 3) (w : World) (h : Iq w qb n kd ed sl o) :
    Calls Tryz.prog 94 #[.pointer (some ⟨qb, 0, none⟩), eV x y z] w fun e w' => e = .returned (.int .i64 (bz n kd x y z)) ∧ Below w.heap.size w w' := by
  obtain ⟨c0, c1, _⟩ := h.c
  have hlt := h.lt
  have HB : Hid (Below w.heap.size w (w.alloc (.cells #[.int .u32 x, .int .u32 y, .int .u32 z] 78))) := b1 _ _ _
  have HW := hide (fun W => isWeight_any kd z hk W)
  clear h
  by_cases h1 : (n : Int) ≤ x
  · have hb : bz n kd x y z = 91 := by unfold bz; rw [if_pos (Or.inl h1)]
    rw [hb]
    clear hb HW
    go_enter Tryz.func94, Tryz.ntmps94
    go_wp2_with (fail)
    go_quiet (fail)
    go_wp2
    all_goals go_ret
    all_goals exact ⟨rfl, belowN HB.out _⟩
  · by_cases h2 : (n : Int) ≤ y
    · have hb : bz n kd x y z = 91 := by unfold bz; rw [if_pos (Or.inr h2)]
      rw [hb]
      clear hb HW
      go_enter Tryz.func94, Tryz.ntmps94
      go_wp2_with (fail)
      go_quiet (fail)
      go_wp2
      all_goals go_ret
      all_goals exact ⟨rfl, belowN HB.out _⟩
    · cases hg : wg kd z with
      | true =>
        have hb : bz n kd x y z = 0 := by unfold bz; rw [if_neg (by simp; omega), if_pos hg]
        rw [hb]
        rw [hg] at HW
        clear hb hg
        go_enter Tryz.func94, Tryz.ntmps94
        go_wp2_with (fail)
        go_quiet (fail)
        go_wp2_with (fail)
        go_region_with (go_at_call 174; refine (HW.out _).mono ?_; rintro e1 w1 ⟨rfl, rfl⟩)
        all_goals go_wp2
        all_goals go_ret
        all_goals exact ⟨rfl, belowN HB.out _⟩
      | false =>
        have hb : bz n kd x y z = 95 := by unfold bz; rw [if_neg (by simp; omega), if_neg (by simp [hg])]
        rw [hb]
        rw [hg] at HW
        clear hb hg
        go_enter Tryz.func94, Tryz.ntmps94
        go_wp2_with (fail)
        go_quiet (fail)
        go_wp2_with (fail)
        go_region_with (go_at_call 174; refine (HW.out _).mono ?_; rintro e1 w1 ⟨rfl, rfl⟩)
        all_goals go_wp2
        all_goals go_ret
        all_goals exact ⟨rfl, belowN HB.out _⟩
theorem fault_any (qb n : Nat) (kd : Int) (ed sl : Value) (o : Vd) (x y z : Nat) (hk : kd ≠ 3) (w : World) (h : Iq w qb n kd ed sl o) :
    Calls Tryz.prog 94 #[.pointer (some ⟨qb, 0, none⟩), eV x y z] w fun e w' => e = .returned (.int .i64 (bad n kd (x, y, z))) ∧ Below w.heap.size w w' := fault_int qb n kd ed sl o x y z hk w h
end Au
end Go.Proofs.YtgoigcpdfecfhaaGreatDoor
