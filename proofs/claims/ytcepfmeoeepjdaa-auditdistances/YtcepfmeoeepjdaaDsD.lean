import Derived.Test.YtcepfmeoeepjdaaDsC
import Derived.Test.YtcepfmeoeepjdaaAuH
namespace Go.Proofs.Ytcepfmeoeepjdaa
namespace Au
open Go.RowKit
set_option linter.unusedVariables false
set_option maxRecDepth 8000
theorem drew_heap (w : World) : w.drew.heap = w.heap := rfl
theorem alloc_heap (w : World) (o : Obj) (k : Nat) (h : k < w.heap.size) : (w.alloc o).heap[k]? = w.heap[k]? := by
  show (w.heap.push o)[k]? = _
  rw [Array.getElem?_push, if_neg (by omega)]
theorem sets8 {w : World} {g : Nat} {old : Array Value} {t : TypeId} {fr : Nat × Nat} (hg : w.heap[g]? = some (.cells old t fr)) (hs : old.size = 8) (v0 v1 v2 v3 v4 v5 v6 v7 : Value) :
    ((((((((w.setCell ⟨g, 0, none⟩ v0).setCell ⟨g, 1, none⟩ v1).setCell ⟨g, 2, none⟩ v2).setCell ⟨g, 3, none⟩ v3).setCell ⟨g, 4, none⟩ v4).setCell ⟨g, 5, none⟩ v5).setCell ⟨g, 6, none⟩ v6).setCell ⟨g, 7, none⟩ v7) = w.setRow g #[v0, v1, v2, v3, v4, v5, v6, v7] := by
  match old, hs with
  | ⟨[u0, u1, u2, u3, u4, u5, u6, u7]⟩, _ =>
    rw [setCell_eq_setRow w g 0 #[u0, u1, u2, u3, u4, u5, u6, u7] t fr v0 hg]
    rw [show (#[u0, u1, u2, u3, u4, u5, u6, u7] : Array Value).setIfInBounds 0 v0 = #[v0, u1, u2, u3, u4, u5, u6, u7] from rfl]
    have q0 := setRow_heap w g _ #[v0, u1, u2, u3, u4, u5, u6, u7] t fr hg
    rw [setCell_eq_setRow _ g 1 #[v0, u1, u2, u3, u4, u5, u6, u7] t fr v1 q0]
    rw [show (#[v0, u1, u2, u3, u4, u5, u6, u7] : Array Value).setIfInBounds 1 v1 = #[v0, v1, u2, u3, u4, u5, u6, u7] from rfl]
    rw [setRow_setRow]
    have q1 := setRow_heap w g _ #[v0, v1, u2, u3, u4, u5, u6, u7] t fr hg
    rw [setCell_eq_setRow _ g 2 #[v0, v1, u2, u3, u4, u5, u6, u7] t fr v2 q1]
    rw [show (#[v0, v1, u2, u3, u4, u5, u6, u7] : Array Value).setIfInBounds 2 v2 = #[v0, v1, v2, u3, u4, u5, u6, u7] from rfl]
    rw [setRow_setRow]
    have q2 := setRow_heap w g _ #[v0, v1, v2, u3, u4, u5, u6, u7] t fr hg
    rw [setCell_eq_setRow _ g 3 #[v0, v1, v2, u3, u4, u5, u6, u7] t fr v3 q2]
    rw [show (#[v0, v1, v2, u3, u4, u5, u6, u7] : Array Value).setIfInBounds 3 v3 = #[v0, v1, v2, v3, u4, u5, u6, u7] from rfl]
    rw [setRow_setRow]
    have q3 := setRow_heap w g _ #[v0, v1, v2, v3, u4, u5, u6, u7] t fr hg
    rw [setCell_eq_setRow _ g 4 #[v0, v1, v2, v3, u4, u5, u6, u7] t fr v4 q3]
    rw [show (#[v0, v1, v2, v3, u4, u5, u6, u7] : Array Value).setIfInBounds 4 v4 = #[v0, v1, v2, v3, v4, u5, u6, u7] from rfl]
    rw [setRow_setRow]
    have q4 := setRow_heap w g _ #[v0, v1, v2, v3, v4, u5, u6, u7] t fr hg
    rw [setCell_eq_setRow _ g 5 #[v0, v1, v2, v3, v4, u5, u6, u7] t fr v5 q4]
    rw [show (#[v0, v1, v2, v3, v4, u5, u6, u7] : Array Value).setIfInBounds 5 v5 = #[v0, v1, v2, v3, v4, v5, u6, u7] from rfl]
    rw [setRow_setRow]
    have q5 := setRow_heap w g _ #[v0, v1, v2, v3, v4, v5, u6, u7] t fr hg
    rw [setCell_eq_setRow _ g 6 #[v0, v1, v2, v3, v4, v5, u6, u7] t fr v6 q5]
    rw [show (#[v0, v1, v2, v3, v4, v5, u6, u7] : Array Value).setIfInBounds 6 v6 = #[v0, v1, v2, v3, v4, v5, v6, u7] from rfl]
    rw [setRow_setRow]
    have q6 := setRow_heap w g _ #[v0, v1, v2, v3, v4, v5, v6, u7] t fr hg
    rw [setCell_eq_setRow _ g 7 #[v0, v1, v2, v3, v4, v5, v6, u7] t fr v7 q6]
    rw [show (#[v0, v1, v2, v3, v4, v5, v6, u7] : Array Value).setIfInBounds 7 v7 = #[v0, v1, v2, v3, v4, v5, v6, v7] from rfl]
    rw [setRow_setRow]
theorem far8 (w : World) (g k : Nat) (h : k ≠ g) (v0 v1 v2 v3 v4 v5 v6 v7 : Value) :
    ((((((((w.setCell ⟨g, 0, none⟩ v0).setCell ⟨g, 1, none⟩ v1).setCell ⟨g, 2, none⟩ v2).setCell ⟨g, 3, none⟩ v3).setCell ⟨g, 4, none⟩ v4).setCell ⟨g, 5, none⟩ v5).setCell ⟨g, 6, none⟩ v6).setCell ⟨g, 7, none⟩ v7).heap[k]? = w.heap[k]? :=
  (Below.heap_setCell _ _ _ _ h).trans ((Below.heap_setCell _ _ _ _ h).trans ((Below.heap_setCell _ _ _ _ h).trans ((Below.heap_setCell _ _ _ _ h).trans ((Below.heap_setCell _ _ _ _ h).trans ((Below.heap_setCell _ _ _ _ h).trans ((Below.heap_setCell _ _ _ _ h).trans (Below.heap_setCell _ _ _ _ h)))))))
/-- A state in a block of its own. -/
def B8 (w : World) (p : Nat) (s : Nat → Int) : Prop := w.heap[p]? = some (.cells (sv s) 63 (0, 0))
theorem B8.c {w : World} {p : Nat} {s : Nat → Int} (h : B8 w p s) (i : Nat) (hi : i < 8) : w.cell? ⟨p, i, none⟩ = some (.int .u64 (s i)) := (cell_of_row w p _ _ 63 (0, 0) h).trans (sv_get s i hi)
theorem B8.lt {w : World} {p : Nat} {s : Nat → Int} (h : B8 w p s) : p < w.heap.size := lt_of_some h
/-- Rule 3 of ways, and what is ground for rule 4. -/
def D0 (S : Nat → Nat → Int) (v : Nat) : Int := IntKind.i64.wrap (S v 0)
def s3E (k : Int) (S : Nat → Nat → Int) (v : Nat) (e : T3) : Bool := e.2.1 == v && (!(S e.1 0 == 9223372036854775807) && decide (cm (D0 S e.1) (wk k e.2.2) (D0 S v) < 0))
def s4E (k : Int) (S : Nat → Nat → Int) (v : Nat) (e : T3) : Bool := e.2.1 == v && (!(S e.1 0 == 9223372036854775807) && (cm (D0 S e.1) (wk k e.2.2) (D0 S v) == 0 && decide (S e.1 2 < S v 2)))
/-- All that lay there lies as it lay. -/
def Fz (w0 W : World) : Prop := w0.heap.size ≤ W.heap.size ∧ ∀ k, k < w0.heap.size → W.heap[k]? = w0.heap[k]?
theorem Fz.refl (w : World) : Fz w w := ⟨Nat.le_refl _, fun _ _ => rfl⟩
theorem Fz.drew {w W : World} (h : Fz w W) : Fz w W.drew := h
theorem Fz.alloc {w W : World} (h : Fz w W) (o : Obj) : Fz w (W.alloc o) := ⟨by rw [World.size_alloc]; have := h.1; omega, fun k hk => (alloc_heap W o k (by have := h.1; omega)).trans (h.2 k hk)⟩
theorem Fz.set8 {w W : World} (h : Fz w W) (g : Nat) (hg : w.heap.size ≤ g) (v0 v1 v2 v3 v4 v5 v6 v7 : Value) : Fz w ((((((((W.setCell ⟨g, 0, none⟩ v0).setCell ⟨g, 1, none⟩ v1).setCell ⟨g, 2, none⟩ v2).setCell ⟨g, 3, none⟩ v3).setCell ⟨g, 4, none⟩ v4).setCell ⟨g, 5, none⟩ v5).setCell ⟨g, 6, none⟩ v6).setCell ⟨g, 7, none⟩ v7) := ⟨by simp; exact h.1, fun k hk => (far8 W g k (by omega) v0 v1 v2 v3 v4 v5 v6 v7).trans (h.2 k hk)⟩
theorem at1 (w : World) (o o' : Obj) : ((w.alloc o).alloc o').heap[w.heap.size + 1]? = some o' := by
  have := at0 (w.alloc o) o'
  rw [World.size_alloc] at this
  exact this
theorem B8.of {w w' : World} {p : Nat} {s : Nat → Int} (h : B8 w p s) (e : w'.heap[p]? = w.heap[p]?) : B8 w' p s := e.trans h
abbrev S3 (p q db qb s rb n eb x y z : Nat) (u v : Int) (w : World) : Prop := w.cell? ⟨p, 0, none⟩ = some (.int .u64 u) ∧ w.cell? ⟨q, 0, none⟩ = some (.int .u64 v) ∧ w.cell? ⟨db, 0, none⟩ = some (.pointer (some ⟨qb, 0, none⟩)) ∧ w.cell? ⟨db, 1, none⟩ = some (.int .u32 (s : Int)) ∧ w.cell? ⟨db, 2, none⟩ = some (.slice (some ⟨rb, 0, none⟩) n n) ∧ w.cell? ⟨eb, 0, none⟩ = some (.int .u32 (x : Int)) ∧ w.cell? ⟨eb, 1, none⟩ = some (.int .u32 (y : Int)) ∧ w.cell? ⟨eb, 2, none⟩ = some (.int .u32 (z : Int))
/-- What stands behind the two states' loads. -/
structure Tw (w0 W : World) (p q db qb s rb n m eb x y z : Nat) (u v : Nat → Int) (kd : Int) (ed sl : Value) (o : Vd) (M : Nat → Int) : Prop where
  bp : B8 W p u
  bq : B8 W q v
  d3 : D3 W db qb s rb n
  e3 : E3 W eb x y z
  iq : Iq W qb n kd ed sl o
  gu : GU W rb m M
  ch : Ch (fun k => k = rb ∨ k = qb) w0 W
theorem Tw.on {w0 W W' : World} {p q db qb s rb n m eb x y z : Nat} {u v : Nat → Int} {kd : Int} {ed sl : Value} {o : Vd} {M : Nat → Int} (h : Tw w0 W p q db qb s rb n m eb x y z u v kd ed sl o M) (hb : Below W.heap.size W.drew W') : Tw w0 W' p q db qb s rb n m eb x y z u v kd ed sl o M := by
  have f : ∀ k, k < W.heap.size → W'.heap[k]? = W.heap[k]? := fun k hk => hb.block k hk
  exact ⟨h.bp.of (f _ h.bp.lt), h.bq.of (f _ h.bq.lt), h.d3.of (f _ h.d3.lt), (f _ h.e3.lt).trans h.e3, (f _ h.iq.lt).trans h.iq, h.gu.of (f _ h.gu.lt), (h.ch.drew).trans (Ch.of hb)⟩
theorem Tw.s3 {w0 W : World} {p q db qb s rb n m eb x y z : Nat} {u v : Nat → Int} {kd : Int} {ed sl : Value} {o : Vd} {M : Nat → Int} (h : Tw w0 W p q db qb s rb n m eb x y z u v kd ed sl o M) (W' : World) (hb : Below W.heap.size W.drew W') : S3 p q db qb s rb n eb x y z (u 0) (v 0) W' := by
  have h' := h.on hb
  exact ⟨h'.bp.c 0 (by decide), h'.bq.c 0 (by decide), h'.d3.c.1, h'.d3.c.2.1, h'.d3.c.2.2, h'.e3.c.1, h'.e3.c.2.1, h'.e3.c.2.2⟩
end Au
end Go.Proofs.Ytcepfmeoeepjdaa
