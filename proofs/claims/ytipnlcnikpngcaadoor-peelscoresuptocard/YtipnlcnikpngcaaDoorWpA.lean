import Derived.Test.YtipnlcnikpngcaaDoorRows
import Derived.WalkKit
import Derived.BigQuiet
import Derived.BigRegion
import Derived.Deep.QuietTactic
import Derived.Deep.RegionWith
import Derived.Deep.RegionHeld3
import Derived.WalkSmall
import Derived.Handy
import Derived.Below
import Derived.OwnWalk
import Derived.Laws.CopyOwn
namespace Go.Proofs.YtipnlcnikpngcaaDoor
namespace Wp
open Go.RowKit
set_option linter.unusedVariables false
set_option maxRecDepth 8000
theorem ret_bool {a b : Bool} (h : a = b) : Ending.returned (.bool a) = .returned (.bool b) := by rw [h]
theorem b1 (w : World) (t : TypeId) (v : Array Value) : Below w.heap.size w (w.alloc (.cells v t)) := (Below.refl _ w).alloc (Nat.le_refl _) _
theorem belowN {B : Nat} {w w' : World} (h : Below B w w') (n : Nat) : Below B w (w'.drewN n) := ⟨h.os, h.tape, h.output, h.size, h.block⟩
theorem belowD {B : Nat} {w w' : World} (h : Below B w w') : Below B w w'.drew := ⟨h.os, h.tape, h.output, h.size, h.block⟩
theorem at0 (w : World) (o : Obj) : (w.alloc o).heap[w.heap.size]? = some o := by
  show (w.heap.push o)[w.heap.size]? = _; simp
theorem keep {w : World} {b : Nat} {x : Obj} (o : Obj) (h : w.heap[b]? = some x) : (w.alloc o).heap[b]? = some x := by
  have hb : b < w.heap.size := by
    rcases Nat.lt_or_ge b w.heap.size with k | k
    · exact k
    · rw [Array.getElem?_eq_none (by omega)] at h; cases h
  show (w.heap.push o)[b]? = _
  rw [Array.getElem?_push, if_neg (by omega)]; exact h
theorem keepD {w : World} {b : Nat} {x : Obj} (h : w.heap[b]? = some x) : w.drew.heap[b]? = some x := h
theorem hide {p : Prop} (h : p) : Hid p := h
theorem bA {B : Nat} {w w' : World} (h : Below B w w') (hB : B ≤ w'.heap.size) (o : Obj) : Below B w (w'.alloc o) := h.alloc hB o
abbrev sv (s : Nat → Int) : Array Value := #[.int .u64 (s 0), .int .u64 (s 1), .int .u64 (s 2), .int .u64 (s 3), .int .u64 (s 4), .int .u64 (s 5), .int .u64 (s 6), .int .u64 (s 7)]
theorem loadAtN (n : Nat) (t e : TypeId) (hu : Tryd.prog.underlying t = some (.array n e)) (hi : (Tryd.prog.info? t).map (·.size) = some n) (w : World) (b : Nat) (c : Array Value) (hs : c.size = n) (h : w.heap[b]? = some (.cells c t (0, 0))) :
    (Instr.loadAt t (.pointer (some ⟨b, 0, none⟩))).run Tryd.prog w = .ok (.agg c) w := by
  simp only [Instr.loadAt, Instr.sureAddr, Sem.run_bind, Sem.run_pure, Result.andThen]
  exact run_loadVar_row _ _ t t c (0, 0) _ h hu rfl (by rw [hs]; exact hi)
theorem wpList_loadN (n : Nat) (t e : TypeId) (hu : Tryd.prog.underlying t = some (.array n e)) (hi : (Tryd.prog.info? t).map (·.size) = some n) {w : World} {ops : Array Oper} {rest : List Oper} {o : Oper} {a : Act} {Q : Exit → Act → World → Prop} (hgd : o.guard = none) (s : Operand) (ho : o.op = .load t s)
    (b : Nat) (c : Array Value) (hs : a.eval s = .pointer (some ⟨b, 0, none⟩)) (hsz : c.size = n) (hh : w.heap[b]? = some (.cells c t (0, 0)))
    (h : wpList Tryd.prog ops Q rest (a.put o.dst (.agg c)) w) : wpList Tryd.prog ops Q (o :: rest) a w := by
  refine wpList_plain hgd fun K hK => ?_
  unfold Oper.wp execOp
  simp only [ho, hs, Sem.run_bind, Sem.run_pure, Result.andThen_ok, loadAtN n t e hu hi w b c hsz hh]
  exact hK _ _ h
theorem size35 : (Tryd.prog.info? 41).map (·.size) = some 8 := by kernel_rfl
theorem size37 : (Tryd.prog.info? 65).map (·.size) = some 4 := by kernel_rfl
abbrev so (s : Nat → Int) : Obj := .cells (sv s) 41
abbrev z8 : Array Value := #[.int .u64 0, .int .u64 0, .int .u64 0, .int .u64 0, .int .u64 0, .int .u64 0, .int .u64 0, .int .u64 0]
abbrev cv (c : Nat → Int) : Array Value := #[.int .u64 (c 0), .int .u64 (c 1), .int .u64 (c 2), .int .u64 (c 3)]
abbrev z4 : Array Value := #[.int .u64 0, .int .u64 0, .int .u64 0, .int .u64 0]
theorem results_tmp4 {fn : Func} {t u v x : Tmp} (h : fn.results = #[.tmp t, .tmp u, .tmp v, .tmp x]) (tmps : Array Value) (P : Program) (w : World) :
    (results fn tmps).run P w = .ok (.tuple #[tmps.getD t undef, tmps.getD u undef, tmps.getD v undef, tmps.getD x undef]) w := by
  simp [results, h]
abbrev ev (a b c : Int) : Array Value := #[.int .u32 a, .int .u32 b, .int .u32 c]
abbrev K4 (b : Nat) (c : Nat → Int) (w : World) : Prop := w.cell? ⟨b, 0, none⟩ = some (.int .u64 (c 0)) ∧ w.cell? ⟨b, 1, none⟩ = some (.int .u64 (c 1)) ∧ w.cell? ⟨b, 2, none⟩ = some (.int .u64 (c 2)) ∧ w.cell? ⟨b, 3, none⟩ = some (.int .u64 (c 3))
abbrev K8 (b : Nat) (c : Nat → Int) (w : World) : Prop := w.cell? ⟨b, 0, none⟩ = some (.int .u64 (c 0)) ∧ w.cell? ⟨b, 1, none⟩ = some (.int .u64 (c 1)) ∧ w.cell? ⟨b, 2, none⟩ = some (.int .u64 (c 2)) ∧ w.cell? ⟨b, 3, none⟩ = some (.int .u64 (c 3)) ∧ w.cell? ⟨b, 4, none⟩ = some (.int .u64 (c 4)) ∧ w.cell? ⟨b, 5, none⟩ = some (.int .u64 (c 5)) ∧ w.cell? ⟨b, 6, none⟩ = some (.int .u64 (c 6)) ∧ w.cell? ⟨b, 7, none⟩ = some (.int .u64 (c 7))
abbrev K3 (b : Nat) (x y z : Int) (w : World) : Prop := w.cell? ⟨b, 0, none⟩ = some (.int .u32 x) ∧ w.cell? ⟨b, 1, none⟩ = some (.int .u32 y) ∧ w.cell? ⟨b, 2, none⟩ = some (.int .u32 z)
theorem k4 {w : World} {b : Nat} {c : Nat → Int} {t : TypeId} (h : w.heap[b]? = some (.cells (cv c) t (0, 0))) : K4 b c w := by
  refine ⟨?_, ?_, ?_, ?_⟩ <;> exact (cell_of_row w b _ _ t (0, 0) h).trans rfl
theorem k8 {w : World} {b : Nat} {c : Nat → Int} {t : TypeId} (h : w.heap[b]? = some (.cells (sv c) t (0, 0))) : K8 b c w := by
  refine ⟨?_, ?_, ?_, ?_, ?_, ?_, ?_, ?_⟩ <;> exact (cell_of_row w b _ _ t (0, 0) h).trans rfl
theorem k3 {w : World} {b : Nat} {x y z : Int} {t : TypeId} (h : w.heap[b]? = some (.cells (ev x y z) t (0, 0))) : K3 b x y z w := by
  refine ⟨?_, ?_, ?_⟩ <;> exact (cell_of_row w b _ _ t (0, 0) h).trans rfl
theorem K4.on {b n : Nat} {c : Nat → Int} {w w' : World} (h : K4 b c w) (hB : Below n w w') (hb : b < n) : K4 b c w' :=
  ⟨(hB.cell hb).trans h.1, (hB.cell hb).trans h.2.1, (hB.cell hb).trans h.2.2.1, (hB.cell hb).trans h.2.2.2⟩
theorem K8.on {b n : Nat} {c : Nat → Int} {w w' : World} (h : K8 b c w) (hB : Below n w w') (hb : b < n) : K8 b c w' :=
  ⟨(hB.cell hb).trans h.1, (hB.cell hb).trans h.2.1, (hB.cell hb).trans h.2.2.1, (hB.cell hb).trans h.2.2.2.1, (hB.cell hb).trans h.2.2.2.2.1, (hB.cell hb).trans h.2.2.2.2.2.1, (hB.cell hb).trans h.2.2.2.2.2.2.1, (hB.cell hb).trans h.2.2.2.2.2.2.2⟩
theorem K3.on {b n : Nat} {x y z : Int} {w w' : World} (h : K3 b x y z w) (hB : Below n w w') (hb : b < n) : K3 b x y z w' :=
  ⟨(hB.cell hb).trans h.1, (hB.cell hb).trans h.2.1, (hB.cell hb).trans h.2.2⟩
theorem sets8 {w : World} {g : Nat} {old : Array Value} {t : TypeId} {fr : Nat × Nat} (hg : w.heap[g]? = some (.cells old t fr)) (hs : old.size = 8) (v0 v1 v2 v3 v4 v5 v6 v7 : Value) :
    ((((((((w.setCell ⟨g, 0, none⟩ v0).setCell ⟨g, 1, none⟩ v1).setCell ⟨g, 2, none⟩ v2).setCell ⟨g, 3, none⟩ v3).setCell ⟨g, 4, none⟩ v4).setCell ⟨g, 5, none⟩ v5).setCell ⟨g, 6, none⟩ v6).setCell ⟨g, 7, none⟩ v7) = w.setRow g #[v0, v1, v2, v3, v4, v5, v6, v7] := by
  match old, hs with
  | ⟨[u0, u1, u2, u3, u4, u5, u6, u7]⟩, _ =>
    rw [setCell_eq_setRow w g 0 #[u0, u1, u2, u3, u4, u5, u6, u7] t fr v0 hg]
    rw [show (#[u0, u1, u2, u3, u4, u5, u6, u7] : Array Value).setIfInBounds 0 v0 = #[v0, u1, u2, u3, u4, u5, u6, u7] from rfl]
    have q0 := setRow_heap w g _ #[v0, u1, u2, u3, u4, u5, u6, u7] t fr hg
    rw [setCell_eq_setRow _ g 1 #[v0, u1, u2, u3, u4, u5, u6, u7] t fr v1 q0]
    rw [show (#[v0, u1, u2, u3, u4, u5, u6, u7] : Array Value).setIfInBounds 1 v1 = #[v0, v1, u2, u3, u4, u5, u6, u7] from rfl]
    rw [setRow_setRow]
    have q1 := setRow_heap w g _ #[v0, v1, u2, u3, u4, u5, u6, u7] t fr hg
    rw [setCell_eq_setRow _ g 2 #[v0, v1, u2, u3, u4, u5, u6, u7] t fr v2 q1]
    rw [show (#[v0, v1, u2, u3, u4, u5, u6, u7] : Array Value).setIfInBounds 2 v2 = #[v0, v1, v2, u3, u4, u5, u6, u7] from rfl]
    rw [setRow_setRow]
    have q2 := setRow_heap w g _ #[v0, v1, v2, u3, u4, u5, u6, u7] t fr hg
    rw [setCell_eq_setRow _ g 3 #[v0, v1, v2, u3, u4, u5, u6, u7] t fr v3 q2]
    rw [show (#[v0, v1, v2, u3, u4, u5, u6, u7] : Array Value).setIfInBounds 3 v3 = #[v0, v1, v2, v3, u4, u5, u6, u7] from rfl]
    rw [setRow_setRow]
    have q3 := setRow_heap w g _ #[v0, v1, v2, v3, u4, u5, u6, u7] t fr hg
    rw [setCell_eq_setRow _ g 4 #[v0, v1, v2, v3, u4, u5, u6, u7] t fr v4 q3]
    rw [show (#[v0, v1, v2, v3, u4, u5, u6, u7] : Array Value).setIfInBounds 4 v4 = #[v0, v1, v2, v3, v4, u5, u6, u7] from rfl]
    rw [setRow_setRow]
    have q4 := setRow_heap w g _ #[v0, v1, v2, v3, v4, u5, u6, u7] t fr hg
    rw [setCell_eq_setRow _ g 5 #[v0, v1, v2, v3, v4, u5, u6, u7] t fr v5 q4]
    rw [show (#[v0, v1, v2, v3, v4, u5, u6, u7] : Array Value).setIfInBounds 5 v5 = #[v0, v1, v2, v3, v4, v5, u6, u7] from rfl]
    rw [setRow_setRow]
    have q5 := setRow_heap w g _ #[v0, v1, v2, v3, v4, v5, u6, u7] t fr hg
    rw [setCell_eq_setRow _ g 6 #[v0, v1, v2, v3, v4, v5, u6, u7] t fr v6 q5]
    rw [show (#[v0, v1, v2, v3, v4, v5, u6, u7] : Array Value).setIfInBounds 6 v6 = #[v0, v1, v2, v3, v4, v5, v6, u7] from rfl]
    rw [setRow_setRow]
    have q6 := setRow_heap w g _ #[v0, v1, v2, v3, v4, v5, v6, u7] t fr hg
    rw [setCell_eq_setRow _ g 7 #[v0, v1, v2, v3, v4, v5, v6, u7] t fr v7 q6]
    rw [show (#[v0, v1, v2, v3, v4, v5, v6, u7] : Array Value).setIfInBounds 7 v7 = #[v0, v1, v2, v3, v4, v5, v6, v7] from rfl]
    rw [setRow_setRow]
theorem sets4 {w : World} {g : Nat} {old : Array Value} {t : TypeId} {fr : Nat × Nat} (hg : w.heap[g]? = some (.cells old t fr)) (hs : old.size = 4) (v0 v1 v2 v3 : Value) :
    ((((w.setCell ⟨g, 0, none⟩ v0).setCell ⟨g, 1, none⟩ v1).setCell ⟨g, 2, none⟩ v2).setCell ⟨g, 3, none⟩ v3) = w.setRow g #[v0, v1, v2, v3] := by
  match old, hs with
  | ⟨[u0, u1, u2, u3]⟩, _ =>
    rw [setCell_eq_setRow w g 0 #[u0, u1, u2, u3] t fr v0 hg]
    rw [show (#[u0, u1, u2, u3] : Array Value).setIfInBounds 0 v0 = #[v0, u1, u2, u3] from rfl]
    have q0 := setRow_heap w g _ #[v0, u1, u2, u3] t fr hg
    rw [setCell_eq_setRow _ g 1 #[v0, u1, u2, u3] t fr v1 q0]
    rw [show (#[v0, u1, u2, u3] : Array Value).setIfInBounds 1 v1 = #[v0, v1, u2, u3] from rfl]
    rw [setRow_setRow]
    have q1 := setRow_heap w g _ #[v0, v1, u2, u3] t fr hg
    rw [setCell_eq_setRow _ g 2 #[v0, v1, u2, u3] t fr v2 q1]
    rw [show (#[v0, v1, u2, u3] : Array Value).setIfInBounds 2 v2 = #[v0, v1, v2, u3] from rfl]
    rw [setRow_setRow]
    have q2 := setRow_heap w g _ #[v0, v1, v2, u3] t fr hg
    rw [setCell_eq_setRow _ g 3 #[v0, v1, v2, u3] t fr v3 q2]
    rw [show (#[v0, v1, v2, u3] : Array Value).setIfInBounds 3 v3 = #[v0, v1, v2, v3] from rfl]
    rw [setRow_setRow]
theorem K4.row {b g : Nat} {c : Nat → Int} {w : World} (h : K4 b c w) (C : Array Value) (hb : b ≠ g) : K4 b c (w.setRow g C) :=
  ⟨(cell_setRow_other w g C _ hb).trans h.1, (cell_setRow_other w g C _ hb).trans h.2.1, (cell_setRow_other w g C _ hb).trans h.2.2.1, (cell_setRow_other w g C _ hb).trans h.2.2.2⟩
theorem K8.row {b g : Nat} {c : Nat → Int} {w : World} (h : K8 b c w) (C : Array Value) (hb : b ≠ g) : K8 b c (w.setRow g C) :=
  ⟨(cell_setRow_other w g C _ hb).trans h.1, (cell_setRow_other w g C _ hb).trans h.2.1, (cell_setRow_other w g C _ hb).trans h.2.2.1, (cell_setRow_other w g C _ hb).trans h.2.2.2.1, (cell_setRow_other w g C _ hb).trans h.2.2.2.2.1, (cell_setRow_other w g C _ hb).trans h.2.2.2.2.2.1, (cell_setRow_other w g C _ hb).trans h.2.2.2.2.2.2.1, (cell_setRow_other w g C _ hb).trans h.2.2.2.2.2.2.2⟩
/-- Eight cells that may be written. -/
abbrev F8 (b : Nat) (w : World) : Prop := w.frozen? ⟨b, 0, none⟩ = false ∧ w.frozen? ⟨b, 1, none⟩ = false ∧ w.frozen? ⟨b, 2, none⟩ = false ∧ w.frozen? ⟨b, 3, none⟩ = false ∧ w.frozen? ⟨b, 4, none⟩ = false ∧ w.frozen? ⟨b, 5, none⟩ = false ∧ w.frozen? ⟨b, 6, none⟩ = false ∧ w.frozen? ⟨b, 7, none⟩ = false
abbrev F4 (b : Nat) (w : World) : Prop := w.frozen? ⟨b, 0, none⟩ = false ∧ w.frozen? ⟨b, 1, none⟩ = false ∧ w.frozen? ⟨b, 2, none⟩ = false ∧ w.frozen? ⟨b, 3, none⟩ = false
theorem f8 {w : World} {b : Nat} {c : Array Value} {t : TypeId} (h : w.heap[b]? = some (.cells c t (0, 0))) : F8 b w := by
  refine ⟨?_, ?_, ?_, ?_, ?_, ?_, ?_, ?_⟩ <;> exact frozen_of_row w b _ _ t h
theorem f4 {w : World} {b : Nat} {c : Array Value} {t : TypeId} (h : w.heap[b]? = some (.cells c t (0, 0))) : F4 b w := by
  refine ⟨?_, ?_, ?_, ?_⟩ <;> exact frozen_of_row w b _ _ t h
theorem below_setRow {B b : Nat} {w wr : World} (h : Below B w wr) (hb : B ≤ b) (c : Array Value) : Below B w (wr.setRow b c) :=
  h.trans ⟨rfl, rfl, rfl, by simp, fun k hk => setRow_other wr _ k c (by omega)⟩
end Wp
end Go.Proofs.YtipnlcnikpngcaaDoor
