import Derived.Test.YtipnlcnikpngcaaDoorWpA
namespace Go.Proofs.YtipnlcnikpngcaaDoor
namespace Wp
open Go.RowKit
set_option linter.unusedVariables false
set_option maxRecDepth 8000
/-- A state with one word other. -/
def up (s : Nat → Int) (j : Nat) (x : Int) : Nat → Int := fun i => if i = j then x else s i
theorem up_eq (s : Nat → Int) (j : Nat) (x : Int) : up s j x j = x := by simp [up]
theorem up_ne (s : Nat → Int) (j i : Nat) (x : Int) (h : i ≠ j) : up s j x i = s i := by simp [up, h]
abbrev K2 (b : Nat) (x y : Int) (w : World) : Prop := w.cell? ⟨b, 0, none⟩ = some (.int .u64 x) ∧ w.cell? ⟨b, 1, none⟩ = some (.int .u64 y)
theorem k2 {w : World} {b : Nat} {x y : Int} {t : TypeId} (h : w.heap[b]? = some (.cells #[.int .u64 x, .int .u64 y] t (0, 0))) : K2 b x y w := by
  refine ⟨?_, ?_⟩ <;> exact (cell_of_row w b _ _ t (0, 0) h).trans rfl
theorem K2.on {b n : Nat} {x y : Int} {w w' : World} (h : K2 b x y w) (hB : Below n w w') (hb : b < n) : K2 b x y w' := ⟨(hB.cell hb).trans h.1, (hB.cell hb).trans h.2⟩
theorem K2.row {b g : Nat} {x y : Int} {w : World} (h : K2 b x y w) (C : Array Value) (hb : b ≠ g) : K2 b x y (w.setRow g C) := ⟨(cell_setRow_other w g C _ hb).trans h.1, (cell_setRow_other w g C _ hb).trans h.2⟩
theorem wu (x : Int) (h0 : 0 ≤ x) (h1 : x < 18446744073709551616) : IntKind.u64.wrap x = x := by simp only [IntKind.wrap, IntKind.signed, IntKind.bits]; simp; omega
theorem sizeK : (Tryd.prog.info? 73).map (·.size) = some 4 := by kernel_rfl
abbrev kv (a m b n : Int) : Array Value := #[.int .i64 a, .int .i64 m, .int .i64 b, .int .i64 n]
theorem k4i {w : World} {q : Nat} {a m b n : Int} {t : TypeId} (h : w.heap[q]? = some (.cells (kv a m b n) t (0, 0))) : w.cell? ⟨q, 0, none⟩ = some (.int .i64 a) ∧ w.cell? ⟨q, 1, none⟩ = some (.int .i64 m) ∧ w.cell? ⟨q, 2, none⟩ = some (.int .i64 b) ∧ w.cell? ⟨q, 3, none⟩ = some (.int .i64 n) := by
  refine ⟨?_, ?_, ?_, ?_⟩ <;> exact (cell_of_row w q _ _ t (0, 0) h).trans rfl
theorem K3.row {b g : Nat} {x y z : Int} {w : World} (h : K3 b x y z w) (D : Array Value) (hb : b ≠ g) : K3 b x y z (w.setRow g D) :=
  ⟨(cell_setRow_other w g D _ hb).trans h.1, (cell_setRow_other w g D _ hb).trans h.2.1, (cell_setRow_other w g D _ hb).trans h.2.2⟩
/-- Whatever of an order's or a set's three numbers. -/
abbrev rk (N A C : Int) : Array Value := #[.int .u32 N, .int .u32 A, .int .u32 C]
end Wp
end Go.Proofs.YtipnlcnikpngcaaDoor
