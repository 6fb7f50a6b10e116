import Derived.Test.YtlhpnhjfibkgpabWpJ
namespace Go.Proofs.Ytlhpnhjfibkgpab
namespace Wp
open Go.RowKit
set_option linter.unusedVariables false
set_option maxRecDepth 8000
theorem sets15 {w : World} {g : Nat} {old : Array Value} {t : TypeId} {fr : Nat × Nat} (hg : w.heap[g]? = some (.cells old t fr)) (hs : old.size = 15) (v0 v1 v2 v3 v4 v5 v6 v7 v8 v9 v10 v11 v12 v13 v14 : Value) :
    (((((((((((((((w.setCell ⟨g, 0, none⟩ v0).setCell ⟨g, 1, none⟩ v1).setCell ⟨g, 2, none⟩ v2).setCell ⟨g, 3, none⟩ v3).setCell ⟨g, 4, none⟩ v4).setCell ⟨g, 5, none⟩ v5).setCell ⟨g, 6, none⟩ v6).setCell ⟨g, 7, none⟩ v7).setCell ⟨g, 8, none⟩ v8).setCell ⟨g, 9, none⟩ v9).setCell ⟨g, 10, none⟩ v10).setCell ⟨g, 11, none⟩ v11).setCell ⟨g, 12, none⟩ v12).setCell ⟨g, 13, none⟩ v13).setCell ⟨g, 14, none⟩ v14) = w.setRow g #[v0, v1, v2, v3, v4, v5, v6, v7, v8, v9, v10, v11, v12, v13, v14] := by
  match old, hs with
  | ⟨[u0, u1, u2, u3, u4, u5, u6, u7, u8, u9, u10, u11, u12, u13, u14]⟩, _ =>
    rw [setCell_eq_setRow w g 0 #[u0, u1, u2, u3, u4, u5, u6, u7, u8, u9, u10, u11, u12, u13, u14] t fr v0 hg]
    rw [show (#[u0, u1, u2, u3, u4, u5, u6, u7, u8, u9, u10, u11, u12, u13, u14] : Array Value).setIfInBounds 0 v0 = #[v0, u1, u2, u3, u4, u5, u6, u7, u8, u9, u10, u11, u12, u13, u14] from rfl]
    have q1 := setRow_heap w g _ #[v0, u1, u2, u3, u4, u5, u6, u7, u8, u9, u10, u11, u12, u13, u14] t fr hg
    rw [setCell_eq_setRow _ g 1 #[v0, u1, u2, u3, u4, u5, u6, u7, u8, u9, u10, u11, u12, u13, u14] t fr v1 q1]
    rw [show (#[v0, u1, u2, u3, u4, u5, u6, u7, u8, u9, u10, u11, u12, u13, u14] : Array Value).setIfInBounds 1 v1 = #[v0, v1, u2, u3, u4, u5, u6, u7, u8, u9, u10, u11, u12, u13, u14] from rfl]
    rw [setRow_setRow]
    have q2 := setRow_heap w g _ #[v0, v1, u2, u3, u4, u5, u6, u7, u8, u9, u10, u11, u12, u13, u14] t fr hg
    rw [setCell_eq_setRow _ g 2 #[v0, v1, u2, u3, u4, u5, u6, u7, u8, u9, u10, u11, u12, u13, u14] t fr v2 q2]
    rw [show (#[v0, v1, u2, u3, u4, u5, u6, u7, u8, u9, u10, u11, u12, u13, u14] : Array Value).setIfInBounds 2 v2 = #[v0, v1, v2, u3, u4, u5, u6, u7, u8, u9, u10, u11, u12, u13, u14] from rfl]
    rw [setRow_setRow]
    have q3 := setRow_heap w g _ #[v0, v1, v2, u3, u4, u5, u6, u7, u8, u9, u10, u11, u12, u13, u14] t fr hg
    rw [setCell_eq_setRow _ g 3 #[v0, v1, v2, u3, u4, u5, u6, u7, u8, u9, u10, u11, u12, u13, u14] t fr v3 q3]
    rw [show (#[v0, v1, v2, u3, u4, u5, u6, u7, u8, u9, u10, u11, u12, u13, u14] : Array Value).setIfInBounds 3 v3 = #[v0, v1, v2, v3, u4, u5, u6, u7, u8, u9, u10, u11, u12, u13, u14] from rfl]
    rw [setRow_setRow]
    have q4 := setRow_heap w g _ #[v0, v1, v2, v3, u4, u5, u6, u7, u8, u9, u10, u11, u12, u13, u14] t fr hg
    rw [setCell_eq_setRow _ g 4 #[v0, v1, v2, v3, u4, u5, u6, u7, u8, u9, u10, u11, u12, u13, u14] t fr v4 q4]
    rw [show (#[v0, v1, v2, v3, u4, u5, u6, u7, u8, u9, u10, u11, u12, u13, u14] : Array Value).setIfInBounds 4 v4 = #[v0, v1, v2, v3, v4, u5, u6, u7, u8, u9, u10, u11, u12, u13, u14] from rfl]
    rw [setRow_setRow]
    have q5 := setRow_heap w g _ #[v0, v1, v2, v3, v4, u5, u6, u7, u8, u9, u10, u11, u12, u13, u14] t fr hg
    rw [setCell_eq_setRow _ g 5 #[v0, v1, v2, v3, v4, u5, u6, u7, u8, u9, u10, u11, u12, u13, u14] t fr v5 q5]
    rw [show (#[v0, v1, v2, v3, v4, u5, u6, u7, u8, u9, u10, u11, u12, u13, u14] : Array Value).setIfInBounds 5 v5 = #[v0, v1, v2, v3, v4, v5, u6, u7, u8, u9, u10, u11, u12, u13, u14] from rfl]
    rw [setRow_setRow]
    have q6 := setRow_heap w g _ #[v0, v1, v2, v3, v4, v5, u6, u7, u8, u9, u10, u11, u12, u13, u14] t fr hg
    rw [setCell_eq_setRow _ g 6 #[v0, v1, v2, v3, v4, v5, u6, u7, u8, u9, u10, u11, u12, u13, u14] t fr v6 q6]
    rw [show (#[v0, v1, v2, v3, v4, v5, u6, u7, u8, u9, u10, u11, u12, u13, u14] : Array Value).setIfInBounds 6 v6 = #[v0, v1, v2, v3, v4, v5, v6, u7, u8, u9, u10, u11, u12, u13, u14] from rfl]
    rw [setRow_setRow]
    have q7 := setRow_heap w g _ #[v0, v1, v2, v3, v4, v5, v6, u7, u8, u9, u10, u11, u12, u13, u14] t fr hg
    rw [setCell_eq_setRow _ g 7 #[v0, v1, v2, v3, v4, v5, v6, u7, u8, u9, u10, u11, u12, u13, u14] t fr v7 q7]
    rw [show (#[v0, v1, v2, v3, v4, v5, v6, u7, u8, u9, u10, u11, u12, u13, u14] : Array Value).setIfInBounds 7 v7 = #[v0, v1, v2, v3, v4, v5, v6, v7, u8, u9, u10, u11, u12, u13, u14] from rfl]
    rw [setRow_setRow]
    have q8 := setRow_heap w g _ #[v0, v1, v2, v3, v4, v5, v6, v7, u8, u9, u10, u11, u12, u13, u14] t fr hg
    rw [setCell_eq_setRow _ g 8 #[v0, v1, v2, v3, v4, v5, v6, v7, u8, u9, u10, u11, u12, u13, u14] t fr v8 q8]
    rw [show (#[v0, v1, v2, v3, v4, v5, v6, v7, u8, u9, u10, u11, u12, u13, u14] : Array Value).setIfInBounds 8 v8 = #[v0, v1, v2, v3, v4, v5, v6, v7, v8, u9, u10, u11, u12, u13, u14] from rfl]
    rw [setRow_setRow]
    have q9 := setRow_heap w g _ #[v0, v1, v2, v3, v4, v5, v6, v7, v8, u9, u10, u11, u12, u13, u14] t fr hg
    rw [setCell_eq_setRow _ g 9 #[v0, v1, v2, v3, v4, v5, v6, v7, v8, u9, u10, u11, u12, u13, u14] t fr v9 q9]
    rw [show (#[v0, v1, v2, v3, v4, v5, v6, v7, v8, u9, u10, u11, u12, u13, u14] : Array Value).setIfInBounds 9 v9 = #[v0, v1, v2, v3, v4, v5, v6, v7, v8, v9, u10, u11, u12, u13, u14] from rfl]
    rw [setRow_setRow]
    have q10 := setRow_heap w g _ #[v0, v1, v2, v3, v4, v5, v6, v7, v8, v9, u10, u11, u12, u13, u14] t fr hg
    rw [setCell_eq_setRow _ g 10 #[v0, v1, v2, v3, v4, v5, v6, v7, v8, v9, u10, u11, u12, u13, u14] t fr v10 q10]
    rw [show (#[v0, v1, v2, v3, v4, v5, v6, v7, v8, v9, u10, u11, u12, u13, u14] : Array Value).setIfInBounds 10 v10 = #[v0, v1, v2, v3, v4, v5, v6, v7, v8, v9, v10, u11, u12, u13, u14] from rfl]
    rw [setRow_setRow]
    have q11 := setRow_heap w g _ #[v0, v1, v2, v3, v4, v5, v6, v7, v8, v9, v10, u11, u12, u13, u14] t fr hg
    rw [setCell_eq_setRow _ g 11 #[v0, v1, v2, v3, v4, v5, v6, v7, v8, v9, v10, u11, u12, u13, u14] t fr v11 q11]
    rw [show (#[v0, v1, v2, v3, v4, v5, v6, v7, v8, v9, v10, u11, u12, u13, u14] : Array Value).setIfInBounds 11 v11 = #[v0, v1, v2, v3, v4, v5, v6, v7, v8, v9, v10, v11, u12, u13, u14] from rfl]
    rw [setRow_setRow]
    have q12 := setRow_heap w g _ #[v0, v1, v2, v3, v4, v5, v6, v7, v8, v9, v10, v11, u12, u13, u14] t fr hg
    rw [setCell_eq_setRow _ g 12 #[v0, v1, v2, v3, v4, v5, v6, v7, v8, v9, v10, v11, u12, u13, u14] t fr v12 q12]
    rw [show (#[v0, v1, v2, v3, v4, v5, v6, v7, v8, v9, v10, v11, u12, u13, u14] : Array Value).setIfInBounds 12 v12 = #[v0, v1, v2, v3, v4, v5, v6, v7, v8, v9, v10, v11, v12, u13, u14] from rfl]
    rw [setRow_setRow]
    have q13 := setRow_heap w g _ #[v0, v1, v2, v3, v4, v5, v6, v7, v8, v9, v10, v11, v12, u13, u14] t fr hg
    rw [setCell_eq_setRow _ g 13 #[v0, v1, v2, v3, v4, v5, v6, v7, v8, v9, v10, v11, v12, u13, u14] t fr v13 q13]
    rw [show (#[v0, v1, v2, v3, v4, v5, v6, v7, v8, v9, v10, v11, v12, u13, u14] : Array Value).setIfInBounds 13 v13 = #[v0, v1, v2, v3, v4, v5, v6, v7, v8, v9, v10, v11, v12, v13, u14] from rfl]
    rw [setRow_setRow]
    have q14 := setRow_heap w g _ #[v0, v1, v2, v3, v4, v5, v6, v7, v8, v9, v10, v11, v12, v13, u14] t fr hg
    rw [setCell_eq_setRow _ g 14 #[v0, v1, v2, v3, v4, v5, v6, v7, v8, v9, v10, v11, v12, v13, u14] t fr v14 q14]
    rw [show (#[v0, v1, v2, v3, v4, v5, v6, v7, v8, v9, v10, v11, v12, v13, u14] : Array Value).setIfInBounds 14 v14 = #[v0, v1, v2, v3, v4, v5, v6, v7, v8, v9, v10, v11, v12, v13, v14] from rfl]
    rw [setRow_setRow]
/-- All cells of a Run. -/
abbrev KA (b : Nat) (st : Value) (A C : Nat → Int) (k u : Int) (w : World) : Prop := w.cell? ⟨b, 0, none⟩ = some (st) ∧ w.cell? ⟨b, 1, none⟩ = some (.int .u64 (A 0)) ∧ w.cell? ⟨b, 2, none⟩ = some (.int .u64 (A 1)) ∧ w.cell? ⟨b, 3, none⟩ = some (.int .u64 (A 2)) ∧ w.cell? ⟨b, 4, none⟩ = some (.int .u64 (A 3)) ∧ w.cell? ⟨b, 5, none⟩ = some (.int .u64 (A 4)) ∧ w.cell? ⟨b, 6, none⟩ = some (.int .u64 (A 5)) ∧ w.cell? ⟨b, 7, none⟩ = some (.int .u64 (A 6)) ∧ w.cell? ⟨b, 8, none⟩ = some (.int .u64 (A 7)) ∧ w.cell? ⟨b, 9, none⟩ = some (.int .u64 (C 0)) ∧ w.cell? ⟨b, 10, none⟩ = some (.int .u64 (C 1)) ∧ w.cell? ⟨b, 11, none⟩ = some (.int .u64 (C 2)) ∧ w.cell? ⟨b, 12, none⟩ = some (.int .u64 (C 3)) ∧ w.cell? ⟨b, 13, none⟩ = some (.int .i64 k) ∧ w.cell? ⟨b, 14, none⟩ = some (.int .u64 u)
theorem Rn.ka {w : World} {b : Nat} {st : Value} {A C : Nat → Int} {k u : Int} (h : Rn w b st A C k u) : KA b st A C k u w := by
  refine ⟨?_, ?_, ?_, ?_, ?_, ?_, ?_, ?_, ?_, ?_, ?_, ?_, ?_, ?_, ?_⟩ <;> exact (cell_of_row w b _ _ 40 (0, 0) h).trans rfl
abbrev F15 (b : Nat) (w : World) : Prop := w.frozen? ⟨b, 0, none⟩ = false ∧ w.frozen? ⟨b, 1, none⟩ = false ∧ w.frozen? ⟨b, 2, none⟩ = false ∧ w.frozen? ⟨b, 3, none⟩ = false ∧ w.frozen? ⟨b, 4, none⟩ = false ∧ w.frozen? ⟨b, 5, none⟩ = false ∧ w.frozen? ⟨b, 6, none⟩ = false ∧ w.frozen? ⟨b, 7, none⟩ = false ∧ w.frozen? ⟨b, 8, none⟩ = false ∧ w.frozen? ⟨b, 9, none⟩ = false ∧ w.frozen? ⟨b, 10, none⟩ = false ∧ w.frozen? ⟨b, 11, none⟩ = false ∧ w.frozen? ⟨b, 12, none⟩ = false ∧ w.frozen? ⟨b, 13, none⟩ = false ∧ w.frozen? ⟨b, 14, none⟩ = false
theorem Rn.f15 {w : World} {b : Nat} {st : Value} {A C : Nat → Int} {k u : Int} (h : Rn w b st A C k u) : F15 b w := by
  refine ⟨?_, ?_, ?_, ?_, ?_, ?_, ?_, ?_, ?_, ?_, ?_, ?_, ?_, ?_, ?_⟩ <;> exact frozen_of_row w b _ _ 40 h
theorem size39 : (Try.prog.info? 40).map (·.size) = some 15 := by kernel_rfl
end Wp
end Go.Proofs.Ytlhpnhjfibkgpab
