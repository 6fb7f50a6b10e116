import Derived.Test.YtiljdiagabepbaaDoorPbB
namespace Go.Proofs.YtiljdiagabepbaaDoor
namespace Pb
open Go.RowKit
set_option linter.unusedVariables false
set_option maxHeartbeats 1600000 in
set_option maxRecDepth 8000 in
theorem gate_create (g gp gn gd : Nat) (q ops used : Int) (ch : Value) (caps : Array Value) (w : World) (R : Int → World → Prop) (ho : 0 ≤ ops) (ho1 : ops < 4611686018427387904) (hg : w.heap[g]? = some (.cells (dk g q ops gp gn gd ch used) 68 (0, 0))) (hp : w.heap[gp]? = some (.map #[] 0))
    (hc : ∀ W, W.heap[g]? = some (.cells (dk g q (ops + 1) gp gn gd ch used) 68 (0, 0)) → Below w.heap.size (w.setCell ⟨g, 2, none⟩ (.int .i64 (ops + 1))) W → Calls Tryd.prog 21 (#[.agg #[.int .i64 0, .int .i64 0, .int .i64 0]] ++ caps) W fun e w' => ∃ E, e = .returned (.int .i64 E) ∧ R E w') :
    Calls Tryd.prog 20 #[.pointer (some ⟨g, 0, none⟩), .int .u8 8, .func (.func 21) #[] caps] w fun e w' => ∃ E, e = .returned (.int .i64 E) ∧ R E w' := by
  obtain ⟨c0, -⟩ := dcell hg 0 (.pointer (some ⟨g, 0, none⟩)) rfl
  obtain ⟨c2, f2⟩ := dcell hg 2 (.int .i64 ops) rfl
  obtain ⟨v, hv, gv, pv, sv⟩ : ∃ v, w.setCell ⟨g, 2, none⟩ (.int .i64 (ops + 1)) = v ∧ v.heap[g]? = some (.cells (dk g q (ops + 1) gp gn gd ch used) 68 (0, 0)) ∧ v.heap[gp]? = some (.map #[] 0) ∧ v.heap.size = w.heap.size := by
    refine ⟨_, rfl, sc hg 2 _, so hp (fun e => ?_) 2 _, by simp⟩
    subst e; rw [hg] at hp; cases hp
  have HC : Hid (∀ W, W.heap[g]? = some (.cells (dk g q (ops + 1) gp gn gd ch used) 68 (0, 0)) → Below w.heap.size v W → Calls Tryd.prog 21 (#[.agg #[.int .i64 0, .int .i64 0, .int .i64 0]] ++ caps) W fun e w' => ∃ E, e = .returned (.int .i64 E) ∧ R E w') := by rw [← hv]; exact hc
  have HS : Hid (∀ c, Calls Tryd.prog 49 #[.pointer (some ⟨g, 0, none⟩), .int .u8 c] v fun e w' => e = .returned (.agg #[.int .i64 0, .int .i64 0, .int .i64 0]) ∧ Below v.heap.size v w') := fun c => strikes_none g gp gn gd q (ops + 1) used ch c v gv pv
  obtain ⟨d3, -⟩ := dcell gv 3 (.bool false) rfl
  obtain ⟨d4, -⟩ := dcell gv 4 (.bool false) rfl
  have lg := (Array.getElem?_eq_some_iff.1 gv).1
  clear hc
  go_enter Tryd.func20, Tryd.ntmps20
  go_wp2_with (go_at_call 26; refine (made_any g _ c0).mono ?_; rintro e1 w1 ⟨rfl, hw1⟩; subst w1)
  refine (HS.out _).mono ?_
  rintro e2 w2 ⟨rfl, hw2⟩
  have g2 := (hw2.block g lg).trans gv
  have e4 := (hw2.cell (p := ⟨g, 4, none⟩) lg).trans d4
  obtain ⟨V, hV, bV, gV, kV, eV⟩ : ∃ V, w2.alloc (.cells #[.int .i64 0, .int .i64 0, .int .i64 0] 73) = V ∧ Below v.heap.size v V ∧ V.heap[g]? = some (.cells (dk g q (ops + 1) gp gn gd ch used) 68 (0, 0)) ∧ V.heap[w2.heap.size]? = some (.cells #[.int .i64 0, .int .i64 0, .int .i64 0] 73 (0, 0)) ∧ V.cell? ⟨g, 4, none⟩ = some (.bool false) := by
    have bx : Below w2.heap.size w2 (w2.alloc (.cells #[.int .i64 0, .int .i64 0, .int .i64 0] 73)) := (Below.refl _ _).alloc (Nat.le_refl _) _
    have l2 := (Array.getElem?_eq_some_iff.1 g2).1
    exact ⟨_, rfl, hw2.alloc hw2.size _, (bx.block g l2).trans g2, heap_alloc_last w2 _, (bx.cell (p := ⟨g, 4, none⟩) l2).trans e4⟩
  obtain ⟨y0, -⟩ := dcell kV 0 (.int .i64 0) rfl
  obtain ⟨y1, -⟩ := dcell kV 1 (.int .i64 0) rfl
  obtain ⟨y2, -⟩ := dcell kV 2 (.int .i64 0) rfl
  have HV : Hid (w2.alloc (.cells #[.int .i64 0, .int .i64 0, .int .i64 0] 73) = V) := hV
  have l2 := (Array.getElem?_eq_some_iff.1 g2).1
  clear hw2 hv gv pv HS hV y0 y1 y2
  go_wp2_with (fail)
  rw [HV.out]
  refine (HC.out V gV (by rw [← sv]; exact bV)).mono ?_
  rintro e3 w3 ⟨E, rfl, hR⟩
  go_wp2
  go_ret
  exact ⟨E, rfl, hR⟩
end Pb
end Go.Proofs.YtiljdiagabepbaaDoor
