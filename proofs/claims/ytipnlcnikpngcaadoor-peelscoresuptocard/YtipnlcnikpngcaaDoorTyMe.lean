import Derived.Test.YtipnlcnikpngcaaDoorTyMc
namespace Go.Proofs.YtipnlcnikpngcaaDoor
namespace Ty
open Go.RowKit
set_option linter.unusedVariables false
theorem sizeTab : (Tryd.prog.info? 104).map (·.size) = some 20 := by kernel_rfl
theorem wpList_store20 (t : TypeId) (hi : (Tryd.prog.info? t).map (·.size) = some 20) {w : World} {ops : Array Oper} {rest : List Oper} {o : Oper} {a : Act} {Q : Exit → Act → World → Prop} (hgd : o.guard = none) (s x : Operand) (ho : o.op = .store t s x)
    (b : Nat) (c old : Array Value) (hs : a.eval s = .pointer (some ⟨b, 0, none⟩)) (hx : a.eval x = .agg c) (hsz : c.size = 20) (hoz : old.size = 20) (h1 : c.all (·.oneCell') = true) (hh : w.heap[b]? = some (.cells old t (0, 0)))
    (h : wpList Tryd.prog ops Q rest (a.put o.dst undef) (w.setRow b c)) : wpList Tryd.prog ops Q (o :: rest) a w := by
  have hl : (Instr.storeAt t (.pointer (some ⟨b, 0, none⟩)) (.agg c)).run Tryd.prog w = .ok () (w.setRow b c) := by
    simp only [Instr.storeAt, Instr.sureAddr, Sem.run_bind, Sem.run_pure, Result.andThen]
    exact run_storeVar_row _ _ t t old c hh (by rw [hsz]; exact hi) (by omega) h1
  refine wpList_plain hgd fun K hK => ?_
  unfold Oper.wp execOp
  simp only [ho, hs, hx, Sem.run_bind, Sem.run_pure, Result.andThen_ok, hl]
  exact hK _ _ h
/-- The table of monoids. -/
def tabM : Array Value := #[.int .i64 1, .func (.func 34) #[] #[], .int .i64 1, .func (.func 35) #[] #[], .int .i64 1, .func (.func 36) #[] #[], .int .i64 1, .func (.func 37) #[] #[], .int .i64 1, .func (.func 38) #[] #[], .int .i64 1, .func (.func 39) #[] #[], .int .i64 1, .func (.func 40) #[] #[], .int .i64 1, .func (.func 41) #[] #[], .int .i64 1, .func (.func 42) #[] #[], .int .i64 6, .func (.func 44) #[] #[]]
theorem tab_all : tabM.all (·.oneCell') = true := by decide +kernel
/-- The three variables of 'Mon'. -/
theorem mon_tab (w : World) (f : Nat → Int) : ∃ v v2, (w.alloc (.cells (st f) 41)).alloc (.cells #[.int .u64 0, .int .u64 0, .int .u64 0, .int .u64 0, .int .u64 0, .int .u64 0, .int .u64 0, .int .u64 0] 41) = v ∧ (v.alloc (.cells #[.int .i64 0, .nilFunc, .int .i64 0, .nilFunc, .int .i64 0, .nilFunc, .int .i64 0, .nilFunc, .int .i64 0, .nilFunc, .int .i64 0, .nilFunc, .int .i64 0, .nilFunc, .int .i64 0, .nilFunc, .int .i64 0, .nilFunc, .int .i64 0, .nilFunc] 104)).heap[w.heap.size + 1 + 1]? = some (.cells #[.int .i64 0, .nilFunc, .int .i64 0, .nilFunc, .int .i64 0, .nilFunc, .int .i64 0, .nilFunc, .int .i64 0, .nilFunc, .int .i64 0, .nilFunc, .int .i64 0, .nilFunc, .int .i64 0, .nilFunc, .int .i64 0, .nilFunc, .int .i64 0, .nilFunc] 104 (0, 0)) ∧ (v.alloc (.cells #[.int .i64 0, .nilFunc, .int .i64 0, .nilFunc, .int .i64 0, .nilFunc, .int .i64 0, .nilFunc, .int .i64 0, .nilFunc, .int .i64 0, .nilFunc, .int .i64 0, .nilFunc, .int .i64 0, .nilFunc, .int .i64 0, .nilFunc, .int .i64 0, .nilFunc] 104)).setRow (w.heap.size + 1 + 1) #[.int .i64 1, .func (.func 34) #[] #[], .int .i64 1, .func (.func 35) #[] #[], .int .i64 1, .func (.func 36) #[] #[], .int .i64 1, .func (.func 37) #[] #[], .int .i64 1, .func (.func 38) #[] #[], .int .i64 1, .func (.func 39) #[] #[], .int .i64 1, .func (.func 40) #[] #[], .int .i64 1, .func (.func 41) #[] #[], .int .i64 1, .func (.func 42) #[] #[], .int .i64 6, .func (.func 44) #[] #[]] = v2 ∧ v.heap.size = w.heap.size + 1 + 1 ∧
    Below w.heap.size w v2 ∧ v2.heap.size = w.heap.size + 1 + 1 + 1 ∧ v2.heap[w.heap.size]? = some (.cells (st f) 41 (0, 0)) ∧ v2.heap[w.heap.size + 1]? = some (.cells (st (fun _ => 0)) 41 (0, 0)) ∧ v2.heap[w.heap.size + 1 + 1]? = some (.cells tabM 104 (0, 0)) := by
  obtain ⟨v, hv, hb, hs, h0, h1⟩ := two_states w f
  have hl := heap_alloc_last v (.cells #[.int .i64 0, .nilFunc, .int .i64 0, .nilFunc, .int .i64 0, .nilFunc, .int .i64 0, .nilFunc, .int .i64 0, .nilFunc, .int .i64 0, .nilFunc, .int .i64 0, .nilFunc, .int .i64 0, .nilFunc, .int .i64 0, .nilFunc, .int .i64 0, .nilFunc] 104)
  rw [hs] at hl
  refine ⟨v, _, hv, hl, rfl, hs, below_setRow _ _ (hb.alloc (by omega) _) (by omega), by simp [hs], ?_, ?_, ?_⟩
  · rw [setRow_other _ _ _ _ (by omega), blk_alloc _ _ _ (by omega)]; exact h0
  · rw [setRow_other _ _ _ _ (by omega), blk_alloc _ _ _ (by omega)]; exact h1
  · exact setRow_heap _ (w.heap.size + 1 + 1) _ _ 104 (0, 0) hl
theorem tab_cell {v : World} {g : Nat} (h : v.heap[g]? = some (.cells tabM 104 (0, 0))) (i : Nat) (x : Value) (hx : tabM[i]? = some x) : v.cell? ⟨g, i, none⟩ = some x := by
  simp [World.cell?, h, hx]
theorem st_open (f : Nat → Int) : ∃ x0 x1 x2 x3 x4 x5 x6 x7 : Int, st f = #[.int .u64 x0, .int .u64 x1, .int .u64 x2, .int .u64 x3, .int .u64 x4, .int .u64 x5, .int .u64 x6, .int .u64 x7] := ⟨_, _, _, _, _, _, _, _, rfl⟩
/-- Eight cells. -/
abbrev K8 (w : World) (g : Nat) (x0 x1 x2 x3 x4 x5 x6 x7 : Int) : Prop := w.cell? ⟨g, 0, none⟩ = some (.int .u64 x0) ∧ w.cell? ⟨g, 1, none⟩ = some (.int .u64 x1) ∧ w.cell? ⟨g, 2, none⟩ = some (.int .u64 x2) ∧ w.cell? ⟨g, 3, none⟩ = some (.int .u64 x3) ∧ w.cell? ⟨g, 4, none⟩ = some (.int .u64 x4) ∧ w.cell? ⟨g, 5, none⟩ = some (.int .u64 x5) ∧ w.cell? ⟨g, 6, none⟩ = some (.int .u64 x6) ∧ w.cell? ⟨g, 7, none⟩ = some (.int .u64 x7)
theorem k8_of {w : World} {g : Nat} {t : TypeId} {x0 x1 x2 x3 x4 x5 x6 x7 : Int} (h : w.heap[g]? = some (.cells #[.int .u64 x0, .int .u64 x1, .int .u64 x2, .int .u64 x3, .int .u64 x4, .int .u64 x5, .int .u64 x6, .int .u64 x7] t (0, 0))) : K8 w g x0 x1 x2 x3 x4 x5 x6 x7 ∧ ∀ i, w.frozen? ⟨g, i, none⟩ = false := by
  refine ⟨⟨?_, ?_, ?_, ?_, ?_, ?_, ?_, ?_⟩, fun i => ?_⟩ <;> simp [World.cell?, World.frozen?, h]
abbrev sets8 (w : World) (g : Nat) (x0 x1 x2 x3 x4 x5 x6 x7 : Int) : World := ((((((((w.setCell ⟨g, 0, none⟩ (.int .u64 x0)).setCell ⟨g, 1, none⟩ (.int .u64 x1)).setCell ⟨g, 2, none⟩ (.int .u64 x2)).setCell ⟨g, 3, none⟩ (.int .u64 x3)).setCell ⟨g, 4, none⟩ (.int .u64 x4)).setCell ⟨g, 5, none⟩ (.int .u64 x5)).setCell ⟨g, 6, none⟩ (.int .u64 x6)).setCell ⟨g, 7, none⟩ (.int .u64 x7))
theorem eight_sets {w : World} {g : Nat} {t : TypeId} {f : Nat → Value} {x0 x1 x2 x3 x4 x5 x6 x7 : Int} (h : w.rowIs g t 8 f) : (sets8 w g x0 x1 x2 x3 x4 x5 x6 x7).heap[g]? = some (.cells #[.int .u64 x0, .int .u64 x1, .int .u64 x2, .int .u64 x3, .int .u64 x4, .int .u64 x5, .int .u64 x6, .int .u64 x7] t (0, 0)) := by
  obtain ⟨c, hc, hs, hv⟩ := ((((((((h.set 0 (.int .u64 x0)).set 1 (.int .u64 x1)).set 2 (.int .u64 x2)).set 3 (.int .u64 x3)).set 4 (.int .u64 x4)).set 5 (.int .u64 x5)).set 6 (.int .u64 x6)).set 7 (.int .u64 x7))
  rw [hc]
  have e : c = #[.int .u64 x0, .int .u64 x1, .int .u64 x2, .int .u64 x3, .int .u64 x4, .int .u64 x5, .int .u64 x6, .int .u64 x7] := by
    apply Array.ext_getElem?
    intro i
    by_cases hi : i < 8
    · rw [hv i hi]
      match i, hi with
      | 0, _ => rfl
      | 1, _ => rfl
      | 2, _ => rfl
      | 3, _ => rfl
      | 4, _ => rfl
      | 5, _ => rfl
      | 6, _ => rfl
      | 7, _ => rfl
    · rw [Array.getElem?_eq_none (by omega), Array.getElem?_eq_none (by show 8 ≤ i; omega)]
  rw [e]
theorem sets_below8 {B : Nat} {w0 w : World} {g : Nat} {x0 x1 x2 x3 x4 x5 x6 x7 : Int} (h : Below B w0 w) (hg : B ≤ g) : Below B w0 (sets8 w g x0 x1 x2 x3 x4 x5 x6 x7) :=
  ((((((((h.setCell (show B ≤ (⟨g, 0, none⟩ : Addr).block from hg) _).setCell (show B ≤ (⟨g, 1, none⟩ : Addr).block from hg) _).setCell (show B ≤ (⟨g, 2, none⟩ : Addr).block from hg) _).setCell (show B ≤ (⟨g, 3, none⟩ : Addr).block from hg) _).setCell (show B ≤ (⟨g, 4, none⟩ : Addr).block from hg) _).setCell (show B ≤ (⟨g, 5, none⟩ : Addr).block from hg) _).setCell (show B ≤ (⟨g, 6, none⟩ : Addr).block from hg) _).setCell (show B ≤ (⟨g, 7, none⟩ : Addr).block from hg) _)
end Ty
end Go.Proofs.YtipnlcnikpngcaaDoor
