import Derived.Test.YtdphfhpohlodcaaJnA
import Derived.Deep.RegionWith
import Derived.Handy
import Derived.Deep.OwnRows
namespace Go.Proofs.Ytdphfhpohlodcaa
namespace Jn
open Go.RowKit
set_option linter.unusedVariables false
theorem size46 : (Try.prog.info? 46).map (·.size) = some 32 := by kernel_rfl
theorem loadAt46 (w : World) (b : Nat) (c : Array Value) (hs : c.size = 32) (h : w.heap[b]? = some (.cells c 46 (0, 0))) :
    (Instr.loadAt 46 (.pointer (some ⟨b, 0, none⟩))).run Try.prog w = .ok (.agg c) w := by
  simp only [Instr.loadAt, Instr.sureAddr, Sem.run_bind, Sem.run_pure, Result.andThen]
  exact run_loadVar_row _ _ 46 46 c (0, 0) _ h Try.underlying46 rfl (by rw [hs]; exact size46)
theorem storeAt46 (w : World) (b : Nat) (c old : Array Value) (hs : c.size = 32) (ho : old.size = 32) (h1 : c.all (·.oneCell') = true) (h : w.heap[b]? = some (.cells old 46 (0, 0))) :
    (Instr.storeAt 46 (.pointer (some ⟨b, 0, none⟩)) (.agg c)).run Try.prog w = .ok () (w.setRow b c) := by
  simp only [Instr.storeAt, Instr.sureAddr, Sem.run_bind, Sem.run_pure, Result.andThen]
  exact run_storeVar_row _ _ 46 46 old c h (by rw [hs]; exact size46) (by omega) h1
theorem wpList_load46 {w : World} {ops : Array Oper} {rest : List Oper} {o : Oper} {a : Act} {Q : Exit → Act → World → Prop} (hgd : o.guard = none) (s : Operand) (ho : o.op = .load 46 s)
    (b : Nat) (c : Array Value) (hs : a.eval s = .pointer (some ⟨b, 0, none⟩)) (hsz : c.size = 32) (hh : w.heap[b]? = some (.cells c 46 (0, 0)))
    (h : wpList Try.prog ops Q rest (a.put o.dst (.agg c)) w) : wpList Try.prog ops Q (o :: rest) a w := by
  refine wpList_plain hgd fun K hK => ?_
  unfold Oper.wp execOp
  simp only [ho, hs, Sem.run_bind, Sem.run_pure, Result.andThen_ok, loadAt46 w b c hsz hh]
  exact hK _ _ h
theorem wpList_store46 {w : World} {ops : Array Oper} {rest : List Oper} {o : Oper} {a : Act} {Q : Exit → Act → World → Prop} (hgd : o.guard = none) (s x : Operand) (ho : o.op = .store 46 s x)
    (b : Nat) (c old : Array Value) (hs : a.eval s = .pointer (some ⟨b, 0, none⟩)) (hx : a.eval x = .agg c) (hsz : c.size = 32) (hoz : old.size = 32) (h1 : c.all (·.oneCell') = true) (hh : w.heap[b]? = some (.cells old 46 (0, 0)))
    (h : wpList Try.prog ops Q rest (a.put o.dst undef) (w.setRow b c)) : wpList Try.prog ops Q (o :: rest) a w := by
  refine wpList_plain hgd fun K hK => ?_
  unfold Oper.wp execOp
  simp only [ho, hs, hx, Sem.run_bind, Sem.run_pure, Result.andThen_ok, storeAt46 w b c old hsz hoz h1 hh]
  exact hK _ _ h
end Jn
end Go.Proofs.Ytdphfhpohlodcaa
