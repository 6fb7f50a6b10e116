import Derived.Test.YtiljdiagabepbaaGreatDoorNlF
import Derived.Laws.Rows
import Derived.Laws.Tables
import Derived.Deep.WholeRow
namespace Go.Proofs.YtiljdiagabepbaaGreatDoor
namespace Nl
open Go.RowKit
set_option linter.unusedVariables false
theorem sizeAns : (Tryz.prog.info? 45).map (·.size) = some 5 := by kernel_rfl
theorem wpList_store5 (t : TypeId) (hi : (Tryz.prog.info? t).map (·.size) = some 5) {w : World} {ops : Array Oper} {rest : List Oper} {o : Oper} {a : Act} {Q : Exit → Act → World → Prop} (hgd : o.guard = none) (s x : Operand) (ho : o.op = .store t s x)
    (b : Nat) (c old : Array Value) (hs : a.eval s = .pointer (some ⟨b, 0, none⟩)) (hx : a.eval x = .agg c) (hsz : c.size = 5) (hoz : old.size = 5) (h1 : c.all (·.oneCell') = true) (hh : w.heap[b]? = some (.cells old t (0, 0)))
    (h : wpList Tryz.prog ops Q rest (a.put o.dst undef) (w.setRow b c)) : wpList Tryz.prog ops Q (o :: rest) a w := by
  have hl : (Instr.storeAt t (.pointer (some ⟨b, 0, none⟩)) (.agg c)).run Tryz.prog w = .ok () (w.setRow b c) := by
    simp only [Instr.storeAt, Instr.sureAddr, Sem.run_bind, Sem.run_pure, Result.andThen]
    exact run_storeVar_row _ _ t t old c hh (by rw [hsz]; exact hi) (by omega) h1
  refine wpList_plain hgd fun K hK => ?_
  unfold Oper.wp execOp
  simp only [ho, hs, hx, Sem.run_bind, Sem.run_pure, Result.andThen_ok, hl]
  exact hK _ _ h
theorem ans_one (e : Int) (a : Option Addr) (l c : Nat) : (#[Value.int .i64 e, .slice a l c, .slice none 0 0, .slice none 0 0, .slice none 0 0]).all (·.oneCell') = true := by
  rw [Array.all_eq_true]
  intro i hi
  match i, hi with
  | 0, _ => rfl
  | 1, _ => rfl
  | 2, _ => rfl
  | 3, _ => rfl
  | 4, _ => rfl
theorem mid3 (w : World) (o1 o2 o3 : Obj) : (((w.alloc o1).alloc o2).alloc o3).heap[w.heap.size + 1]? = some o2 := by
  show (((w.heap.push o1).push o2).push o3)[w.heap.size + 1]? = some o2
  rw [Array.getElem?_push, if_neg (by simp), Array.getElem?_push, if_pos (by simp)]
theorem ans_slice {w : World} {sl : Value} {ns : List Int} (h : NumsIs w sl ns) : ∃ a l c, sl = .slice a l c := by
  rcases h with ⟨_, rfl⟩ | ⟨_, g, c, rfl, _⟩
  · exact ⟨_, _, _, rfl⟩
  · exact ⟨_, _, _, rfl⟩
theorem nums_row {w : World} {sl : Value} {ns : List Int} {b : Nat} {c : Array Value} {t : TypeId} {fr : Nat × Nat} {old : Array Value} (h : NumsIs w sl ns) (hb : w.heap[b]? = some (.cells old t fr)) (hne : ∀ g l c', sl = .slice (some ⟨g, 0, none⟩) l c' → g ≠ b) : NumsIs (w.setRow b c) sl ns := by
  rcases h with h | ⟨h0, g, c', rfl, hc⟩
  · exact .inl h
  · refine .inr ⟨h0, g, c', rfl, fun i hi => ?_⟩
    have e := setRow_other w b g c (hne g _ _ rfl)
    have := hc i hi
    simp only [World.cell?] at this ⊢
    rw [e]; exact this
set_option maxHeartbeats 1600000 in
set_option maxRecDepth 8000 in
theorem do_bes (p : Option Addr) (k : Int) (s t : ByteArray) (da : Option Addr) (dl dc : Nat) (at' n : Int) (ka : Option Addr) (kl kc : Nat) (pa : Option Addr) (pl pc : Nat) (e : Int) (ns : List Int) (hk : k < 1 ∨ 9 < k) (w : World)
    (hb : ∀ v, Below w.heap.size w v → Calls Tryz.prog 37 #[.pointer p, .agg (opC k s t da dl dc at' n ka kl kc pa pl pc)] v fun e' w' => ∃ x, e' = .returned (.tuple #[x, .pointer p]) ∧ AnsQ v w' e ns x ∧ Below v.heap.size v w') :
    Calls Tryz.prog 10 #[.pointer p, .agg (opC k s t da dl dc at' n ka kl kc pa pl pc)] w fun e' w' => ∃ x, e' = .returned (.tuple #[x, .pointer p]) ∧ AnsQ w w' e ns x ∧ Below w.heap.size w w' := by
  have HB : Hid (∀ v, Below w.heap.size w v → Calls Tryz.prog 37 #[.pointer p, .agg (opC k s t da dl dc at' n ka kl kc pa pl pc)] v fun e' w' => ∃ x, e' = .returned (.tuple #[x, .pointer p]) ∧ AnsQ v w' e ns x ∧ Below v.heap.size v w') := hb
  clear hb
  have n1 : ¬ k = 1 := by omega
  have n2 : ¬ k = 2 := by omega
  have n3 : ¬ k = 3 := by omega
  have n4 : ¬ k = 4 := by omega
  have n5 : ¬ k = 5 := by omega
  have n6 : ¬ k = 6 := by omega
  have n7 : ¬ k = 7 := by omega
  have n8 : ¬ k = 8 := by omega
  have n9 : ¬ k = 9 := by omega
  clear hk
  go_enter Tryz.func10, Tryz.ntmps10
  go_wp2_with (first
    | (go_at_call 37; refine (HB.out _ (b3 _ _ _ _)).mono ?_; rintro e9 w9 ⟨x, rfl, ⟨sl, rfl, hsl, hnw⟩, hw9⟩; obtain ⟨sa, sn, sc, rfl⟩ := ans_slice hsl; have hq9 := (hw9.block (w.heap.size + 1) (by first | (simp; done) | (simp; omega))).trans (mid3 _ _ _ _))
    | (refine wpList_store5 45 sizeAns rfl _ _ rfl (w.heap.size + 1) _ _ rfl rfl rfl rfl (ans_one _ _ _ _) hq9 ?_))
  have hB : Below w.heap.size w w9 := (b3 w _ _ _).trans (hw9.mono (by first | (simp; done) | (simp; omega)))
  have hbel : Below w.heap.size w (w9.setRow (w.heap.size + 1) #[.int .i64 e, .slice sa sn sc, .slice none 0 0, .slice none 0 0, .slice none 0 0]) := hB.trans ⟨rfl, rfl, rfl, by simp, fun k hk => setRow_other w9 _ k _ (by omega)⟩
  have hld := run_loadVar_row (P := Tryz.prog) _ _ 45 45 _ (0, 0) _ (setRow_heap w9 (w.heap.size + 1) _ #[.int .i64 e, .slice sa sn sc, .slice none 0 0, .slice none 0 0, .slice none 0 0] 45 (0, 0) hq9) Tryz.underlying45 rfl sizeAns
  refine bodyPost_ret (v := .tuple #[.agg #[.int .i64 e, .slice sa sn sc, .slice none 0 0, .slice none 0 0, .slice none 0 0], .pointer p]) ?_ rfl ⟨_, rfl, ⟨_, rfl, nums_row hsl hq9 (fun g l c h => by have := hnw g l c h; simp at this; omega), fun g l c h => by have := hnw g l c h; simp at this; omega⟩, hbel⟩
  simp [results, Tryz.results10, asAddr, hld]
end Nl
end Go.Proofs.YtiljdiagabepbaaGreatDoor
