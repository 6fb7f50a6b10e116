import Derived.Test.YtobhmadckoemdaaTyPl
import Derived.Test.YtobhmadckoemdaaTySh
namespace Go.Proofs.Ytobhmadckoemdaa
namespace Ty
open Go.RowKit
set_option linter.unusedVariables false
theorem and1 (x : Int) (h0 : 0 ≤ x) (h1 : x < 18446744073709551616) : bits .and .u64 x 1 = x % 2 := by
  rw [u64_and x 1 h0 h1 (by omega) (by omega)]
  obtain ⟨n, rfl⟩ : ∃ n : Nat, x = n := ⟨x.toNat, by omega⟩
  simp only [Int.toNat_natCast, show (1 : Int).toNat = 1 from rfl, Nat.and_one_is_mod]
  omega
theorem and_bit (Q : Int) : bits .and .u64 (wd Q 0) 1 = bit Q 0 := by
  have hb := wd_b Q 0
  rw [and1 _ hb.1 hb.2]
  unfold wd bit
  simp
def lst (Q : Int) (d : Nat) : Bool := bit Q d == 1
def hlf (Q r n : Int) (d : Nat) : Bool := if d = 0 then decide (n - r ≤ r) else bit Q (d - 1) == 1
def mor (Q r n : Int) (d : Nat) : Bool := if d = 0 then (r != 0 && r != n - r) else (r != 0 || Q % 2 ^ (d - 1) != 0)
theorem sizeRest : (Try.prog.info? 71).map (·.size) = some 3 := by kernel_rfl
theorem wpList_store3 (t : TypeId) (hi : (Try.prog.info? t).map (·.size) = some 3) {w : World} {ops : Array Oper} {rest : List Oper} {o : Oper} {a : Act} {Q : Exit → Act → World → Prop} (hgd : o.guard = none) (s x : Operand) (ho : o.op = .store t s x)
    (b : Nat) (c old : Array Value) (hs : a.eval s = .pointer (some ⟨b, 0, none⟩)) (hx : a.eval x = .agg c) (hsz : c.size = 3) (hoz : old.size = 3) (h1 : c.all (·.oneCell') = true) (hh : w.heap[b]? = some (.cells old t (0, 0)))
    (h : wpList Try.prog ops Q rest (a.put o.dst undef) (w.setRow b c)) : wpList Try.prog ops Q (o :: rest) a w := by
  have hl : (Instr.storeAt t (.pointer (some ⟨b, 0, none⟩)) (.agg c)).run Try.prog w = .ok () (w.setRow b c) := by
    simp only [Instr.storeAt, Instr.sureAddr, Sem.run_bind, Sem.run_pure, Result.andThen]
    exact run_storeVar_row _ _ t t old c hh (by rw [hsz]; exact hi) (by omega) h1
  refine wpList_plain hgd fun K hK => ?_
  unfold Oper.wp execOp
  simp only [ho, hs, hx, Sem.run_bind, Sem.run_pure, Result.andThen_ok, hl]
  exact hK _ _ h
theorem rest_one (l h m : Bool) : (#[Value.bool l, .bool h, .bool m]).all (·.oneCell') = true := by
  simp [Value.oneCell']
theorem ret_rest {l h m l' h' m' : Bool} (a : l = l') (b : h = h') (c : m = m') : Ending.returned (.agg #[.bool l, .bool h, .bool m]) = .returned (.agg #[.bool l', .bool h', .bool m']) := by rw [a, b, c]
theorem lost_start (w : World) (Q : Int) : ∃ v, (w.alloc (.cells (sm Q) 46)).alloc (.cells #[.bool false, .bool false, .bool false] 71) = v ∧ Below w.heap.size w v ∧ v.heap.size = w.heap.size + 1 + 1 ∧ v.heap[w.heap.size]? = some (.cells (sm Q) 46 (0, 0)) ∧ v.heap[w.heap.size + 1]? = some (.cells #[.bool false, .bool false, .bool false] 71 (0, 0)) := by
  obtain ⟨h1, h2⟩ := heap_two w (.cells (sm Q) 46) (.cells #[.bool false, .bool false, .bool false] 71)
  exact ⟨_, rfl, ((Below.refl _ _).alloc (Nat.le_refl _) _).alloc (by simp) _, by simp, h1, h2⟩
set_option maxHeartbeats 800000 in
theorem lost_zero (Q r n : Int) (r0 : 0 ≤ r) (r1 : r < n) (n1 : n < 18446744073709551616) (w : World) :
    Calls Try.prog 39 #[.agg (sm Q), .int .u64 r, .int .u64 n, .int .i64 0] w fun e w' => e = .returned (.agg #[.bool (lst Q 0), .bool (hlf Q r n 0), .bool (mor Q r n 0)]) ∧ Below w.heap.size w w' := by
  obtain ⟨v, hv, hvb, hvs, hv0, hv1⟩ := lost_start w Q
  have c0 := (row_sm hv0).cell (show 0 < 6 by omega)
  have hab := and_bit Q
  have hwr : IntKind.u64.wrap (n - r) = n - r := by rw [IntKind.wrap_u64]; omega
  generalize sm Q = ca at *
  generalize wd Q 0 = x at *
  have hone := rest_one
  have HLD : Hid (∀ l h m, (loadVar 71 ⟨w.heap.size + 1, 0, none⟩).run Try.prog (v.setRow (w.heap.size + 1) #[.bool l, .bool h, .bool m]) = .ok (.agg #[.bool l, .bool h, .bool m]) (v.setRow (w.heap.size + 1) #[.bool l, .bool h, .bool m])) := fun l h m =>
    run_loadVar_row _ _ 71 71 _ (0, 0) _ (setRow_heap v (w.heap.size + 1) _ _ 71 (0, 0) hv1) Try.underlying71 rfl sizeRest
  have HB : Hid (∀ c, Below w.heap.size w (v.setRow (w.heap.size + 1) c)) := fun c => below_setRow (w.heap.size + 1) c hvb (by omega)
  have hl : lst Q 0 = (bit Q 0 == 1) := rfl
  have hh : hlf Q r n 0 = decide (n - r ≤ r) := rfl
  have hm : mor Q r n 0 = (r != 0 && r != n - r) := rfl
  have HM : Hid (lst Q 0 = (bit Q 0 == 1) ∧ hlf Q r n 0 = decide (n - r ≤ r) ∧ mor Q r n 0 = (r != 0 && r != n - r)) := ⟨hl, hh, hm⟩
  clear hl hh hm hvb
  generalize lst Q 0 = b1 at *
  generalize hlf Q r n 0 = b2 at *
  generalize mor Q r n 0 = b3 at *
  generalize (bit Q 0) = bq at *
  by_cases hz : r = 0
  · subst hz
    go_enter Try.func39, Try.ntmps39
    go_wp2_with (refine wpList_store3 71 sizeRest rfl _ _ rfl (w.heap.size + 1) _ _ rfl rfl rfl rfl (hone _ _ _) hv1 ?_)
    obtain ⟨k1, k2, k3⟩ := HM.out
    refine bodyPost_ret (v := .agg #[.bool b1, .bool b2, .bool b3]) ?_ rfl ⟨rfl, HB.out _⟩
    have hld := HLD.out
    simp [results, Try.results39, asAddr, Act.put, hld, k1, k2, k3]
  · have hzb : (r == 0) = false := beq_false_of_ne hz
    go_enter Try.func39, Try.ntmps39
    go_wp2_with (refine wpList_store3 71 sizeRest rfl _ _ rfl (w.heap.size + 1) _ _ rfl rfl rfl rfl (hone _ _ _) hv1 ?_)
    obtain ⟨k1, k2, k3⟩ := HM.out
    refine bodyPost_ret (v := .agg #[.bool b1, .bool b2, .bool b3]) ?_ rfl ⟨rfl, HB.out _⟩
    have hld := HLD.out
    simp [results, Try.results39, asAddr, Act.put, hld, k1, k2, k3]
end Ty
end Go.Proofs.Ytobhmadckoemdaa
