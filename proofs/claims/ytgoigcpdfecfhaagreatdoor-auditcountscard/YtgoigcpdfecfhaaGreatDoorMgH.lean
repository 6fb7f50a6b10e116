import Derived.Test.YtgoigcpdfecfhaaGreatDoorMgG
import Derived.Deep.QuietTactic
import Derived.Test.YtgoigcpdfecfhaaGreatDoorTyNb
namespace Go.Proofs.YtgoigcpdfecfhaaGreatDoor
namespace Ty
open Go.RowKit
set_option linter.unusedVariables false
/-- A state of eight words. -/
def st (f : Nat → Int) : Array Value := #[.int .u64 (f 0), .int .u64 (f 1), .int .u64 (f 2), .int .u64 (f 3), .int .u64 (f 4), .int .u64 (f 5), .int .u64 (f 6), .int .u64 (f 7)]
theorem st_get (f : Nat → Int) (i : Nat) (h : i < 8) : (st f)[i]? = some (.int .u64 (f i)) := by
  match i, h with
  | 0, _ => rfl
  | 1, _ => rfl
  | 2, _ => rfl
  | 3, _ => rfl
  | 4, _ => rfl
  | 5, _ => rfl
  | 6, _ => rfl
  | 7, _ => rfl
theorem st_of (c : Array Value) (f : Nat → Int) (hs : c.size = 8) (h : ∀ i, i < 8 → c[i]? = some (.int .u64 (f i))) : c = st f := by
  apply Array.ext_getElem?
  intro i
  by_cases hi : i < 8
  · rw [h i hi, st_get f i hi]
  · rw [Array.getElem?_eq_none (by omega), Array.getElem?_eq_none (by show 8 ≤ i; omega)]
theorem st_one (f : Nat → Int) : (st f).all (·.oneCell') = true := by
  rw [Array.all_eq_true]
  intro i hi
  have h1 := st_get f i hi
  rw [Array.getElem?_eq_getElem hi] at h1
  rw [Option.some.inj h1]; rfl
theorem st_congr {f g : Nat → Int} (h : ∀ i, i < 8 → f i = g i) : st f = st g := by
  unfold st
  rw [h 0 (by omega), h 1 (by omega), h 2 (by omega), h 3 (by omega), h 4 (by omega), h 5 (by omega), h 6 (by omega), h 7 (by omega)]
theorem row_st {w : World} {b : Nat} {t : TypeId} {f : Nat → Int} (h : w.heap[b]? = some (.cells (st f) t (0, 0))) : w.rowIs b t 8 (fun i => .int .u64 (f i)) :=
  ⟨_, h, rfl, fun i hi => st_get f i hi⟩
theorem st_row {w : World} {b : Nat} {t : TypeId} {f : Nat → Int} (h : w.rowIs b t 8 (fun i => .int .u64 (f i))) : w.heap[b]? = some (.cells (st f) t (0, 0)) := by
  obtain ⟨c, h1, h2, h3⟩ := h
  rw [h1, st_of c f h2 h3]
theorem sizeState : (Tryz.prog.info? 59).map (·.size) = some 8 := by kernel_rfl
theorem wpList_load8 (t e : TypeId) (hu : Tryz.prog.underlying t = some (.array 8 e)) (hi : (Tryz.prog.info? t).map (·.size) = some 8) {w : World} {ops : Array Oper} {rest : List Oper} {o : Oper} {a : Act} {Q : Exit → Act → World → Prop} (hgd : o.guard = none) (s : Operand) (ho : o.op = .load t s)
    (b : Nat) (c : Array Value) (hs : a.eval s = .pointer (some ⟨b, 0, none⟩)) (hsz : c.size = 8) (hh : w.heap[b]? = some (.cells c t (0, 0)))
    (h : wpList Tryz.prog ops Q rest (a.put o.dst (.agg c)) w) : wpList Tryz.prog ops Q (o :: rest) a w := by
  have hl : (Instr.loadAt t (.pointer (some ⟨b, 0, none⟩))).run Tryz.prog w = .ok (.agg c) w := by
    simp only [Instr.loadAt, Instr.sureAddr, Sem.run_bind, Sem.run_pure, Result.andThen]
    exact run_loadVar_row _ _ t t c (0, 0) _ hh hu rfl (by rw [hsz]; exact hi)
  refine wpList_plain hgd fun K hK => ?_
  unfold Oper.wp execOp
  simp only [ho, hs, Sem.run_bind, Sem.run_pure, Result.andThen_ok, hl]
  exact hK _ _ h
theorem wpList_store8 (t : TypeId) (hi : (Tryz.prog.info? t).map (·.size) = some 8) {w : World} {ops : Array Oper} {rest : List Oper} {o : Oper} {a : Act} {Q : Exit → Act → World → Prop} (hgd : o.guard = none) (s x : Operand) (ho : o.op = .store t s x)
    (b : Nat) (c old : Array Value) (hs : a.eval s = .pointer (some ⟨b, 0, none⟩)) (hx : a.eval x = .agg c) (hsz : c.size = 8) (hoz : old.size = 8) (h1 : c.all (·.oneCell') = true) (hh : w.heap[b]? = some (.cells old t (0, 0)))
    (h : wpList Tryz.prog ops Q rest (a.put o.dst undef) (w.setRow b c)) : wpList Tryz.prog ops Q (o :: rest) a w := by
  have hl : (Instr.storeAt t (.pointer (some ⟨b, 0, none⟩)) (.agg c)).run Tryz.prog w = .ok () (w.setRow b c) := by
    simp only [Instr.storeAt, Instr.sureAddr, Sem.run_bind, Sem.run_pure, Result.andThen]
    exact run_storeVar_row _ _ t t old c hh (by rw [hsz]; exact hi) (by omega) h1
  refine wpList_plain hgd fun K hK => ?_
  unfold Oper.wp execOp
  simp only [ho, hs, hx, Sem.run_bind, Sem.run_pure, Result.andThen_ok, hl]
  exact hK _ _ h
/-- One word turned. -/
def up1 (f : Nat → Int) (k : Nat) (x : Int) : Nat → Int := fun i => if i = k then x else f i
def zs8 : Array Value := #[.int .u64 0, .int .u64 0, .int .u64 0, .int .u64 0, .int .u64 0, .int .u64 0, .int .u64 0, .int .u64 0]
/-- What stands when a closure has turned word k of its state to x. -/
structure Fin (w v : World) (f : Nat → Int) (k : Nat) (x : Int) : Prop where
  q0 : (v.setCell ⟨w.heap.size, k, none⟩ (.int .u64 x)).heap[w.heap.size]? = some (.cells (st (up1 f k x)) 59 (0, 0))
  q1 : (v.setCell ⟨w.heap.size, k, none⟩ (.int .u64 x)).heap[w.heap.size + 1]? = some (.cells #[.int .u64 0, .int .u64 0, .int .u64 0, .int .u64 0, .int .u64 0, .int .u64 0, .int .u64 0, .int .u64 0] 59 (0, 0))
  bel : Below w.heap.size w ((v.setCell ⟨w.heap.size, k, none⟩ (.int .u64 x)).setRow (w.heap.size + 1) (st (up1 f k x)))
  ld : (loadVar 59 ⟨w.heap.size + 1, 0, none⟩).run Tryz.prog ((v.setCell ⟨w.heap.size, k, none⟩ (.int .u64 x)).setRow (w.heap.size + 1) (st (up1 f k x))) = .ok (.agg (st (up1 f k x))) ((v.setCell ⟨w.heap.size, k, none⟩ (.int .u64 x)).setRow (w.heap.size + 1) (st (up1 f k x)))
theorem mon_frame (w : World) (f : Nat → Int) (k : Nat) (hk : k < 8) : ∃ v, (w.alloc (.cells (st f) 59)).alloc (.cells #[.int .u64 0, .int .u64 0, .int .u64 0, .int .u64 0, .int .u64 0, .int .u64 0, .int .u64 0, .int .u64 0] 59) = v ∧ v.cell? ⟨w.heap.size, k, none⟩ = some (.int .u64 (f k)) ∧ v.frozen? ⟨w.heap.size, k, none⟩ = false ∧ ∀ x, Fin w v f k x := by
  obtain ⟨h1, h2⟩ := heap_two w (.cells (st f) 59) (.cells #[.int .u64 0, .int .u64 0, .int .u64 0, .int .u64 0, .int .u64 0, .int .u64 0, .int .u64 0, .int .u64 0] 59)
  have hb : Below w.heap.size w ((w.alloc (.cells (st f) 59)).alloc (.cells #[.int .u64 0, .int .u64 0, .int .u64 0, .int .u64 0, .int .u64 0, .int .u64 0, .int .u64 0, .int .u64 0] 59)) := ((Below.refl _ _).alloc (Nat.le_refl _) _).alloc (by simp) _
  generalize (w.alloc (.cells (st f) 59)).alloc (.cells #[.int .u64 0, .int .u64 0, .int .u64 0, .int .u64 0, .int .u64 0, .int .u64 0, .int .u64 0, .int .u64 0] 59) = v at *
  have r := row_st h1
  refine ⟨v, rfl, r.cell hk, r.frozen k, fun x => ?_⟩
  have q0 : (v.setCell ⟨w.heap.size, k, none⟩ (.int .u64 x)).heap[w.heap.size]? = some (.cells (st (up1 f k x)) 59 (0, 0)) := by
    refine st_row ((r.set k _).congr (fun i hi => ?_))
    unfold up1
    by_cases e : i = k
    · simp [e]
    · simp [e]
  have q1 : (v.setCell ⟨w.heap.size, k, none⟩ (.int .u64 x)).heap[w.heap.size + 1]? = some (.cells #[.int .u64 0, .int .u64 0, .int .u64 0, .int .u64 0, .int .u64 0, .int .u64 0, .int .u64 0, .int .u64 0] 59 (0, 0)) := by
    exact st_row (f := fun _ => 0) ((row_st (f := fun _ => 0) h2).setOther (by show w.heap.size + 1 ≠ w.heap.size; omega) _)
  have hb2 := hb.setCell (p := ⟨w.heap.size, k, none⟩) (Nat.le_refl _) (.int .u64 x)
  exact ⟨q0, q1, below_setRow _ _ hb2 (by omega), run_loadVar_row _ _ 59 59 _ (0, 0) _ (setRow_heap _ (w.heap.size + 1) _ _ 59 (0, 0) q1) Tryz.underlying59 rfl sizeState⟩
set_option maxHeartbeats 800000 in
theorem mon2 (f : Nat → Int) (k : Nat) (y : Int) (hk : k < 8) (h0 : ∀ i, 0 ≤ f i ∧ f i < 18446744073709551616) (y0 : 0 ≤ y) (y1 : y < 18446744073709551616) (w : World) :
    Calls Tryz.prog 177 #[.agg (st f), .int .i64 k, .int .u64 y] w fun e w' => e = .returned (.agg (st (up1 f k (min (f k) y)))) ∧ Below w.heap.size w w' := by
  obtain ⟨v, hv, c0, f0, HF0⟩ := mon_frame w f k hk
  have HF : Hid (∀ x, Fin w v f k x) := HF0
  obtain ⟨z0, z1⟩ := h0 k
  clear HF0 h0
  generalize hsa : st f = ca at *
  generalize hx : f k = x at *
  by_cases h : y < x
  · go_enter Tryz.func177, Tryz.ntmps177
    go_wp2_with (first
      | (refine wpList_load8 59 _ Tryz.underlying59 sizeState rfl _ rfl w.heap.size _ rfl rfl (HF.out (y)).q0 ?_)
      | (refine wpList_store8 59 sizeState rfl _ _ rfl (w.heap.size + 1) _ _ rfl rfl rfl rfl (st_one _) (HF.out (y)).q1 ?_))
    have hld := (HF.out (y)).ld
    refine bodyPost_ret (v := .agg (st (up1 f k (y)))) ?_ rfl ⟨by rw [show min x y = y by omega], (HF.out (y)).bel⟩
    simp [results, Tryz.results177, asAddr, Act.put, hld]
  · go_enter Tryz.func177, Tryz.ntmps177
    go_wp2_with (first
      | (refine wpList_load8 59 _ Tryz.underlying59 sizeState rfl _ rfl w.heap.size _ rfl rfl (HF.out (x)).q0 ?_)
      | (refine wpList_store8 59 sizeState rfl _ _ rfl (w.heap.size + 1) _ _ rfl rfl rfl rfl (st_one _) (HF.out (x)).q1 ?_))
    have hld := (HF.out (x)).ld
    refine bodyPost_ret (v := .agg (st (up1 f k (x)))) ?_ rfl ⟨by rw [show min x y = x by omega], (HF.out (x)).bel⟩
    simp [results, Tryz.results177, asAddr, hld]
set_option maxHeartbeats 800000 in
theorem mon3 (f : Nat → Int) (k : Nat) (y : Int) (hk : k < 8) (h0 : ∀ i, 0 ≤ f i ∧ f i < 18446744073709551616) (y0 : 0 ≤ y) (y1 : y < 18446744073709551616) (w : World) :
    Calls Tryz.prog 178 #[.agg (st f), .int .i64 k, .int .u64 y] w fun e w' => e = .returned (.agg (st (up1 f k (max (f k) y)))) ∧ Below w.heap.size w w' := by
  obtain ⟨v, hv, c0, f0, HF0⟩ := mon_frame w f k hk
  have HF : Hid (∀ x, Fin w v f k x) := HF0
  obtain ⟨z0, z1⟩ := h0 k
  clear HF0 h0
  generalize hsa : st f = ca at *
  generalize hx : f k = x at *
  by_cases h : x < y
  · go_enter Tryz.func178, Tryz.ntmps178
    go_wp2_with (first
      | (refine wpList_load8 59 _ Tryz.underlying59 sizeState rfl _ rfl w.heap.size _ rfl rfl (HF.out (y)).q0 ?_)
      | (refine wpList_store8 59 sizeState rfl _ _ rfl (w.heap.size + 1) _ _ rfl rfl rfl rfl (st_one _) (HF.out (y)).q1 ?_))
    have hld := (HF.out (y)).ld
    refine bodyPost_ret (v := .agg (st (up1 f k (y)))) ?_ rfl ⟨by rw [show max x y = y by omega], (HF.out (y)).bel⟩
    simp [results, Tryz.results178, asAddr, Act.put, hld]
  · go_enter Tryz.func178, Tryz.ntmps178
    go_wp2_with (first
      | (refine wpList_load8 59 _ Tryz.underlying59 sizeState rfl _ rfl w.heap.size _ rfl rfl (HF.out (x)).q0 ?_)
      | (refine wpList_store8 59 sizeState rfl _ _ rfl (w.heap.size + 1) _ _ rfl rfl rfl rfl (st_one _) (HF.out (x)).q1 ?_))
    have hld := (HF.out (x)).ld
    refine bodyPost_ret (v := .agg (st (up1 f k (x)))) ?_ rfl ⟨by rw [show max x y = x by omega], (HF.out (x)).bel⟩
    simp [results, Tryz.results178, asAddr, hld]
set_option maxHeartbeats 800000 in
theorem mon6 (f : Nat → Int) (k : Nat) (y : Int) (hk : k < 8) (h0 : ∀ i, 0 ≤ f i ∧ f i < 18446744073709551616) (y0 : 0 ≤ y) (y1 : y < 18446744073709551616) (w : World) :
    Calls Tryz.prog 181 #[.agg (st f), .int .i64 k, .int .u64 y] w fun e w' => e = .returned (.agg (st (up1 f k (IntKind.u64.wrap (f k + y))))) ∧ Below w.heap.size w w' := by
  obtain ⟨v, hv, c0, f0, HF0⟩ := mon_frame w f k hk
  have HF : Hid (∀ x, Fin w v f k x) := HF0
  obtain ⟨z0, z1⟩ := h0 k
  clear HF0 h0
  generalize hsa : st f = ca at *
  generalize hx : f k = x at *
  go_enter Tryz.func181, Tryz.ntmps181
  go_wp2_with (first
    | (refine wpList_load8 59 _ Tryz.underlying59 sizeState rfl _ rfl w.heap.size _ rfl rfl (HF.out (IntKind.u64.wrap (x + y))).q0 ?_)
    | (refine wpList_store8 59 sizeState rfl _ _ rfl (w.heap.size + 1) _ _ rfl rfl rfl rfl (st_one _) (HF.out (IntKind.u64.wrap (x + y))).q1 ?_))
  have hld := (HF.out (IntKind.u64.wrap (x + y))).ld
  refine bodyPost_ret (v := .agg (st (up1 f k (IntKind.u64.wrap (x + y))))) ?_ rfl ⟨rfl, (HF.out (IntKind.u64.wrap (x + y))).bel⟩
  simp [results, Tryz.results181, asAddr, Act.put, hld]
set_option maxHeartbeats 800000 in
theorem mon7 (f : Nat → Int) (k : Nat) (y : Int) (hk : k < 8) (h0 : ∀ i, 0 ≤ f i ∧ f i < 18446744073709551616) (y0 : 0 ≤ y) (y1 : y < 18446744073709551616) (w : World) :
    Calls Tryz.prog 182 #[.agg (st f), .int .i64 k, .int .u64 y] w fun e w' => e = .returned (.agg (st (up1 f k (bits .and .u64 (f k) y)))) ∧ Below w.heap.size w w' := by
  obtain ⟨v, hv, c0, f0, HF0⟩ := mon_frame w f k hk
  have HF : Hid (∀ x, Fin w v f k x) := HF0
  obtain ⟨z0, z1⟩ := h0 k
  clear HF0 h0
  generalize hsa : st f = ca at *
  generalize hx : f k = x at *
  go_enter Tryz.func182, Tryz.ntmps182
  go_wp2_with (first
    | (refine wpList_load8 59 _ Tryz.underlying59 sizeState rfl _ rfl w.heap.size _ rfl rfl (HF.out (bits .and .u64 x y)).q0 ?_)
    | (refine wpList_store8 59 sizeState rfl _ _ rfl (w.heap.size + 1) _ _ rfl rfl rfl rfl (st_one _) (HF.out (bits .and .u64 x y)).q1 ?_))
  have hld := (HF.out (bits .and .u64 x y)).ld
  refine bodyPost_ret (v := .agg (st (up1 f k (bits .and .u64 x y)))) ?_ rfl ⟨rfl, (HF.out (bits .and .u64 x y)).bel⟩
  simp [results, Tryz.results182, asAddr, Act.put, hld]
set_option maxHeartbeats 800000 in
theorem mon8 (f : Nat → Int) (k : Nat) (y : Int) (hk : k < 8) (h0 : ∀ i, 0 ≤ f i ∧ f i < 18446744073709551616) (y0 : 0 ≤ y) (y1 : y < 18446744073709551616) (w : World) :
    Calls Tryz.prog 183 #[.agg (st f), .int .i64 k, .int .u64 y] w fun e w' => e = .returned (.agg (st (up1 f k (bits .or .u64 (f k) y)))) ∧ Below w.heap.size w w' := by
  obtain ⟨v, hv, c0, f0, HF0⟩ := mon_frame w f k hk
  have HF : Hid (∀ x, Fin w v f k x) := HF0
  obtain ⟨z0, z1⟩ := h0 k
  clear HF0 h0
  generalize hsa : st f = ca at *
  generalize hx : f k = x at *
  go_enter Tryz.func183, Tryz.ntmps183
  go_wp2_with (first
    | (refine wpList_load8 59 _ Tryz.underlying59 sizeState rfl _ rfl w.heap.size _ rfl rfl (HF.out (bits .or .u64 x y)).q0 ?_)
    | (refine wpList_store8 59 sizeState rfl _ _ rfl (w.heap.size + 1) _ _ rfl rfl rfl rfl (st_one _) (HF.out (bits .or .u64 x y)).q1 ?_))
  have hld := (HF.out (bits .or .u64 x y)).ld
  refine bodyPost_ret (v := .agg (st (up1 f k (bits .or .u64 x y)))) ?_ rfl ⟨rfl, (HF.out (bits .or .u64 x y)).bel⟩
  simp [results, Tryz.results183, asAddr, Act.put, hld]
theorem wrap_back (x : Int) (h0 : 0 ≤ x) (h1 : x < 18446744073709551616) : IntKind.u64.wrap (wrap64 x) = x := by
  rw [IntKind.wrap_u64]; unfold wrap64; omega
set_option maxHeartbeats 800000 in
theorem mon4 (f : Nat → Int) (k : Nat) (y : Int) (hk : k < 8) (h0 : ∀ i, 0 ≤ f i ∧ f i < 18446744073709551616) (y0 : 0 ≤ y) (y1 : y < 18446744073709551616) (w : World) :
    Calls Tryz.prog 179 #[.agg (st f), .int .i64 k, .int .u64 y] w fun e w' => e = .returned (.agg (st (up1 f k (if wrap64 y < wrap64 (f k) then y else f k)))) ∧ Below w.heap.size w w' := by
  obtain ⟨v, hv, c0, f0, HF0⟩ := mon_frame w f k hk
  have HF : Hid (∀ x, Fin w v f k x) := HF0
  obtain ⟨z0, z1⟩ := h0 k
  clear HF0 h0
  generalize hsa : st f = ca at *
  generalize hx : f k = x at *
  have hwx := wrap_back x z0 z1
  have hwy := wrap_back y y0 y1
  by_cases h : wrap64 y < wrap64 x
  · go_enter Tryz.func179, Tryz.ntmps179
    go_wp2_with (first
      | (refine wpList_load8 59 _ Tryz.underlying59 sizeState rfl _ rfl w.heap.size _ rfl rfl (HF.out (y)).q0 ?_)
      | (refine wpList_store8 59 sizeState rfl _ _ rfl (w.heap.size + 1) _ _ rfl rfl rfl rfl (st_one _) (HF.out (y)).q1 ?_))
    have hld := (HF.out (y)).ld
    refine bodyPost_ret (v := .agg (st (up1 f k (y)))) ?_ rfl ⟨by first | rfl | rw [if_pos (by omega)], (HF.out (y)).bel⟩
    simp [results, Tryz.results179, asAddr, hld]
  · go_enter Tryz.func179, Tryz.ntmps179
    go_wp2_with (first
      | (refine wpList_load8 59 _ Tryz.underlying59 sizeState rfl _ rfl w.heap.size _ rfl rfl (HF.out (x)).q0 ?_)
      | (refine wpList_store8 59 sizeState rfl _ _ rfl (w.heap.size + 1) _ _ rfl rfl rfl rfl (st_one _) (HF.out (x)).q1 ?_))
    have hld := (HF.out (x)).ld
    refine bodyPost_ret (v := .agg (st (up1 f k (x)))) ?_ rfl ⟨by first | rfl | rw [if_neg (by omega)], (HF.out (x)).bel⟩
    simp [results, Tryz.results179, asAddr, hld]
set_option maxHeartbeats 800000 in
theorem mon5 (f : Nat → Int) (k : Nat) (y : Int) (hk : k < 8) (h0 : ∀ i, 0 ≤ f i ∧ f i < 18446744073709551616) (y0 : 0 ≤ y) (y1 : y < 18446744073709551616) (w : World) :
    Calls Tryz.prog 180 #[.agg (st f), .int .i64 k, .int .u64 y] w fun e w' => e = .returned (.agg (st (up1 f k (if wrap64 (f k) < wrap64 y then y else f k)))) ∧ Below w.heap.size w w' := by
  obtain ⟨v, hv, c0, f0, HF0⟩ := mon_frame w f k hk
  have HF : Hid (∀ x, Fin w v f k x) := HF0
  obtain ⟨z0, z1⟩ := h0 k
  clear HF0 h0
  generalize hsa : st f = ca at *
  generalize hx : f k = x at *
  have hwx := wrap_back x z0 z1
  have hwy := wrap_back y y0 y1
  by_cases h : wrap64 x < wrap64 y
  · go_enter Tryz.func180, Tryz.ntmps180
    go_wp2_with (first
      | (refine wpList_load8 59 _ Tryz.underlying59 sizeState rfl _ rfl w.heap.size _ rfl rfl (HF.out (y)).q0 ?_)
      | (refine wpList_store8 59 sizeState rfl _ _ rfl (w.heap.size + 1) _ _ rfl rfl rfl rfl (st_one _) (HF.out (y)).q1 ?_))
    have hld := (HF.out (y)).ld
    refine bodyPost_ret (v := .agg (st (up1 f k (y)))) ?_ rfl ⟨by first | rfl | rw [if_pos (by omega)], (HF.out (y)).bel⟩
    simp [results, Tryz.results180, asAddr, hld]
  · go_enter Tryz.func180, Tryz.ntmps180
    go_wp2_with (first
      | (refine wpList_load8 59 _ Tryz.underlying59 sizeState rfl _ rfl w.heap.size _ rfl rfl (HF.out (x)).q0 ?_)
      | (refine wpList_store8 59 sizeState rfl _ _ rfl (w.heap.size + 1) _ _ rfl rfl rfl rfl (st_one _) (HF.out (x)).q1 ?_))
    have hld := (HF.out (x)).ld
    refine bodyPost_ret (v := .agg (st (up1 f k (x)))) ?_ rfl ⟨by first | rfl | rw [if_neg (by omega)], (HF.out (x)).bel⟩
    simp [results, Tryz.results180, asAddr, hld]
end Ty
end Go.Proofs.YtgoigcpdfecfhaaGreatDoor
namespace Go.Proofs.YtgoigcpdfecfhaaGreatDoor
namespace Ty
open Go.RowKit
set_option linter.unusedVariables false
theorem ret_i {k : IntKind} {a b : Int} (h : a = b) : Ending.returned (.int k a) = .returned (.int k b) := by rw [h]
set_option maxHeartbeats 800000 in
theorem spread_any (x y : Nat) (hx : x < 18446744073709551616) (hy : y < 18446744073709551616) (h1 : y ≤ (x ||| 1157442765409226768)) (h2 : (x ||| 1157442765409226768) < 18446744073709551616) (w : World) :
    Calls Tryz.prog 236 #[.int .u64 x, .int .u64 y] w fun e w' => e = .returned (.int .u64 (Nb.spread x y)) ∧ w' = w := by
  have E1 : bits .or .u64 (x : Int) 1157442765409226768 = ((x ||| 1157442765409226768 : Nat) : Int) := u64_or_nat x 1157442765409226768 hx (by omega)
  have E2 : IntKind.u64.wrap (((x ||| 1157442765409226768 : Nat) : Int) - (y : Int)) = (((x ||| 1157442765409226768) - y : Nat) : Int) := by rw [IntKind.wrap_u64]; omega
  have E3 : bits .and .u64 (((x ||| 1157442765409226768) - y : Nat) : Int) 1157442765409226768 = ((((x ||| 1157442765409226768) - y) &&& 1157442765409226768 : Nat) : Int) := u64_and_nat _ 1157442765409226768 (by omega) (by omega)
  have hn : (((x ||| 1157442765409226768) - y) &&& 1157442765409226768) < 18446744073709551616 := Nat.lt_of_le_of_lt Nat.and_le_left (by omega)
  have hsp : Nb.spread x y = (x &&& ((((x ||| 1157442765409226768) - y) &&& 1157442765409226768) - (((x ||| 1157442765409226768) - y) &&& 1157442765409226768) / 16)) ||| (y &&& (18446744073709551615 - ((((x ||| 1157442765409226768) - y) &&& 1157442765409226768) - (((x ||| 1157442765409226768) - y) &&& 1157442765409226768) / 16))) := rfl
  have HF : Hid (bits .or .u64 (bits .and .u64 (x : Int) (IntKind.u64.wrap (bits .and .u64 (IntKind.u64.wrap (bits .or .u64 (x : Int) 1157442765409226768 - (y : Int))) 1157442765409226768 - bits .and .u64 (IntKind.u64.wrap (bits .or .u64 (x : Int) 1157442765409226768 - (y : Int))) 1157442765409226768 / 16))) (bits .andNot .u64 (y : Int) (IntKind.u64.wrap (bits .and .u64 (IntKind.u64.wrap (bits .or .u64 (x : Int) 1157442765409226768 - (y : Int))) 1157442765409226768 - bits .and .u64 (IntKind.u64.wrap (bits .or .u64 (x : Int) 1157442765409226768 - (y : Int))) 1157442765409226768 / 16))) = (Nb.spread x y : Int)) := by
    show _ = _
    rw [E1, E2, E3, hsp]
    clear E1 E2 E3 hsp
    generalize (((x ||| 1157442765409226768) - y) &&& 1157442765409226768) = n at *
    have E4 : IntKind.u64.wrap ((n : Int) - (n : Int) / 16) = ((n - n / 16 : Nat) : Int) := by rw [IntKind.wrap_u64]; omega
    rw [E4, u64_and_nat _ _ hx (by omega), u64_andNot_nat _ _ hy (by omega), u64_or_nat _ _ (Nat.lt_of_le_of_lt Nat.and_le_left hx) (Nat.lt_of_le_of_lt Nat.and_le_left hy)]
  clear E1 E2 E3 hn hsp h1 h2
  go_enter Tryz.func236, Tryz.ntmps236
  go_wp2
  go_ret
  exact ⟨ret_i HF.out, rfl⟩
theorem pow4 (k : Nat) : (2 : Int) ^ (4 * k) = ((16 ^ k : Nat) : Int) := by
  rw [show (16 : Nat) = 2 ^ 4 from rfl, ← Nat.pow_mul]; simp
theorem nmax_lt (x y k : Nat) : Nb.nmax x y k < 16 ^ k := by
  induction k with
  | zero => simp [Nb.nmax]
  | succ k ih =>
    rw [Nb.nmax, Nat.pow_succ]
    have h : max (x / 16 ^ k % 16) (y / 16 ^ k % 16) ≤ 15 := by omega
    have := Nat.mul_le_mul_right (16 ^ k) h
    omega
theorem nmax_step (x y k m : Nat) (hk : k < 16) (hm : m = max (x / 16 ^ k % 16) (y / 16 ^ k % 16)) : bits .or .u64 (Nb.nmax x y k : Int) (IntKind.u64.wrap ((m : Int) * 2 ^ (4 * k))) = (Nb.nmax x y (k + 1) : Int) := by
  have h1 := nmax_lt x y k
  have h3 := nmax_lt x y (k + 1)
  have h4 : 16 ^ (k + 1) ≤ 18446744073709551616 := by
    have : 16 ^ (k + 1) ≤ 16 ^ 16 := Nat.pow_le_pow_right (by omega) (by omega)
    simpa using this
  rw [Nb.nmax, ← hm] at h3
  have e : IntKind.u64.wrap ((m : Int) * 2 ^ (4 * k)) = ((m * 16 ^ k : Nat) : Int) := by
    rw [pow4, IntKind.wrap_u64, ← Int.natCast_mul]
    omega
  have hj : m * 16 ^ k ||| Nb.nmax x y k = m * 16 ^ k + Nb.nmax x y k := nat_join (4 * k) _ _ (by rw [show (2 : Nat) ^ (4 * k) = 16 ^ k by rw [Nat.pow_mul]]; exact Nat.mul_mod_left _ _) (by rw [show (2 : Nat) ^ (4 * k) = 16 ^ k by rw [Nat.pow_mul]]; exact h1)
  rw [e, u64_or_nat _ _ (by omega) (by omega), Nat.or_comm, hj, Nb.nmax, ← hm, Nat.add_comm]
theorem nib_at (x k : Nat) : ((x : Int) / 2 ^ (4 * k)).tmod 16 = ((x / 16 ^ k % 16 : Nat) : Int) := by
  rw [pow4, Int.tmod_eq_emod_of_nonneg (Int.ediv_nonneg (by omega) (Int.natCast_nonneg _))]
  simp
theorem max_lt (L : Nb.Prs) (h8 : L.length = 8) (hs : Nb.Small L) : 16 * Nb.V (L.map (fun p => max p.1 p.2)) < 18446744073709551616 := by
  have h := Nb.V_lt L (fun p => 16 * max p.1 p.2) (fun p hp => by have := hs p hp; show 16 * max p.1 p.2 < 256; omega)
  rw [Nb.V_mul, h8] at h; simpa using h
/-- All that the walk of 'greaterNibbles' asks. -/
theorem nib_facts (x y : Nat) (hx : x < 18446744073709551616) (hy : y < 18446744073709551616) : ∃ X0 Y0 X1 Y1 S0 S1 : Nat,
    bits .and .u64 (x : Int) 1085102592571150095 = (X0 : Int) ∧ bits .and .u64 (y : Int) 1085102592571150095 = (Y0 : Int) ∧ bits .and .u64 ((x : Int) / 16) 1085102592571150095 = (X1 : Int) ∧ bits .and .u64 ((y : Int) / 16) 1085102592571150095 = (Y1 : Int) ∧
    (∀ w, Calls Tryz.prog 236 #[.int .u64 X0, .int .u64 Y0] w fun e w' => e = .returned (.int .u64 S0) ∧ w' = w) ∧
    (∀ w, Calls Tryz.prog 236 #[.int .u64 X1, .int .u64 Y1] w fun e w' => e = .returned (.int .u64 S1) ∧ w' = w) ∧
    bits .or .u64 (S0 : Int) (IntKind.u64.wrap ((S1 : Int) * 16)) = (Nb.nmax x y 16 : Int) := by
  obtain ⟨hl, hb, xe, ye, xo, yo⟩ := Nb.parts x y hx hy
  have p0 := Nb.spread_eq (Nb.lows (Nb.prs x y 8)) (by simp [Nb.lows, hl]) (Nb.lows_small _)
  have p1 := Nb.spread_eq (Nb.highs (Nb.prs x y 8)) (by simp [Nb.highs, hl]) (Nb.highs_small _ hb)
  rw [← xe, ← ye] at p0
  rw [← xo, ← yo] at p1
  have hE : 1085102592571150095 < 18446744073709551616 := by decide
  have b0 : (x &&& 1085102592571150095) < 18446744073709551616 := Nat.lt_of_le_of_lt Nat.and_le_left hx
  have b1 : (y &&& 1085102592571150095) < 18446744073709551616 := Nat.lt_of_le_of_lt Nat.and_le_left hy
  have b2 : (x / 16 &&& 1085102592571150095) < 18446744073709551616 := Nat.lt_of_le_of_lt Nat.and_le_left (by omega)
  have b3 : (y / 16 &&& 1085102592571150095) < 18446744073709551616 := Nat.lt_of_le_of_lt Nat.and_le_left (by omega)
  refine ⟨x &&& 1085102592571150095, y &&& 1085102592571150095, x / 16 &&& 1085102592571150095, y / 16 &&& 1085102592571150095, Nb.spread (x &&& 1085102592571150095) (y &&& 1085102592571150095), Nb.spread (x / 16 &&& 1085102592571150095) (y / 16 &&& 1085102592571150095), u64_and_nat x 1085102592571150095 hx hE, u64_and_nat y 1085102592571150095 hy hE, u64_and_nat (x / 16) 1085102592571150095 (by omega) hE, u64_and_nat (y / 16) 1085102592571150095 (by omega) hE, fun w => spread_any _ _ b0 b1 p0.2.1 p0.2.2 w, fun w => spread_any _ _ b2 b3 p1.2.1 p1.2.2 w, ?_⟩
  have m0 := max_lt (Nb.lows (Nb.prs x y 8)) (by simp [Nb.lows, hl]) (Nb.lows_small _)
  have m1 := max_lt (Nb.highs (Nb.prs x y 8)) (by simp [Nb.highs, hl]) (Nb.highs_small _ hb)
  rw [← p0.1] at m0
  rw [← p1.1] at m1
  have hn := Nb.nibs_eq x y hx hy
  unfold Nb.nibs at hn
  generalize Nb.spread (x &&& 1085102592571150095) (y &&& 1085102592571150095) = S0 at *
  generalize Nb.spread (x / 16 &&& 1085102592571150095) (y / 16 &&& 1085102592571150095) = S1 at *
  have e : IntKind.u64.wrap ((S1 : Int) * 16) = ((16 * S1 : Nat) : Int) := by rw [IntKind.wrap_u64]; omega
  rw [e, u64_or_nat _ _ (by omega) (by omega), hn]
set_option maxHeartbeats 800000 in
theorem nibbles_any (x y : Nat) (hx : x < 18446744073709551616) (hy : y < 18446744073709551616) (w : World) :
    Calls Tryz.prog 185 #[.int .u64 x, .int .u64 y] w fun e w' => e = .returned (.int .u64 (Nb.nmax x y 16)) ∧ w' = w := by
  obtain ⟨X0, Y0, X1, Y1, S0, S1, a1, a2, a3, a4, c0, c1, hf⟩ := nib_facts x y hx hy
  have H0 : Hid (∀ w, Calls Tryz.prog 236 #[.int .u64 X0, .int .u64 Y0] w fun e w' => e = .returned (.int .u64 S0) ∧ w' = w) := c0
  have H1 : Hid (∀ w, Calls Tryz.prog 236 #[.int .u64 X1, .int .u64 Y1] w fun e w' => e = .returned (.int .u64 S1) ∧ w' = w) := c1
  clear c0 c1
  go_enter Tryz.func185, Tryz.ntmps185
  go_wp2_with (fail)
  refine (H0.out _).mono ?_
  rintro e9 w9 ⟨rfl, hw9⟩
  subst w9
  go_wp2_with (fail)
  refine (H1.out _).mono ?_
  rintro e9 w9 ⟨rfl, hw9⟩
  subst w9
  go_wp2
  go_ret
  exact ⟨rfl, rfl⟩
end Ty
end Go.Proofs.YtgoigcpdfecfhaaGreatDoor
namespace Go.Proofs.YtgoigcpdfecfhaaGreatDoor
namespace Ty
open Go.RowKit
set_option linter.unusedVariables false
theorem two_states (w : World) (f : Nat → Int) : ∃ v, (w.alloc (.cells (st f) 59)).alloc (.cells #[.int .u64 0, .int .u64 0, .int .u64 0, .int .u64 0, .int .u64 0, .int .u64 0, .int .u64 0, .int .u64 0] 59) = v ∧ Below w.heap.size w v ∧ v.heap.size = w.heap.size + 1 + 1 ∧ v.heap[w.heap.size]? = some (.cells (st f) 59 (0, 0)) ∧ v.heap[w.heap.size + 1]? = some (.cells (st (fun _ => 0)) 59 (0, 0)) := by
  obtain ⟨h1, h2⟩ := heap_two w (.cells (st f) 59) (.cells (st (fun _ => 0)) 59)
  exact ⟨_, rfl, ((Below.refl _ _).alloc (Nat.le_refl _) _).alloc (by simp) _, by simp, h1, h2⟩
set_option maxHeartbeats 800000 in
theorem mon1 (f : Nat → Int) (k y : Int) (w : World) :
    Calls Tryz.prog 176 #[.agg (st f), .int .i64 k, .int .u64 y] w fun e w' => e = .returned (.agg (st f)) ∧ Below w.heap.size w w' := by
  obtain ⟨v, hv, hb, hs, h0, h1⟩ := two_states w f
  have hbel := below_setRow (w.heap.size + 1) (st f) hb (by omega)
  have hld : (loadVar 59 ⟨w.heap.size + 1, 0, none⟩).run Tryz.prog (v.setRow (w.heap.size + 1) (st f)) = .ok (.agg (st f)) (v.setRow (w.heap.size + 1) (st f)) :=
    run_loadVar_row _ _ 59 59 _ (0, 0) _ (setRow_heap v (w.heap.size + 1) _ _ 59 (0, 0) h1) Tryz.underlying59 rfl sizeState
  have hone := st_one f
  have hsz : (st f).size = 8 := rfl
  generalize hsa : st f = ca at *
  go_enter Tryz.func176, Tryz.ntmps176
  go_wp2_with (first
    | (refine wpList_load8 59 _ Tryz.underlying59 sizeState rfl _ rfl w.heap.size _ rfl hsz h0 ?_)
    | (refine wpList_store8 59 sizeState rfl _ _ rfl (w.heap.size + 1) _ _ rfl rfl hsz rfl hone h1 ?_))
  refine bodyPost_ret (v := .agg ca) ?_ rfl ⟨rfl, hbel⟩
  simp [results, Tryz.results176, asAddr, Act.put, hld]
set_option maxHeartbeats 800000 in
theorem mon9 (f : Nat → Int) (k : Nat) (x y : Nat) (hk : k < 8) (hx : f k = x) (x1 : x < 18446744073709551616) (y1 : y < 18446744073709551616) (w : World) :
    Calls Tryz.prog 184 #[.agg (st f), .int .i64 k, .int .u64 y] w fun e w' => e = .returned (.agg (st (up1 f k (Nb.nmax x y 16)))) ∧ Below w.heap.size w w' := by
  obtain ⟨v, hv, c0, f0, HF0⟩ := mon_frame w f k hk
  have HF : Hid (∀ x, Fin w v f k x) := HF0
  rw [hx] at c0
  clear HF0
  generalize hsa : st f = ca at *
  go_enter Tryz.func184, Tryz.ntmps184
  go_wp2_with (first
    | (go_at_call 185; refine (nibbles_any x y x1 y1 _).mono ?_; rintro e9 w9 ⟨rfl, hw9⟩; subst w9)
    | (refine wpList_load8 59 _ Tryz.underlying59 sizeState rfl _ rfl w.heap.size _ rfl rfl (HF.out (Nb.nmax x y 16)).q0 ?_)
    | (refine wpList_store8 59 sizeState rfl _ _ rfl (w.heap.size + 1) _ _ rfl rfl rfl rfl (st_one _) (HF.out (Nb.nmax x y 16)).q1 ?_))
  have hld := (HF.out (Nb.nmax x y 16)).ld
  refine bodyPost_ret (v := .agg (st (up1 f k (Nb.nmax x y 16)))) ?_ rfl ⟨rfl, (HF.out (Nb.nmax x y 16)).bel⟩
  simp [results, Tryz.results184, asAddr, Act.put, hld]
end Ty
end Go.Proofs.YtgoigcpdfecfhaaGreatDoor
namespace Go.Proofs.YtgoigcpdfecfhaaGreatDoor
namespace Ty
open Go.RowKit
set_option linter.unusedVariables false
theorem sizeTab : (Tryz.prog.info? 214).map (·.size) = some 20 := by kernel_rfl
theorem wpList_store20 (t : TypeId) (hi : (Tryz.prog.info? t).map (·.size) = some 20) {w : World} {ops : Array Oper} {rest : List Oper} {o : Oper} {a : Act} {Q : Exit → Act → World → Prop} (hgd : o.guard = none) (s x : Operand) (ho : o.op = .store t s x)
    (b : Nat) (c old : Array Value) (hs : a.eval s = .pointer (some ⟨b, 0, none⟩)) (hx : a.eval x = .agg c) (hsz : c.size = 20) (hoz : old.size = 20) (h1 : c.all (·.oneCell') = true) (hh : w.heap[b]? = some (.cells old t (0, 0)))
    (h : wpList Tryz.prog ops Q rest (a.put o.dst undef) (w.setRow b c)) : wpList Tryz.prog ops Q (o :: rest) a w := by
  have hl : (Instr.storeAt t (.pointer (some ⟨b, 0, none⟩)) (.agg c)).run Tryz.prog w = .ok () (w.setRow b c) := by
    simp only [Instr.storeAt, Instr.sureAddr, Sem.run_bind, Sem.run_pure, Result.andThen]
    exact run_storeVar_row _ _ t t old c hh (by rw [hsz]; exact hi) (by omega) h1
  refine wpList_plain hgd fun K hK => ?_
  unfold Oper.wp execOp
  simp only [ho, hs, hx, Sem.run_bind, Sem.run_pure, Result.andThen_ok, hl]
  exact hK _ _ h
/-- The table of monoids. -/
def tabM : Array Value := #[.int .i64 1, .func (.func 176) #[] #[], .int .i64 1, .func (.func 177) #[] #[], .int .i64 1, .func (.func 178) #[] #[], .int .i64 1, .func (.func 179) #[] #[], .int .i64 1, .func (.func 180) #[] #[], .int .i64 1, .func (.func 181) #[] #[], .int .i64 1, .func (.func 182) #[] #[], .int .i64 1, .func (.func 183) #[] #[], .int .i64 1, .func (.func 184) #[] #[], .int .i64 6, .func (.func 186) #[] #[]]
theorem tab_all : tabM.all (·.oneCell') = true := by decide +kernel
/-- The three variables of 'Mon'. -/
theorem mon_tab (w : World) (f : Nat → Int) : ∃ v v2, (w.alloc (.cells (st f) 59)).alloc (.cells #[.int .u64 0, .int .u64 0, .int .u64 0, .int .u64 0, .int .u64 0, .int .u64 0, .int .u64 0, .int .u64 0] 59) = v ∧ (v.alloc (.cells #[.int .i64 0, .nilFunc, .int .i64 0, .nilFunc, .int .i64 0, .nilFunc, .int .i64 0, .nilFunc, .int .i64 0, .nilFunc, .int .i64 0, .nilFunc, .int .i64 0, .nilFunc, .int .i64 0, .nilFunc, .int .i64 0, .nilFunc, .int .i64 0, .nilFunc] 214)).heap[w.heap.size + 1 + 1]? = some (.cells #[.int .i64 0, .nilFunc, .int .i64 0, .nilFunc, .int .i64 0, .nilFunc, .int .i64 0, .nilFunc, .int .i64 0, .nilFunc, .int .i64 0, .nilFunc, .int .i64 0, .nilFunc, .int .i64 0, .nilFunc, .int .i64 0, .nilFunc, .int .i64 0, .nilFunc] 214 (0, 0)) ∧ (v.alloc (.cells #[.int .i64 0, .nilFunc, .int .i64 0, .nilFunc, .int .i64 0, .nilFunc, .int .i64 0, .nilFunc, .int .i64 0, .nilFunc, .int .i64 0, .nilFunc, .int .i64 0, .nilFunc, .int .i64 0, .nilFunc, .int .i64 0, .nilFunc, .int .i64 0, .nilFunc] 214)).setRow (w.heap.size + 1 + 1) #[.int .i64 1, .func (.func 176) #[] #[], .int .i64 1, .func (.func 177) #[] #[], .int .i64 1, .func (.func 178) #[] #[], .int .i64 1, .func (.func 179) #[] #[], .int .i64 1, .func (.func 180) #[] #[], .int .i64 1, .func (.func 181) #[] #[], .int .i64 1, .func (.func 182) #[] #[], .int .i64 1, .func (.func 183) #[] #[], .int .i64 1, .func (.func 184) #[] #[], .int .i64 6, .func (.func 186) #[] #[]] = v2 ∧ v.heap.size = w.heap.size + 1 + 1 ∧
    Below w.heap.size w v2 ∧ v2.heap.size = w.heap.size + 1 + 1 + 1 ∧ v2.heap[w.heap.size]? = some (.cells (st f) 59 (0, 0)) ∧ v2.heap[w.heap.size + 1]? = some (.cells (st (fun _ => 0)) 59 (0, 0)) ∧ v2.heap[w.heap.size + 1 + 1]? = some (.cells tabM 214 (0, 0)) := by
  obtain ⟨v, hv, hb, hs, h0, h1⟩ := two_states w f
  have hl := heap_alloc_last v (.cells #[.int .i64 0, .nilFunc, .int .i64 0, .nilFunc, .int .i64 0, .nilFunc, .int .i64 0, .nilFunc, .int .i64 0, .nilFunc, .int .i64 0, .nilFunc, .int .i64 0, .nilFunc, .int .i64 0, .nilFunc, .int .i64 0, .nilFunc, .int .i64 0, .nilFunc] 214)
  rw [hs] at hl
  refine ⟨v, _, hv, hl, rfl, hs, below_setRow _ _ (hb.alloc (by omega) _) (by omega), by simp [hs], ?_, ?_, ?_⟩
  · rw [setRow_other _ _ _ _ (by omega), blk_alloc _ _ _ (by omega)]; exact h0
  · rw [setRow_other _ _ _ _ (by omega), blk_alloc _ _ _ (by omega)]; exact h1
  · exact setRow_heap _ (w.heap.size + 1 + 1) _ _ 214 (0, 0) hl
theorem tab_cell {v : World} {g : Nat} (h : v.heap[g]? = some (.cells tabM 214 (0, 0))) (i : Nat) (x : Value) (hx : tabM[i]? = some x) : v.cell? ⟨g, i, none⟩ = some x := by
  simp [World.cell?, h, hx]
theorem st_open (f : Nat → Int) : ∃ x0 x1 x2 x3 x4 x5 x6 x7 : Int, st f = #[.int .u64 x0, .int .u64 x1, .int .u64 x2, .int .u64 x3, .int .u64 x4, .int .u64 x5, .int .u64 x6, .int .u64 x7] := ⟨_, _, _, _, _, _, _, _, rfl⟩
/-- Eight cells. -/
abbrev K8 (w : World) (g : Nat) (x0 x1 x2 x3 x4 x5 x6 x7 : Int) : Prop := w.cell? ⟨g, 0, none⟩ = some (.int .u64 x0) ∧ w.cell? ⟨g, 1, none⟩ = some (.int .u64 x1) ∧ w.cell? ⟨g, 2, none⟩ = some (.int .u64 x2) ∧ w.cell? ⟨g, 3, none⟩ = some (.int .u64 x3) ∧ w.cell? ⟨g, 4, none⟩ = some (.int .u64 x4) ∧ w.cell? ⟨g, 5, none⟩ = some (.int .u64 x5) ∧ w.cell? ⟨g, 6, none⟩ = some (.int .u64 x6) ∧ w.cell? ⟨g, 7, none⟩ = some (.int .u64 x7)
theorem k8_of {w : World} {g : Nat} {t : TypeId} {x0 x1 x2 x3 x4 x5 x6 x7 : Int} (h : w.heap[g]? = some (.cells #[.int .u64 x0, .int .u64 x1, .int .u64 x2, .int .u64 x3, .int .u64 x4, .int .u64 x5, .int .u64 x6, .int .u64 x7] t (0, 0))) : K8 w g x0 x1 x2 x3 x4 x5 x6 x7 ∧ ∀ i, w.frozen? ⟨g, i, none⟩ = false := by
  refine ⟨⟨?_, ?_, ?_, ?_, ?_, ?_, ?_, ?_⟩, fun i => ?_⟩ <;> simp [World.cell?, World.frozen?, h]
abbrev sets8 (w : World) (g : Nat) (x0 x1 x2 x3 x4 x5 x6 x7 : Int) : World := ((((((((w.setCell ⟨g, 0, none⟩ (.int .u64 x0)).setCell ⟨g, 1, none⟩ (.int .u64 x1)).setCell ⟨g, 2, none⟩ (.int .u64 x2)).setCell ⟨g, 3, none⟩ (.int .u64 x3)).setCell ⟨g, 4, none⟩ (.int .u64 x4)).setCell ⟨g, 5, none⟩ (.int .u64 x5)).setCell ⟨g, 6, none⟩ (.int .u64 x6)).setCell ⟨g, 7, none⟩ (.int .u64 x7))
theorem eight_sets {w : World} {g : Nat} {t : TypeId} {f : Nat → Value} {x0 x1 x2 x3 x4 x5 x6 x7 : Int} (h : w.rowIs g t 8 f) : (sets8 w g x0 x1 x2 x3 x4 x5 x6 x7).heap[g]? = some (.cells #[.int .u64 x0, .int .u64 x1, .int .u64 x2, .int .u64 x3, .int .u64 x4, .int .u64 x5, .int .u64 x6, .int .u64 x7] t (0, 0)) := by
  obtain ⟨c, hc, hs, hv⟩ := ((((((((h.set 0 (.int .u64 x0)).set 1 (.int .u64 x1)).set 2 (.int .u64 x2)).set 3 (.int .u64 x3)).set 4 (.int .u64 x4)).set 5 (.int .u64 x5)).set 6 (.int .u64 x6)).set 7 (.int .u64 x7))
  rw [hc]
  have e : c = #[.int .u64 x0, .int .u64 x1, .int .u64 x2, .int .u64 x3, .int .u64 x4, .int .u64 x5, .int .u64 x6, .int .u64 x7] := by
    apply Array.ext_getElem?
    intro i
    by_cases hi : i < 8
    · rw [hv i hi]
      match i, hi with
      | 0, _ => rfl
      | 1, _ => rfl
      | 2, _ => rfl
      | 3, _ => rfl
      | 4, _ => rfl
      | 5, _ => rfl
      | 6, _ => rfl
      | 7, _ => rfl
    · rw [Array.getElem?_eq_none (by omega), Array.getElem?_eq_none (by show 8 ≤ i; omega)]
  rw [e]
theorem sets_below8 {B : Nat} {w0 w : World} {g : Nat} {x0 x1 x2 x3 x4 x5 x6 x7 : Int} (h : Below B w0 w) (hg : B ≤ g) : Below B w0 (sets8 w g x0 x1 x2 x3 x4 x5 x6 x7) :=
  ((((((((h.setCell (show B ≤ (⟨g, 0, none⟩ : Addr).block from hg) _).setCell (show B ≤ (⟨g, 1, none⟩ : Addr).block from hg) _).setCell (show B ≤ (⟨g, 2, none⟩ : Addr).block from hg) _).setCell (show B ≤ (⟨g, 3, none⟩ : Addr).block from hg) _).setCell (show B ≤ (⟨g, 4, none⟩ : Addr).block from hg) _).setCell (show B ≤ (⟨g, 5, none⟩ : Addr).block from hg) _).setCell (show B ≤ (⟨g, 6, none⟩ : Addr).block from hg) _).setCell (show B ≤ (⟨g, 7, none⟩ : Addr).block from hg) _)
end Ty
end Go.Proofs.YtgoigcpdfecfhaaGreatDoor
namespace Go.Proofs.YtgoigcpdfecfhaaGreatDoor
namespace Ty
open Go.RowKit
set_option linter.unusedVariables false
set_option maxHeartbeats 1600000 in
theorem pmon_8 (f : Nat → Int) (k x : Nat) (y : Nat) (hk : k < 8) (hx : f k = x) (hx1 : x < 18446744073709551616) (hy1 : y < 18446744073709551616) (w : World) :
    Calls Tryz.prog 103 #[.int .i64 8, .agg (st f), .int .i64 k, .int .u64 y] w fun e w' => e = .returned (.agg (st (up1 f k (Nb.nmax x y 16)))) ∧ Below w.heap.size w w' := by
  obtain ⟨v, v2, hv, hal, hv2, hs, hb2, hs2, q0, q1, q2⟩ := mon_tab w f
  have t0 := tab_cell q2 16 (.int .i64 1) rfl
  have t1 := tab_cell q2 17 (.func (.func 184) #[] #[]) rfl
  have HP : Hid (∀ w, Calls Tryz.prog 184 #[.agg (st f), .int .i64 k, .int .u64 y] w fun e w' => e = .returned (.agg (st (up1 f k (Nb.nmax x y 16)))) ∧ Below w.heap.size w w') := fun w => mon9 f k x y hk hx hx1 hy1 w
  obtain ⟨x0, x1, x2, x3, x4, x5, x6, x7, hxA⟩ := st_open f
  obtain ⟨z0, z1, z2, z3, z4, z5, z6, z7, hxB⟩ := st_open (up1 f k (Nb.nmax x y 16))
  clear q2
  rw [hxB] at HP
  rw [hxA] at HP hv q0
  rw [hxB, hxA]
  obtain ⟨⟨c0, c1, c2, c3, c4, c5, c6, c7⟩, _⟩ := k8_of q0
  have HQ : Hid (v2.heap[w.heap.size + 1]? = some (.cells #[.int .u64 0, .int .u64 0, .int .u64 0, .int .u64 0, .int .u64 0, .int .u64 0, .int .u64 0, .int .u64 0] 59 (0, 0))) := q1
  have lR : w.heap.size + 1 < v2.heap.size := by omega
  have HB2 : Hid (Below w.heap.size w v2) := hb2
  have HD : Hid (Below v2.heap.size v2 v2.drew) := (Below.refl _ _).drew
  clear q0 q1 hb2 hxA hxB hx hx1 hy1
  go_enter Tryz.func103, Tryz.ntmps103
  go_wp2_with (refine wpList_store20 214 sizeTab rfl _ _ rfl (w.heap.size + 1 + 1) _ _ rfl rfl rfl rfl tab_all hal ?_; rw [hv2])
  clear hal hv hv2
  go_region_with (go_at_call 184; refine (HP.out _ ).mono ?_; rintro e9 w9 ⟨rfl, hw9⟩; have hq9 := ((HD.out.trans hw9).block _ lR).trans HQ.out; obtain ⟨⟨d0, d1, d2, d3, d4, d5, d6, d7⟩, fz⟩ := k8_of hq9; have z0f := fz 0; have z1f := fz 1; have z2f := fz 2; have z3f := fz 3; have z4f := fz 4; have z5f := fz 5; have z6f := fz 6; have z7f := fz 7)
  all_goals
    have hq := eight_sets (x0 := z0) (x1 := z1) (x2 := z2) (x3 := z3) (x4 := z4) (x5 := z5) (x6 := z6) (x7 := z7) (row_st (f := fun _ => 0) hq9)
    have hbel := sets_below8 (g := w.heap.size + 1) (x0 := z0) (x1 := z1) (x2 := z2) (x3 := z3) (x4 := z4) (x5 := z5) (x6 := z6) (x7 := z7) (HB2.out.trans ((HD.out.trans hw9).mono (by omega))) (by omega)
    have hld := run_loadVar_row _ _ 59 59 _ (0, 0) _ hq Tryz.underlying59 rfl sizeState
    clear d0 d1 d2 d3 d4 d5 d6 d7 z0f z1f z2f z3f z4f z5f z6f z7f fz c0 c1 c2 c3 c4 c5 c6 c7 t0 t1 hq9 HP
    go_wp2
    refine bodyPost_ret (v := .agg #[.int .u64 z0, .int .u64 z1, .int .u64 z2, .int .u64 z3, .int .u64 z4, .int .u64 z5, .int .u64 z6, .int .u64 z7]) ?_ rfl ⟨rfl, hbel⟩
    simp [results, Tryz.results103, asAddr, hld]
end Ty
end Go.Proofs.YtgoigcpdfecfhaaGreatDoor
