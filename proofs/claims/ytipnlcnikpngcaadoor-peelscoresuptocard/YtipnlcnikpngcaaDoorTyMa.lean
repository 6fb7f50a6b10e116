import Derived.Test.YtipnlcnikpngcaaDoorTyA
import Derived.Deep.QuietTactic
namespace Go.Proofs.YtipnlcnikpngcaaDoor
namespace Ty
open Go.RowKit
set_option linter.unusedVariables false
/-- A state of eight words. -/
def st (f : Nat → Int) : Array Value := #[.int .u64 (f 0), .int .u64 (f 1), .int .u64 (f 2), .int .u64 (f 3), .int .u64 (f 4), .int .u64 (f 5), .int .u64 (f 6), .int .u64 (f 7)]
theorem st_get (f : Nat → Int) (i : Nat) (h : i < 8) : (st f)[i]? = some (.int .u64 (f i)) := by
  match i, h with
  | 0, _ => rfl
  | 1, _ => rfl
  | 2, _ => rfl
  | 3, _ => rfl
  | 4, _ => rfl
  | 5, _ => rfl
  | 6, _ => rfl
  | 7, _ => rfl
theorem st_of (c : Array Value) (f : Nat → Int) (hs : c.size = 8) (h : ∀ i, i < 8 → c[i]? = some (.int .u64 (f i))) : c = st f := by
  apply Array.ext_getElem?
  intro i
  by_cases hi : i < 8
  · rw [h i hi, st_get f i hi]
  · rw [Array.getElem?_eq_none (by omega), Array.getElem?_eq_none (by show 8 ≤ i; omega)]
theorem st_one (f : Nat → Int) : (st f).all (·.oneCell') = true := by
  rw [Array.all_eq_true]
  intro i hi
  have h1 := st_get f i hi
  rw [Array.getElem?_eq_getElem hi] at h1
  rw [Option.some.inj h1]; rfl
theorem st_congr {f g : Nat → Int} (h : ∀ i, i < 8 → f i = g i) : st f = st g := by
  unfold st
  rw [h 0 (by omega), h 1 (by omega), h 2 (by omega), h 3 (by omega), h 4 (by omega), h 5 (by omega), h 6 (by omega), h 7 (by omega)]
theorem row_st {w : World} {b : Nat} {t : TypeId} {f : Nat → Int} (h : w.heap[b]? = some (.cells (st f) t (0, 0))) : w.rowIs b t 8 (fun i => .int .u64 (f i)) :=
  ⟨_, h, rfl, fun i hi => st_get f i hi⟩
theorem st_row {w : World} {b : Nat} {t : TypeId} {f : Nat → Int} (h : w.rowIs b t 8 (fun i => .int .u64 (f i))) : w.heap[b]? = some (.cells (st f) t (0, 0)) := by
  obtain ⟨c, h1, h2, h3⟩ := h
  rw [h1, st_of c f h2 h3]
theorem sizeState : (Tryd.prog.info? 41).map (·.size) = some 8 := by kernel_rfl
theorem wpList_load8 (t e : TypeId) (hu : Tryd.prog.underlying t = some (.array 8 e)) (hi : (Tryd.prog.info? t).map (·.size) = some 8) {w : World} {ops : Array Oper} {rest : List Oper} {o : Oper} {a : Act} {Q : Exit → Act → World → Prop} (hgd : o.guard = none) (s : Operand) (ho : o.op = .load t s)
    (b : Nat) (c : Array Value) (hs : a.eval s = .pointer (some ⟨b, 0, none⟩)) (hsz : c.size = 8) (hh : w.heap[b]? = some (.cells c t (0, 0)))
    (h : wpList Tryd.prog ops Q rest (a.put o.dst (.agg c)) w) : wpList Tryd.prog ops Q (o :: rest) a w := by
  have hl : (Instr.loadAt t (.pointer (some ⟨b, 0, none⟩))).run Tryd.prog w = .ok (.agg c) w := by
    simp only [Instr.loadAt, Instr.sureAddr, Sem.run_bind, Sem.run_pure, Result.andThen]
    exact run_loadVar_row _ _ t t c (0, 0) _ hh hu rfl (by rw [hsz]; exact hi)
  refine wpList_plain hgd fun K hK => ?_
  unfold Oper.wp execOp
  simp only [ho, hs, Sem.run_bind, Sem.run_pure, Result.andThen_ok, hl]
  exact hK _ _ h
theorem wpList_store8 (t : TypeId) (hi : (Tryd.prog.info? t).map (·.size) = some 8) {w : World} {ops : Array Oper} {rest : List Oper} {o : Oper} {a : Act} {Q : Exit → Act → World → Prop} (hgd : o.guard = none) (s x : Operand) (ho : o.op = .store t s x)
    (b : Nat) (c old : Array Value) (hs : a.eval s = .pointer (some ⟨b, 0, none⟩)) (hx : a.eval x = .agg c) (hsz : c.size = 8) (hoz : old.size = 8) (h1 : c.all (·.oneCell') = true) (hh : w.heap[b]? = some (.cells old t (0, 0)))
    (h : wpList Tryd.prog ops Q rest (a.put o.dst undef) (w.setRow b c)) : wpList Tryd.prog ops Q (o :: rest) a w := by
  have hl : (Instr.storeAt t (.pointer (some ⟨b, 0, none⟩)) (.agg c)).run Tryd.prog w = .ok () (w.setRow b c) := by
    simp only [Instr.storeAt, Instr.sureAddr, Sem.run_bind, Sem.run_pure, Result.andThen]
    exact run_storeVar_row _ _ t t old c hh (by rw [hsz]; exact hi) (by omega) h1
  refine wpList_plain hgd fun K hK => ?_
  unfold Oper.wp execOp
  simp only [ho, hs, hx, Sem.run_bind, Sem.run_pure, Result.andThen_ok, hl]
  exact hK _ _ h
/-- One word turned. -/
def up1 (f : Nat → Int) (k : Nat) (x : Int) : Nat → Int := fun i => if i = k then x else f i
def zs8 : Array Value := #[.int .u64 0, .int .u64 0, .int .u64 0, .int .u64 0, .int .u64 0, .int .u64 0, .int .u64 0, .int .u64 0]
/-- What stands when a closure has turned word k of its state to x. -/
structure Fin (w v : World) (f : Nat → Int) (k : Nat) (x : Int) : Prop where
  q0 : (v.setCell ⟨w.heap.size, k, none⟩ (.int .u64 x)).heap[w.heap.size]? = some (.cells (st (up1 f k x)) 41 (0, 0))
  q1 : (v.setCell ⟨w.heap.size, k, none⟩ (.int .u64 x)).heap[w.heap.size + 1]? = some (.cells #[.int .u64 0, .int .u64 0, .int .u64 0, .int .u64 0, .int .u64 0, .int .u64 0, .int .u64 0, .int .u64 0] 41 (0, 0))
  bel : Below w.heap.size w ((v.setCell ⟨w.heap.size, k, none⟩ (.int .u64 x)).setRow (w.heap.size + 1) (st (up1 f k x)))
  ld : (loadVar 41 ⟨w.heap.size + 1, 0, none⟩).run Tryd.prog ((v.setCell ⟨w.heap.size, k, none⟩ (.int .u64 x)).setRow (w.heap.size + 1) (st (up1 f k x))) = .ok (.agg (st (up1 f k x))) ((v.setCell ⟨w.heap.size, k, none⟩ (.int .u64 x)).setRow (w.heap.size + 1) (st (up1 f k x)))
theorem mon_frame (w : World) (f : Nat → Int) (k : Nat) (hk : k < 8) : ∃ v, (w.alloc (.cells (st f) 41)).alloc (.cells #[.int .u64 0, .int .u64 0, .int .u64 0, .int .u64 0, .int .u64 0, .int .u64 0, .int .u64 0, .int .u64 0] 41) = v ∧ v.cell? ⟨w.heap.size, k, none⟩ = some (.int .u64 (f k)) ∧ v.frozen? ⟨w.heap.size, k, none⟩ = false ∧ ∀ x, Fin w v f k x := by
  obtain ⟨h1, h2⟩ := heap_two w (.cells (st f) 41) (.cells #[.int .u64 0, .int .u64 0, .int .u64 0, .int .u64 0, .int .u64 0, .int .u64 0, .int .u64 0, .int .u64 0] 41)
  have hb : Below w.heap.size w ((w.alloc (.cells (st f) 41)).alloc (.cells #[.int .u64 0, .int .u64 0, .int .u64 0, .int .u64 0, .int .u64 0, .int .u64 0, .int .u64 0, .int .u64 0] 41)) := ((Below.refl _ _).alloc (Nat.le_refl _) _).alloc (by simp) _
  generalize (w.alloc (.cells (st f) 41)).alloc (.cells #[.int .u64 0, .int .u64 0, .int .u64 0, .int .u64 0, .int .u64 0, .int .u64 0, .int .u64 0, .int .u64 0] 41) = v at *
  have r := row_st h1
  refine ⟨v, rfl, r.cell hk, r.frozen k, fun x => ?_⟩
  have q0 : (v.setCell ⟨w.heap.size, k, none⟩ (.int .u64 x)).heap[w.heap.size]? = some (.cells (st (up1 f k x)) 41 (0, 0)) := by
    refine st_row ((r.set k _).congr (fun i hi => ?_))
    unfold up1
    by_cases e : i = k
    · simp [e]
    · simp [e]
  have q1 : (v.setCell ⟨w.heap.size, k, none⟩ (.int .u64 x)).heap[w.heap.size + 1]? = some (.cells #[.int .u64 0, .int .u64 0, .int .u64 0, .int .u64 0, .int .u64 0, .int .u64 0, .int .u64 0, .int .u64 0] 41 (0, 0)) := by
    exact st_row (f := fun _ => 0) ((row_st (f := fun _ => 0) h2).setOther (by show w.heap.size + 1 ≠ w.heap.size; omega) _)
  have hb2 := hb.setCell (p := ⟨w.heap.size, k, none⟩) (Nat.le_refl _) (.int .u64 x)
  exact ⟨q0, q1, below_setRow _ _ hb2 (by omega), run_loadVar_row _ _ 41 41 _ (0, 0) _ (setRow_heap _ (w.heap.size + 1) _ _ 41 (0, 0) q1) Tryd.underlying41 rfl sizeState⟩
set_option maxHeartbeats 800000 in
theorem mon2 (f : Nat → Int) (k : Nat) (y : Int) (hk : k < 8) (h0 : ∀ i, 0 ≤ f i ∧ f i < 18446744073709551616) (y0 : 0 ≤ y) (y1 : y < 18446744073709551616) (w : World) :
    Calls Tryd.prog 35 #[.agg (st f), .int .i64 k, .int .u64 y] w fun e w' => e = .returned (.agg (st (up1 f k (min (f k) y)))) ∧ Below w.heap.size w w' := by
  obtain ⟨v, hv, c0, f0, HF0⟩ := mon_frame w f k hk
  have HF : Hid (∀ x, Fin w v f k x) := HF0
  obtain ⟨z0, z1⟩ := h0 k
  clear HF0 h0
  generalize hsa : st f = ca at *
  generalize hx : f k = x at *
  by_cases h : y < x
  · go_enter Tryd.func35, Tryd.ntmps35
    go_wp2_with (first
      | (refine wpList_load8 41 _ Tryd.underlying41 sizeState rfl _ rfl w.heap.size _ rfl rfl (HF.out (y)).q0 ?_)
      | (refine wpList_store8 41 sizeState rfl _ _ rfl (w.heap.size + 1) _ _ rfl rfl rfl rfl (st_one _) (HF.out (y)).q1 ?_))
    have hld := (HF.out (y)).ld
    refine bodyPost_ret (v := .agg (st (up1 f k (y)))) ?_ rfl ⟨by rw [show min x y = y by omega], (HF.out (y)).bel⟩
    simp [results, Tryd.results35, asAddr, Act.put, hld]
  · go_enter Tryd.func35, Tryd.ntmps35
    go_wp2_with (first
      | (refine wpList_load8 41 _ Tryd.underlying41 sizeState rfl _ rfl w.heap.size _ rfl rfl (HF.out (x)).q0 ?_)
      | (refine wpList_store8 41 sizeState rfl _ _ rfl (w.heap.size + 1) _ _ rfl rfl rfl rfl (st_one _) (HF.out (x)).q1 ?_))
    have hld := (HF.out (x)).ld
    refine bodyPost_ret (v := .agg (st (up1 f k (x)))) ?_ rfl ⟨by rw [show min x y = x by omega], (HF.out (x)).bel⟩
    simp [results, Tryd.results35, asAddr, hld]
set_option maxHeartbeats 800000 in
theorem mon3 (f : Nat → Int) (k : Nat) (y : Int) (hk : k < 8) (h0 : ∀ i, 0 ≤ f i ∧ f i < 18446744073709551616) (y0 : 0 ≤ y) (y1 : y < 18446744073709551616) (w : World) :
    Calls Tryd.prog 36 #[.agg (st f), .int .i64 k, .int .u64 y] w fun e w' => e = .returned (.agg (st (up1 f k (max (f k) y)))) ∧ Below w.heap.size w w' := by
  obtain ⟨v, hv, c0, f0, HF0⟩ := mon_frame w f k hk
  have HF : Hid (∀ x, Fin w v f k x) := HF0
  obtain ⟨z0, z1⟩ := h0 k
  clear HF0 h0
  generalize hsa : st f = ca at *
  generalize hx : f k = x at *
  by_cases h : x < y
  · go_enter Tryd.func36, Tryd.ntmps36
    go_wp2_with (first
      | (refine wpList_load8 41 _ Tryd.underlying41 sizeState rfl _ rfl w.heap.size _ rfl rfl (HF.out (y)).q0 ?_)
      | (refine wpList_store8 41 sizeState rfl _ _ rfl (w.heap.size + 1) _ _ rfl rfl rfl rfl (st_one _) (HF.out (y)).q1 ?_))
    have hld := (HF.out (y)).ld
    refine bodyPost_ret (v := .agg (st (up1 f k (y)))) ?_ rfl ⟨by rw [show max x y = y by omega], (HF.out (y)).bel⟩
    simp [results, Tryd.results36, asAddr, Act.put, hld]
  · go_enter Tryd.func36, Tryd.ntmps36
    go_wp2_with (first
      | (refine wpList_load8 41 _ Tryd.underlying41 sizeState rfl _ rfl w.heap.size _ rfl rfl (HF.out (x)).q0 ?_)
      | (refine wpList_store8 41 sizeState rfl _ _ rfl (w.heap.size + 1) _ _ rfl rfl rfl rfl (st_one _) (HF.out (x)).q1 ?_))
    have hld := (HF.out (x)).ld
    refine bodyPost_ret (v := .agg (st (up1 f k (x)))) ?_ rfl ⟨by rw [show max x y = x by omega], (HF.out (x)).bel⟩
    simp [results, Tryd.results36, asAddr, hld]
set_option maxHeartbeats 800000 in
theorem mon6 (f : Nat → Int) (k : Nat) (y : Int) (hk : k < 8) (h0 : ∀ i, 0 ≤ f i ∧ f i < 18446744073709551616) (y0 : 0 ≤ y) (y1 : y < 18446744073709551616) (w : World) :
    Calls Tryd.prog 39 #[.agg (st f), .int .i64 k, .int .u64 y] w fun e w' => e = .returned (.agg (st (up1 f k (IntKind.u64.wrap (f k + y))))) ∧ Below w.heap.size w w' := by
  obtain ⟨v, hv, c0, f0, HF0⟩ := mon_frame w f k hk
  have HF : Hid (∀ x, Fin w v f k x) := HF0
  obtain ⟨z0, z1⟩ := h0 k
  clear HF0 h0
  generalize hsa : st f = ca at *
  generalize hx : f k = x at *
  go_enter Tryd.func39, Tryd.ntmps39
  go_wp2_with (first
    | (refine wpList_load8 41 _ Tryd.underlying41 sizeState rfl _ rfl w.heap.size _ rfl rfl (HF.out (IntKind.u64.wrap (x + y))).q0 ?_)
    | (refine wpList_store8 41 sizeState rfl _ _ rfl (w.heap.size + 1) _ _ rfl rfl rfl rfl (st_one _) (HF.out (IntKind.u64.wrap (x + y))).q1 ?_))
  have hld := (HF.out (IntKind.u64.wrap (x + y))).ld
  refine bodyPost_ret (v := .agg (st (up1 f k (IntKind.u64.wrap (x + y))))) ?_ rfl ⟨rfl, (HF.out (IntKind.u64.wrap (x + y))).bel⟩
  simp [results, Tryd.results39, asAddr, Act.put, hld]
set_option maxHeartbeats 800000 in
theorem mon7 (f : Nat → Int) (k : Nat) (y : Int) (hk : k < 8) (h0 : ∀ i, 0 ≤ f i ∧ f i < 18446744073709551616) (y0 : 0 ≤ y) (y1 : y < 18446744073709551616) (w : World) :
    Calls Tryd.prog 40 #[.agg (st f), .int .i64 k, .int .u64 y] w fun e w' => e = .returned (.agg (st (up1 f k (bits .and .u64 (f k) y)))) ∧ Below w.heap.size w w' := by
  obtain ⟨v, hv, c0, f0, HF0⟩ := mon_frame w f k hk
  have HF : Hid (∀ x, Fin w v f k x) := HF0
  obtain ⟨z0, z1⟩ := h0 k
  clear HF0 h0
  generalize hsa : st f = ca at *
  generalize hx : f k = x at *
  go_enter Tryd.func40, Tryd.ntmps40
  go_wp2_with (first
    | (refine wpList_load8 41 _ Tryd.underlying41 sizeState rfl _ rfl w.heap.size _ rfl rfl (HF.out (bits .and .u64 x y)).q0 ?_)
    | (refine wpList_store8 41 sizeState rfl _ _ rfl (w.heap.size + 1) _ _ rfl rfl rfl rfl (st_one _) (HF.out (bits .and .u64 x y)).q1 ?_))
  have hld := (HF.out (bits .and .u64 x y)).ld
  refine bodyPost_ret (v := .agg (st (up1 f k (bits .and .u64 x y)))) ?_ rfl ⟨rfl, (HF.out (bits .and .u64 x y)).bel⟩
  simp [results, Tryd.results40, asAddr, Act.put, hld]
set_option maxHeartbeats 800000 in
theorem mon8 (f : Nat → Int) (k : Nat) (y : Int) (hk : k < 8) (h0 : ∀ i, 0 ≤ f i ∧ f i < 18446744073709551616) (y0 : 0 ≤ y) (y1 : y < 18446744073709551616) (w : World) :
    Calls Tryd.prog 41 #[.agg (st f), .int .i64 k, .int .u64 y] w fun e w' => e = .returned (.agg (st (up1 f k (bits .or .u64 (f k) y)))) ∧ Below w.heap.size w w' := by
  obtain ⟨v, hv, c0, f0, HF0⟩ := mon_frame w f k hk
  have HF : Hid (∀ x, Fin w v f k x) := HF0
  obtain ⟨z0, z1⟩ := h0 k
  clear HF0 h0
  generalize hsa : st f = ca at *
  generalize hx : f k = x at *
  go_enter Tryd.func41, Tryd.ntmps41
  go_wp2_with (first
    | (refine wpList_load8 41 _ Tryd.underlying41 sizeState rfl _ rfl w.heap.size _ rfl rfl (HF.out (bits .or .u64 x y)).q0 ?_)
    | (refine wpList_store8 41 sizeState rfl _ _ rfl (w.heap.size + 1) _ _ rfl rfl rfl rfl (st_one _) (HF.out (bits .or .u64 x y)).q1 ?_))
  have hld := (HF.out (bits .or .u64 x y)).ld
  refine bodyPost_ret (v := .agg (st (up1 f k (bits .or .u64 x y)))) ?_ rfl ⟨rfl, (HF.out (bits .or .u64 x y)).bel⟩
  simp [results, Tryd.results41, asAddr, Act.put, hld]
theorem wrap_back (x : Int) (h0 : 0 ≤ x) (h1 : x < 18446744073709551616) : IntKind.u64.wrap (wrap64 x) = x := by
  rw [IntKind.wrap_u64]; unfold wrap64; omega
set_option maxHeartbeats 800000 in
theorem mon4 (f : Nat → Int) (k : Nat) (y : Int) (hk : k < 8) (h0 : ∀ i, 0 ≤ f i ∧ f i < 18446744073709551616) (y0 : 0 ≤ y) (y1 : y < 18446744073709551616) (w : World) :
    Calls Tryd.prog 37 #[.agg (st f), .int .i64 k, .int .u64 y] w fun e w' => e = .returned (.agg (st (up1 f k (if wrap64 y < wrap64 (f k) then y else f k)))) ∧ Below w.heap.size w w' := by
  obtain ⟨v, hv, c0, f0, HF0⟩ := mon_frame w f k hk
  have HF : Hid (∀ x, Fin w v f k x) := HF0
  obtain ⟨z0, z1⟩ := h0 k
  clear HF0 h0
  generalize hsa : st f = ca at *
  generalize hx : f k = x at *
  have hwx := wrap_back x z0 z1
  have hwy := wrap_back y y0 y1
  by_cases h : wrap64 y < wrap64 x
  · go_enter Tryd.func37, Tryd.ntmps37
    go_wp2_with (first
      | (refine wpList_load8 41 _ Tryd.underlying41 sizeState rfl _ rfl w.heap.size _ rfl rfl (HF.out (y)).q0 ?_)
      | (refine wpList_store8 41 sizeState rfl _ _ rfl (w.heap.size + 1) _ _ rfl rfl rfl rfl (st_one _) (HF.out (y)).q1 ?_))
    have hld := (HF.out (y)).ld
    refine bodyPost_ret (v := .agg (st (up1 f k (y)))) ?_ rfl ⟨by first | rfl | rw [if_pos (by omega)], (HF.out (y)).bel⟩
    simp [results, Tryd.results37, asAddr, hld]
  · go_enter Tryd.func37, Tryd.ntmps37
    go_wp2_with (first
      | (refine wpList_load8 41 _ Tryd.underlying41 sizeState rfl _ rfl w.heap.size _ rfl rfl (HF.out (x)).q0 ?_)
      | (refine wpList_store8 41 sizeState rfl _ _ rfl (w.heap.size + 1) _ _ rfl rfl rfl rfl (st_one _) (HF.out (x)).q1 ?_))
    have hld := (HF.out (x)).ld
    refine bodyPost_ret (v := .agg (st (up1 f k (x)))) ?_ rfl ⟨by first | rfl | rw [if_neg (by omega)], (HF.out (x)).bel⟩
    simp [results, Tryd.results37, asAddr, hld]
set_option maxHeartbeats 800000 in
theorem mon5 (f : Nat → Int) (k : Nat) (y : Int) (hk : k < 8) (h0 : ∀ i, 0 ≤ f i ∧ f i < 18446744073709551616) (y0 : 0 ≤ y) (y1 : y < 18446744073709551616) (w : World) :
    Calls Tryd.prog 38 #[.agg (st f), .int .i64 k, .int .u64 y] w fun e w' => e = .returned (.agg (st (up1 f k (if wrap64 (f k) < wrap64 y then y else f k)))) ∧ Below w.heap.size w w' := by
  obtain ⟨v, hv, c0, f0, HF0⟩ := mon_frame w f k hk
  have HF : Hid (∀ x, Fin w v f k x) := HF0
  obtain ⟨z0, z1⟩ := h0 k
  clear HF0 h0
  generalize hsa : st f = ca at *
  generalize hx : f k = x at *
  have hwx := wrap_back x z0 z1
  have hwy := wrap_back y y0 y1
  by_cases h : wrap64 x < wrap64 y
  · go_enter Tryd.func38, Tryd.ntmps38
    go_wp2_with (first
      | (refine wpList_load8 41 _ Tryd.underlying41 sizeState rfl _ rfl w.heap.size _ rfl rfl (HF.out (y)).q0 ?_)
      | (refine wpList_store8 41 sizeState rfl _ _ rfl (w.heap.size + 1) _ _ rfl rfl rfl rfl (st_one _) (HF.out (y)).q1 ?_))
    have hld := (HF.out (y)).ld
    refine bodyPost_ret (v := .agg (st (up1 f k (y)))) ?_ rfl ⟨by first | rfl | rw [if_pos (by omega)], (HF.out (y)).bel⟩
    simp [results, Tryd.results38, asAddr, hld]
  · go_enter Tryd.func38, Tryd.ntmps38
    go_wp2_with (first
      | (refine wpList_load8 41 _ Tryd.underlying41 sizeState rfl _ rfl w.heap.size _ rfl rfl (HF.out (x)).q0 ?_)
      | (refine wpList_store8 41 sizeState rfl _ _ rfl (w.heap.size + 1) _ _ rfl rfl rfl rfl (st_one _) (HF.out (x)).q1 ?_))
    have hld := (HF.out (x)).ld
    refine bodyPost_ret (v := .agg (st (up1 f k (x)))) ?_ rfl ⟨by first | rfl | rw [if_neg (by omega)], (HF.out (x)).bel⟩
    simp [results, Tryd.results38, asAddr, hld]
end Ty
end Go.Proofs.YtipnlcnikpngcaaDoor
