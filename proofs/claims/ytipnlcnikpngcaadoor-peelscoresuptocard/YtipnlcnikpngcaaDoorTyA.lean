import Derived.Test.YtipnlcnikpngcaaDoorTyNum
import Derived.Deep.RegionWith
import Derived.Deep.RegionHeld
namespace Go.Proofs.YtipnlcnikpngcaaDoor
namespace Ty
open Go.RowKit
set_option linter.unusedVariables false
theorem sizeSum : (Tryd.prog.info? 102).map (·.size) = some 6 := by kernel_rfl
theorem loadAt6 (t e : TypeId) (hu : Tryd.prog.underlying t = some (.array 6 e)) (hi : (Tryd.prog.info? t).map (·.size) = some 6) (w : World) (b : Nat) (c : Array Value) (hs : c.size = 6) (h : w.heap[b]? = some (.cells c t (0, 0))) :
    (Instr.loadAt t (.pointer (some ⟨b, 0, none⟩))).run Tryd.prog w = .ok (.agg c) w := by
  simp only [Instr.loadAt, Instr.sureAddr, Sem.run_bind, Sem.run_pure, Result.andThen]
  exact run_loadVar_row _ _ t t c (0, 0) _ h hu rfl (by rw [hs]; exact hi)
theorem storeAt6 (t : TypeId) (hi : (Tryd.prog.info? t).map (·.size) = some 6) (w : World) (b : Nat) (c old : Array Value) (hs : c.size = 6) (ho : old.size = 6) (h1 : c.all (·.oneCell') = true) (h : w.heap[b]? = some (.cells old t (0, 0))) :
    (Instr.storeAt t (.pointer (some ⟨b, 0, none⟩)) (.agg c)).run Tryd.prog w = .ok () (w.setRow b c) := by
  simp only [Instr.storeAt, Instr.sureAddr, Sem.run_bind, Sem.run_pure, Result.andThen]
  exact run_storeVar_row _ _ t t old c h (by rw [hs]; exact hi) (by omega) h1
theorem wpList_load6 (t e : TypeId) (hu : Tryd.prog.underlying t = some (.array 6 e)) (hi : (Tryd.prog.info? t).map (·.size) = some 6) {w : World} {ops : Array Oper} {rest : List Oper} {o : Oper} {a : Act} {Q : Exit → Act → World → Prop} (hgd : o.guard = none) (s : Operand) (ho : o.op = .load t s)
    (b : Nat) (c : Array Value) (hs : a.eval s = .pointer (some ⟨b, 0, none⟩)) (hsz : c.size = 6) (hh : w.heap[b]? = some (.cells c t (0, 0)))
    (h : wpList Tryd.prog ops Q rest (a.put o.dst (.agg c)) w) : wpList Tryd.prog ops Q (o :: rest) a w := by
  refine wpList_plain hgd fun K hK => ?_
  unfold Oper.wp execOp
  simp only [ho, hs, Sem.run_bind, Sem.run_pure, Result.andThen_ok, loadAt6 t e hu hi w b c hsz hh]
  exact hK _ _ h
theorem wpList_store6 (t : TypeId) (hi : (Tryd.prog.info? t).map (·.size) = some 6) {w : World} {ops : Array Oper} {rest : List Oper} {o : Oper} {a : Act} {Q : Exit → Act → World → Prop} (hgd : o.guard = none) (s x : Operand) (ho : o.op = .store t s x)
    (b : Nat) (c old : Array Value) (hs : a.eval s = .pointer (some ⟨b, 0, none⟩)) (hx : a.eval x = .agg c) (hsz : c.size = 6) (hoz : old.size = 6) (h1 : c.all (·.oneCell') = true) (hh : w.heap[b]? = some (.cells old t (0, 0)))
    (h : wpList Tryd.prog ops Q rest (a.put o.dst undef) (w.setRow b c)) : wpList Tryd.prog ops Q (o :: rest) a w := by
  refine wpList_plain hgd fun K hK => ?_
  unfold Oper.wp execOp
  simp only [ho, hs, hx, Sem.run_bind, Sem.run_pure, Result.andThen_ok, storeAt6 t hi w b c old hsz hoz h1 hh]
  exact hK _ _ h
theorem sm_one (N : Int) : (sm N).all (·.oneCell') = true := by
  rw [Array.all_eq_true]
  intro i hi
  have h1 := sm_get N i hi
  rw [Array.getElem?_eq_getElem hi] at h1
  rw [Option.some.inj h1]; rfl
theorem row_sm {w : World} {b : Nat} {t : TypeId} {N : Int} (h : w.heap[b]? = some (.cells (sm N) t (0, 0))) : w.rowIs b t 6 (fun i => .int .u64 (wd N i)) :=
  ⟨_, h, rfl, fun i hi => sm_get N i hi⟩
theorem sm_row {w : World} {b : Nat} {t : TypeId} {N : Int} (h : w.rowIs b t 6 (fun i => .int .u64 (wd N i))) : w.heap[b]? = some (.cells (sm N) t (0, 0)) := by
  obtain ⟨c, h1, h2, h3⟩ := h
  rw [h1, sm_of c N h2 h3]
theorem blk_alloc (w : World) (o : Obj) (b : Nat) (h : b < w.heap.size) : (w.alloc o).heap[b]? = w.heap[b]? := by
  show (w.heap.push o)[b]? = _
  rw [Array.getElem?_push, if_neg (by omega)]
theorem heap_two (w : World) (o1 o2 : Obj) : ((w.alloc o1).alloc o2).heap[w.heap.size]? = some o1 ∧ ((w.alloc o1).alloc o2).heap[w.heap.size + 1]? = some o2 := by
  show ((w.heap.push o1).push o2)[w.heap.size]? = some o1 ∧ ((w.heap.push o1).push o2)[w.heap.size + 1]? = some o2
  constructor
  · rw [Array.getElem?_push, if_neg (by simp), Array.getElem?_push, if_pos rfl]
  · rw [Array.getElem?_push, if_pos (by simp)]
theorem heap_three (w : World) (o1 o2 o3 : Obj) : (((w.alloc o1).alloc o2).alloc o3).heap[w.heap.size]? = some o1 ∧ (((w.alloc o1).alloc o2).alloc o3).heap[w.heap.size + 1]? = some o2 ∧ (((w.alloc o1).alloc o2).alloc o3).heap[w.heap.size + 1 + 1]? = some o3 := by
  obtain ⟨h1, h2⟩ := heap_two w o1 o2
  refine ⟨(blk_alloc _ _ _ (by simp; omega)).trans h1, (blk_alloc _ _ _ (by simp)).trans h2, ?_⟩
  have h3 := heap_alloc_last ((w.alloc o1).alloc o2) o3
  have e : ((w.alloc o1).alloc o2).heap.size = w.heap.size + 1 + 1 := by simp
  rw [e] at h3; exact h3
theorem zero_wd (i : Nat) : wd 0 i = 0 := by unfold wd; simp
theorem zeros_sm : #[Value.int .u64 0, .int .u64 0, .int .u64 0, .int .u64 0, .int .u64 0, .int .u64 0] = sm 0 := by
  unfold sm; simp only [zero_wd]
theorem below_setRow {w wr : World} (b : Nat) (c : Array Value) (h : Below w.heap.size w wr) (hb : w.heap.size ≤ b) : Below w.heap.size w (wr.setRow b c) :=
  h.trans ⟨rfl, rfl, rfl, by simp, fun k hk => setRow_other wr _ k c (by omega)⟩
/-- What the variables of 'Merge' hold behind k rounds. -/
def MMid (w wr : World) (A B : Int) (k : Nat) : Prop :=
  Below w.heap.size w wr ∧ wr.rowIs w.heap.size 102 6 (fun i => .int .u64 (if i < k then wd (A + B) i else wd A i)) ∧
  wr.rowIs (w.heap.size + 1) 102 6 (fun i => .int .u64 (wd B i)) ∧ wr.rowIs (w.heap.size + 1 + 1) 102 6 (fun i => .int .u64 (wd 0 i))
theorem mm_start (w : World) (A B : Int) : MMid w (((w.alloc (.cells (sm A) 102)).alloc (.cells (sm B) 102)).alloc (.cells (sm 0) 102)) A B 0 := by
  obtain ⟨h1, h2, h3⟩ := heap_three w (.cells (sm A) 102) (.cells (sm B) 102) (.cells (sm 0) 102)
  refine ⟨(((Below.refl _ _).alloc (Nat.le_refl _) _).alloc (by simp) _).alloc (by simp; omega) _, (row_sm h1).congr (fun i hi => by simp), row_sm h2, row_sm h3⟩
theorem mm_step {w wr : World} {A B : Int} {k : Nat} (hm : MMid w wr A B k) : MMid w (wr.drew.setCell ⟨w.heap.size, k, none⟩ (.int .u64 ((wd A k + wd B k + cr 64 A B k) % 18446744073709551616))) A B (k + 1) := by
  obtain ⟨b1, r0, r1, r2⟩ := hm
  refine ⟨b1.drew.setCell (Nat.le_refl _) _, ?_, (r1.of_block rfl).setOther (by show w.heap.size + 1 ≠ w.heap.size; omega) _, (r2.of_block rfl).setOther (by show w.heap.size + 1 + 1 ≠ w.heap.size; omega) _⟩
  refine (World.rowIs.set (w := wr.drew) (r0.of_block rfl) k _).congr (fun i hi => ?_)
  by_cases e : i = k
  · subst e; simp [(wd_add A B i).1]
  · simp only [e, if_false]
    by_cases h : i < k
    · rw [if_pos h, if_pos (by omega)]
    · rw [if_neg h, if_neg (by omega)]
set_option maxHeartbeats 800000 in
theorem merge_any (A B : Int) (w : World) :
    Calls Tryd.prog 52 #[.agg (sm A), .agg (sm B)] w fun e w' => e = .returned (.agg (sm (A + B))) ∧ Below w.heap.size w w' := by
  have h0 := mm_start w A B
  rw [← zeros_sm] at h0
  have hone := sm_one (A + B)
  have hz6 : (sm (A + B)).size = 6 := rfl
  generalize hsa : sm A = ca at *
  generalize hsb : sm B = cb at *
  go_enter Tryd.func52, Tryd.ntmps52
  go_wp2
  go_loopw [5, 7] (fun c i wr => ∃ k : Nat, k ≤ 6 ∧ i = .int .i64 k ∧ c = .int .u64 (cr 64 A B k) ∧ MMid w wr A B k) (fun _ i _ => 6 - (intOf i).toNat)
  case atStart => exact ⟨0, by omega, rfl, by rw [cr_zero], h0⟩
  case round =>
    clear h0 hsa hsb
    obtain ⟨k, hk, rfl, rfl, hm⟩ := hrel
    by_cases hlt : k < 6
    · have HM : Hid (MMid w (wr.drew.setCell ⟨w.heap.size, k, none⟩ (.int .u64 ((wd A k + wd B k + cr 64 A B k) % 18446744073709551616))) A B (k + 1)) := mm_step hm
      have HC : Hid ((wd A k + wd B k + cr 64 A B k) / 18446744073709551616 = cr 64 A B (k + 1)) := (wd_add A B k).2
      obtain ⟨b1, r0, r1, r2⟩ := hm
      have c0 := r0.cell hlt
      have c1 := r1.cell hlt
      have f0 := r0.frozen k
      simp only [Nat.lt_irrefl, if_false] at c0
      clear r0 r1 r2 b1 hone hz6
      have hcr := cr_b 64 A B k
      have ha := (wd_b A k).1
      have hb := (wd_b B k).1
      have hA := fun w' => add64 _ _ _ ha hb hcr.1 hcr.2 w'
      clear hcr ha hb
      generalize wd A k = x at *
      generalize wd B k = y at *
      generalize hcc : cr 64 A B k = c at *
      go_wp2
      go_region_with (simp only [hA])
      all_goals (go_wp2; exact ⟨⟨k + 1, by omega, by go_num, by rw [HC.out], HM.out⟩, by simp [intOf]; omega⟩)
    · obtain rfl : k = 6 := by omega
      obtain ⟨b1, r0, r1, r2⟩ := hm
      have q0 := sm_row (N := A + B) (r0.congr (fun i hi => by rw [if_pos hi]))
      have q2 := sm_row (N := 0) r2
      have hbel := below_setRow (w.heap.size + 1 + 1) (sm (A + B)) b1 (by omega)
      have hld : (loadVar 102 ⟨w.heap.size + 1 + 1, 0, none⟩).run Tryd.prog (wr.setRow (w.heap.size + 1 + 1) (sm (A + B))) = .ok (.agg (sm (A + B))) (wr.setRow (w.heap.size + 1 + 1) (sm (A + B))) :=
        run_loadVar_row _ _ 102 102 _ (0, 0) _ (setRow_heap wr (w.heap.size + 1 + 1) _ _ 102 (0, 0) q2) Tryd.underlying102 rfl sizeSum
      clear r0 r1 r2
      go_wp2_with (first
        | (refine wpList_load6 102 _ Tryd.underlying102 sizeSum rfl _ rfl w.heap.size (sm (A + B)) rfl rfl q0 ?_)
        | (refine wpList_store6 102 sizeSum rfl _ _ rfl (w.heap.size + 1 + 1) (sm (A + B)) (sm 0) rfl rfl rfl rfl hone q2 ?_))
      refine bodyPost_ret (v := .agg (sm (A + B))) ?_ rfl ⟨rfl, hbel⟩
      simp [results, Tryd.results52, asAddr, Act.put, hld]
end Ty
end Go.Proofs.YtipnlcnikpngcaaDoor
