import Derived.Test.YtbnmjmlcedkoaabGreatDoorTyDh
import Derived.Test.YtbnmjmlcedkoaabGreatDoorTyGc
namespace Go.Proofs.YtbnmjmlcedkoaabGreatDoor
namespace Ty
open Go.RowKit
set_option linter.unusedVariables false
def dgs (N : Int) : Array Value := Array.ofFn (n := 220) fun i => .int .u8 (dgt N i)
theorem dgs_get (N : Int) (i : Nat) (h : i < 220) : (dgs N)[i]? = some (.int .u8 (dgt N i)) := by simp [dgs, h]
theorem dgs_size (N : Int) : (dgs N).size = 220 := by simp [dgs]
theorem dgs_one (N : Int) : (dgs N).all (·.oneCell') = true := by
  rw [Array.all_eq_true]
  intro i hi
  rw [dgs_size] at hi
  have h1 := dgs_get N i hi
  rw [Array.getElem?_eq_getElem (by rw [dgs_size]; exact hi)] at h1
  rw [Option.some.inj h1]; rfl
theorem dgs_row {w : World} {b : Nat} {t : TypeId} {N : Int} (h : w.rowIs b t 220 (fun i => .int .u8 (dgt N i))) : w.heap[b]? = some (.cells (dgs N) t (0, 0)) := by
  obtain ⟨c, hc, hs, hv⟩ := h
  rw [hc]
  have e : c = dgs N := by
    apply Array.ext_getElem?
    intro i
    by_cases hi : i < 220
    · rw [hv i hi, dgs_get N i hi]
    · rw [Array.getElem?_eq_none (by omega), Array.getElem?_eq_none (by rw [dgs_size]; omega)]
  rw [e]
/-- What stands behind the first loop's k rounds. -/
def D1 (w wr : World) (gd g1 g2 : Nat) (N : Int) (k : Nat) : Prop :=
  Below w.heap.size w wr ∧ wr.rowIs gd 56 220 (fun j => .int .u8 (if 71 - k ≤ j ∧ j < 71 then dgt N j else 0)) ∧ wr.rowIs g1 25 6 (fun i => .int .u64 (wd (N / 2 ^ 149 / 10 ^ k) i)) ∧ wr.rowIs g2 25 6 (fun i => .int .u64 (wd (N * 2 ^ 235) i)) ∧ wr.heap[w.heap.size + 1]? = some (.cells z220 56 (0, 0))
def D2 (w wr : World) (gd g2 : Nat) (N : Int) (k : Nat) : Prop :=
  Below w.heap.size w wr ∧ wr.rowIs gd 56 220 (fun j => .int .u8 (if j < 71 + k then dgt N j else 0)) ∧ wr.rowIs g2 25 6 (fun i => .int .u64 (wd (N * 2 ^ 235 * 10 ^ k) i)) ∧ wr.heap[w.heap.size + 1]? = some (.cells z220 56 (0, 0))
theorem d1_step {w wr w9 : World} {gd g1 g2 : Nat} {N : Int} {k t : Nat} (h : D1 w wr gd g1 g2 N k) (hk : k < 71) (ht : t = 70 - k) (hb : Below wr.heap.size wr w9) (l0 : w.heap.size + 1 < gd) (l1 : gd < g1) (l2 : gd < g2) (hne : g1 ≠ g2) :
    D1 w ((w9.setRow g1 (sm (N / 2 ^ 149 / 10 ^ k / 10))).setCell ⟨gd, t, none⟩ (.int .u8 (48 + N / 2 ^ 149 / 10 ^ k % 10))) gd g1 g2 N (k + 1) := by
  obtain ⟨b1, rd, r1, r2, q⟩ := h
  have lq : w.heap.size + 1 < wr.heap.size := (Array.getElem?_eq_some_iff.1 q).1
  have rd9 := rd.of_block (w' := w9) (hb.block _ rd.lt)
  have r19 := r1.of_block (w' := w9) (hb.block _ r1.lt)
  have r29 := r2.of_block (w' := w9) (hb.block _ r2.lt)
  have q9 := (hb.block _ lq).trans q
  have rdx := rd9.of_block (w' := w9.setRow g1 (sm (N / 2 ^ 149 / 10 ^ k / 10))) (setRow_other _ _ _ _ (by omega))
  have r2x := r29.of_block (w' := w9.setRow g1 (sm (N / 2 ^ 149 / 10 ^ k / 10))) (setRow_other _ _ _ _ (by omega))
  have r1x := row_sm (setRow_heap w9 g1 _ (sm (N / 2 ^ 149 / 10 ^ k / 10)) 25 (0, 0) (sm_row r19))
  have qx : (w9.setRow g1 (sm (N / 2 ^ 149 / 10 ^ k / 10))).heap[w.heap.size + 1]? = some (.cells z220 56 (0, 0)) := by rw [setRow_other _ _ _ _ (by omega)]; exact q9
  have e10 : N / 2 ^ 149 / 10 ^ k / 10 = N / 2 ^ 149 / 10 ^ (k + 1) := by
    rw [Int.ediv_ediv_of_nonneg (Int.pow_nonneg (by omega)), ← Int.pow_succ]
  refine ⟨(below_setRow g1 _ (below_chain b1 hb (Nat.le_refl _)) (by omega)).setCell (show w.heap.size ≤ (⟨gd, t, none⟩ : Addr).block from by show w.heap.size ≤ gd; omega) _, (rdx.set t _).congr (fun j hj => ?_), ?_, r2x.setOther (by show g2 ≠ gd; omega) _, ?_⟩
  · by_cases e : j = t
    · subst e
      rw [if_pos rfl, if_pos (by omega)]
      unfold dgt dA
      rw [if_pos (by omega), show 70 - j = k from by omega]
    · rw [if_neg e]
      by_cases h1 : 71 - k ≤ j ∧ j < 71
      · rw [if_pos h1, if_pos (by omega)]
      · rw [if_neg h1, if_neg (by omega)]
  · rw [← e10]; exact r1x.setOther (by show g1 ≠ gd; omega) _
  · rw [Go.Deep.blk_setCell_other _ _ _ _ (by show w.heap.size + 1 ≠ gd; omega)]; exact qx
theorem d2_step {w wr w9 : World} {gd g2 : Nat} {N : Int} {k t : Nat} (h : D2 w wr gd g2 N k) (hk : k < 149) (ht : t = 71 + k) (hb : Below wr.heap.size wr w9) (l0 : w.heap.size + 1 < gd) (l2 : gd < g2) :
    D2 w ((w9.setRow g2 (sm (N * 2 ^ 235 * 10 ^ k * 10))).setCell ⟨gd, t, none⟩ (.int .u8 (48 + cm (N * 2 ^ 235 * 10 ^ k) 10 6))) gd g2 N (k + 1) := by
  obtain ⟨b1, rd, r2, q⟩ := h
  have lq : w.heap.size + 1 < wr.heap.size := (Array.getElem?_eq_some_iff.1 q).1
  have rd9 := rd.of_block (w' := w9) (hb.block _ rd.lt)
  have r29 := r2.of_block (w' := w9) (hb.block _ r2.lt)
  have q9 := (hb.block _ lq).trans q
  have rdx := rd9.of_block (w' := w9.setRow g2 (sm (N * 2 ^ 235 * 10 ^ k * 10))) (setRow_other _ _ _ _ (by omega))
  have r2x := row_sm (setRow_heap w9 g2 _ (sm (N * 2 ^ 235 * 10 ^ k * 10)) 25 (0, 0) (sm_row r29))
  have qx : (w9.setRow g2 (sm (N * 2 ^ 235 * 10 ^ k * 10))).heap[w.heap.size + 1]? = some (.cells z220 56 (0, 0)) := by rw [setRow_other _ _ _ _ (by omega)]; exact q9
  have e10 : N * 2 ^ 235 * 10 ^ k * 10 = N * 2 ^ 235 * 10 ^ (k + 1) := by rw [Int.mul_assoc, ← Int.pow_succ]
  refine ⟨(below_setRow g2 _ (below_chain b1 hb (Nat.le_refl _)) (by omega)).setCell (show w.heap.size ≤ (⟨gd, t, none⟩ : Addr).block from by show w.heap.size ≤ gd; omega) _, (rdx.set t _).congr (fun j hj => ?_), ?_, ?_⟩
  · by_cases e : j = t
    · subst e
      rw [if_pos rfl, if_pos (by omega)]
      unfold dgt dB
      rw [if_neg (by omega), show j - 71 = k from by omega]
    · rw [if_neg e]
      by_cases h1 : j < 71 + k
      · rw [if_pos h1, if_pos (by omega)]
      · rw [if_neg h1, if_neg (by omega)]
  · rw [← e10]; exact r2x.setOther (by show g2 ≠ gd; omega) _
  · rw [Go.Deep.blk_setCell_other _ _ _ _ (by show w.heap.size + 1 ≠ gd; omega)]; exact qx
theorem wpList_load220 {w : World} {ops : Array Oper} {rest : List Oper} {o : Oper} {a : Act} {Q : Exit → Act → World → Prop} (hgd : o.guard = none) (s : Operand) (ho : o.op = .load 56 s)
    (b : Nat) (c : Array Value) (hs : a.eval s = .pointer (some ⟨b, 0, none⟩)) (hsz : c.size = 220) (hh : w.heap[b]? = some (.cells c 56 (0, 0)))
    (h : wpList Tryz.prog ops Q rest (a.put o.dst (.agg c)) w) : wpList Tryz.prog ops Q (o :: rest) a w := by
  have hl : (Instr.loadAt 56 (.pointer (some ⟨b, 0, none⟩))).run Tryz.prog w = .ok (.agg c) w := by
    simp only [Instr.loadAt, Instr.sureAddr, Sem.run_bind, Sem.run_pure, Result.andThen]
    exact run_loadVar_row _ _ 56 56 c (0, 0) _ hh Tryz.underlying56 rfl (by rw [hsz]; exact sizeDig)
  refine wpList_plain hgd fun K hK => ?_
  unfold Oper.wp execOp
  simp only [ho, hs, Sem.run_bind, Sem.run_pure, Result.andThen_ok, hl]
  exact hK _ _ h
theorem wpList_store220 {w : World} {ops : Array Oper} {rest : List Oper} {o : Oper} {a : Act} {Q : Exit → Act → World → Prop} (hgd : o.guard = none) (s x : Operand) (ho : o.op = .store 56 s x)
    (b : Nat) (c old : Array Value) (hs : a.eval s = .pointer (some ⟨b, 0, none⟩)) (hx : a.eval x = .agg c) (hsz : c.size = 220) (hoz : old.size = 220) (h1 : c.all (·.oneCell') = true) (hh : w.heap[b]? = some (.cells old 56 (0, 0)))
    (h : wpList Tryz.prog ops Q rest (a.put o.dst undef) (w.setRow b c)) : wpList Tryz.prog ops Q (o :: rest) a w := by
  have hl : (Instr.storeAt 56 (.pointer (some ⟨b, 0, none⟩)) (.agg c)).run Tryz.prog w = .ok () (w.setRow b c) := by
    simp only [Instr.storeAt, Instr.sureAddr, Sem.run_bind, Sem.run_pure, Result.andThen]
    exact run_storeVar_row _ _ 56 56 old c hh (by rw [hsz]; exact sizeDig) (by omega) h1
  refine wpList_plain hgd fun K hK => ?_
  unfold Oper.wp execOp
  simp only [ho, hs, hx, Sem.run_bind, Sem.run_pure, Result.andThen_ok, hl]
  exact hK _ _ h
set_option maxRecDepth 8000 in
set_option maxHeartbeats 1600000 in
theorem digits_any (N : Int) (n0 : 0 ≤ N) (n1 : N < 2 ^ (64 * 6)) (w : World) :
    Calls Tryz.prog 30 #[.agg (sm N)] w fun e w' => e = .returned (.agg (dgs N)) ∧ Below w.heap.size w w' := by
  obtain ⟨v, hv, hvb, hvs, hv0, hv1, hv2⟩ : ∃ v, ((w.alloc (.cells (sm N) 25)).alloc (.cells Tryz.zeroCells56 56)).alloc (.cells Tryz.zeroCells56 56) = v ∧ Below w.heap.size w v ∧ v.heap.size = w.heap.size + 1 + 1 + 1 ∧ v.heap[w.heap.size]? = some (.cells (sm N) 25 (0, 0)) ∧ v.heap[w.heap.size + 1]? = some (.cells z220 56 (0, 0)) ∧ v.rowIs (w.heap.size + 1 + 1) 56 220 (fun _ => .int .u8 0) := by
    rw [z220_eq]
    obtain ⟨h1, h2⟩ := heap_two w (.cells (sm N) 25) (.cells z220 56)
    refine ⟨_, rfl, (((Below.refl _ _).alloc (Nat.le_refl _) _).alloc (by simp) _).alloc (by simp; omega) _, by simp, (blk_alloc _ _ _ (by simp; omega)).trans h1, (blk_alloc _ _ _ (by simp)).trans h2, ?_⟩
    have h := z_row ((w.alloc (.cells (sm N) 25)).alloc (.cells z220 56))
    have e : ((w.alloc (.cells (sm N) 25)).alloc (.cells z220 56)).heap.size = w.heap.size + 1 + 1 := by simp
    rw [e] at h; exact h
  obtain ⟨A, hA⟩ : ∃ A, A = N / 2 ^ 149 := ⟨_, rfl⟩
  obtain ⟨B, hB⟩ : ∃ B, B = N * 2 ^ 235 := ⟨_, rfl⟩
  have hf : ∀ i, 6 ≤ i → wd N i = 0 := fun i hi => by
    unfold wd
    have h1 := pow_mono (64 * 6) (64 * i) (by omega)
    rw [Int.ediv_eq_zero_of_lt n0 (by omega)]; rfl
  have HA : Hid (∀ w, Calls Tryz.prog 59 #[.agg (sm N), .int .i64 149, .int .u64 0] w fun e w' => e = .returned (.agg (sm A)) ∧ Below w.heap.size w w') := fun w => by
    rw [hA]; exact down_any N 0 149 (by omega) hf w
  have HB : Hid (∀ w, Calls Tryz.prog 45 #[.agg (sm N), .int .i64 235] w fun e w' => e = .returned (.agg (sm B)) ∧ Below w.heap.size w w') := fun w => by
    rw [hB]; exact up_any N 235 (by omega) w
  have HC : Hid (C6 v w.heap.size N) := c6_row (row_sm hv0)
  have HW : Hid (v.heap.size = w.heap.size + 1 + 1 + 1) := hvs
  have hgl : w.heap.size < v.heap.size := by omega
  have HV : Hid (v.heap[w.heap.size + 1]? = some (.cells z220 56 (0, 0)) ∧ v.rowIs (w.heap.size + 1 + 1) 56 220 (fun _ => .int .u8 0)) := ⟨hv1, hv2⟩
  have HVB : Hid (Below w.heap.size w v) := hvb
  have HX : Hid (A = N / 2 ^ 149 ∧ B = N * 2 ^ 235 ∧ N < 2 ^ (64 * 6)) := ⟨hA, hB, n1⟩
  have hsq : sm N = #[.int .u64 (wd N 0), .int .u64 (wd N 1), .int .u64 (wd N 2), .int .u64 (wd N 3), .int .u64 (wd N 4), .int .u64 (wd N 5)] := rfl
  rw [hsq] at HA HB hv
  rw [hsq]
  clear hA hB hf hvs hv0 hv1 hv2 hvb hsq n1
  go_enter Tryz.func30, Tryz.ntmps30
  go_wp2
  clear hv
  go_cut [5, 6] (fun p1 p2 wx => ∃ g1 g2, p1 = .pointer (some ⟨g1, 0, none⟩) ∧ p2 = .pointer (some ⟨g2, 0, none⟩) ∧ PostR v wx g1 g2 A B)
  case first =>
    go_region_held3 (fun w' => C6 w' w.heap.size N ∧ Below v.heap.size v w') ((refine sk HC.out hgl ?_; repeat' (first | with_reducible exact bl_drew _ | with_reducible exact Below.refl _ _ | with_reducible exact b8 | with_reducible exact b9 | with_reducible refine bl_any ?_ _ | with_reducible refine bl_d ?_ | (with_reducible refine Below.setCell ?_ ?_ _) | (dsimp only; omega) | omega)))
      ((first
        | (go_at_call 59; refine (HA.out _).mono ?_; rintro e9 w9 ⟨he9, hwA⟩; have he9' : e9 = .returned (.agg #[.int .u64 (wd A 0), .int .u64 (wd A 1), .int .u64 (wd A 2), .int .u64 (wd A 3), .int .u64 (wd A 4), .int .u64 (wd A 5)]) := he9; subst he9'; clear he9; (first | (with_reducible have b9 := bl_call (bl_drew v) hwA) | (with_reducible have b9 := bl_call (bl_d (bl_new (Below.refl _ v))) hwA) | (with_reducible have b9 := bl_call (bl_d (bl_new (bl_new (Below.refl _ v)))) hwA)); have s9 := b9.size)
        | (go_at_call 45; refine (HB.out _).mono ?_; rintro e8 w8 ⟨he8, hwB⟩; have he8' : e8 = .returned (.agg #[.int .u64 (wd B 0), .int .u64 (wd B 1), .int .u64 (wd B 2), .int .u64 (wd B 3), .int .u64 (wd B 4), .int .u64 (wd B 5)]) := he8; subst he8'; clear he8; (first | (with_reducible have b8 := bl_call b9 hwB) | (with_reducible have b8 := bl_call (bl_new b9) hwB) | (with_reducible have b8 := bl_call (bl_new (bl_new b9)) hwB)); have s8 := b8.size; have s7 := hwB.size; first | ((with_reducible have F := f20R (v := v) A B hwA hwB); obtain ⟨⟨FP, ne1, ne2⟩, ⟨m0, m1, m2, m3, m4, m5, fz1⟩, ⟨n0, n1, n2, n3, n4, n5, fz2⟩⟩ := F) | ((with_reducible have F := f11R (v := v) A B hwA hwB); obtain ⟨⟨FP, ne1, ne2⟩, ⟨m0, m1, m2, m3, m4, m5, fz1⟩, ⟨n0, n1, n2, n3, n4, n5, fz2⟩⟩ := F) | ((with_reducible have F := f02R (v := v) A B hwA hwB); obtain ⟨⟨FP, ne1, ne2⟩, ⟨m0, m1, m2, m3, m4, m5, fz1⟩, ⟨n0, n1, n2, n3, n4, n5, fz2⟩⟩ := F) | ((with_reducible have F := f10R (v := v) A B hwA hwB); obtain ⟨⟨FP, ne1, ne2⟩, lt1, ⟨m0, m1, m2, m3, m4, m5, fz1⟩⟩ := F) | ((with_reducible have F := f01R (v := v) A B hwA hwB); obtain ⟨⟨FP, ne1, ne2⟩, lt1, ⟨m0, m1, m2, m3, m4, m5, fz1⟩⟩ := F) | ((with_reducible have F := f00R (v := v) A B hwA hwB); obtain ⟨FP, ne1, ne2⟩ := F))))
    all_goals (go_wp2_with fail; go_meet; obtain ⟨fp1, fp2⟩ := FP.out; simp only [six, sm] at fp1 fp2; refine ⟨_, _, rfl, rfl, ?_⟩; first | with_reducible exact fp1 | with_reducible exact fp2)
  case rest =>
    obtain ⟨g1, g2, rfl, rfl, hbx, hr1, hr2, hne, lg1, lg2⟩ := hcut
    have hsz := HW.out
    have t1 := (hbx.block _ (show w.heap.size + 1 < v.heap.size by omega)).trans HV.out.1
    have t2 := HV.out.2.of_block (w' := wc) (hbx.block _ (show w.heap.size + 1 + 1 < v.heap.size by omega))
    have hbw : Below w.heap.size w wc := below_chain HVB.out hbx (Nat.le_refl _)
    have HD1 : Hid (D1 w wc (w.heap.size + 1 + 1) g1 g2 N 0) := by
      refine ⟨hbw, t2.congr (fun j hj => by rw [if_neg (by omega)]), ?_, ?_, t1⟩
      · rw [HX.out.1] at hr1; simpa using hr1
      · rw [HX.out.2.1] at hr2; exact hr2
    have HL : Hid (w.heap.size + 1 < w.heap.size + 1 + 1 ∧ w.heap.size + 1 + 1 < g1 ∧ w.heap.size + 1 + 1 < g2 ∧ g1 ≠ g2) := ⟨by omega, by omega, by omega, hne⟩
    have HN : Hid (0 ≤ N ∧ N < 2 ^ (64 * 6)) := ⟨n0, HX.out.2.2⟩
    clear hr1 hr2 t1 t2 hbx hbw lg1 lg2 hsz HV HVB HX HW HC HA HB hgl hne n0
    go_wp2_with (fail)
    go_loopw [13, 4, 7] (fun c _ _ wr => ∃ k : Nat, k ≤ 71 ∧ c = .int .i64 k ∧ D1 w wr (w.heap.size + 1 + 1) g1 g2 N k) (fun c _ _ _ => 71 - (intOf c).toNat)
    case atStart => exact ⟨0, by omega, rfl, HD1.out⟩
    case round =>
      clear HD1
      obtain ⟨k, hk, rfl, hm⟩ := hrel
      have HM : Hid (D1 w wr (w.heap.size + 1 + 1) g1 g2 N k) := hm
      clear hm
      by_cases hlt : k < 71
      · obtain ⟨X, hX⟩ : ∃ X, X = N / 2 ^ 149 / 10 ^ k := ⟨_, rfl⟩
        obtain ⟨t, ht⟩ : ∃ t : Nat, t = 70 - k := ⟨_, rfl⟩
        have hidx : (70 : Int) - (k : Int) = (t : Int) := by omega
        have htb : (t : Int) < 220 := by omega
        have x0 : 0 ≤ X := by rw [hX]; exact Int.ediv_nonneg (Int.ediv_nonneg HN.out.1 (Int.le_of_lt (pw _))) (Int.pow_nonneg (by omega))
        have x1 : X < 2 ^ (64 * 6) := by
          rw [hX]
          refine Int.lt_of_le_of_lt (Int.le_trans (Int.ediv_le_self _ (Int.ediv_nonneg HN.out.1 (Int.le_of_lt (pw _)))) (Int.ediv_le_self _ HN.out.1)) HN.out.2
        have HP : Hid (∀ w, Calls Tryz.prog 60 #[.agg (sm X), .int .u64 10] w fun e w' => e = .returned (.tuple #[.agg (sm (X / 10)), .int .u64 (X % 10)]) ∧ Below w.heap.size w w') := fun w => parted_any X 10 (by omega) (by omega) x0 x1 w
        have HS : Hid (∀ w9, Below wr.heap.size wr w9 → D1 w ((w9.setRow g1 (sm (X / 10))).setCell ⟨w.heap.size + 1 + 1, t, none⟩ (.int .u8 (48 + X % 10))) (w.heap.size + 1 + 1) g1 g2 N (k + 1)) := fun w9 hb => by
          rw [hX]; exact d1_step HM.out hlt ht hb HL.out.1 HL.out.2.1 HL.out.2.2.1 HL.out.2.2.2
        obtain ⟨b1, rd, r1, -, -⟩ := HM.out
        rw [← hX] at r1
        have q1 := sm_row r1
        have l1 := r1.lt
        have ld := rd.lt
        have hll := HL.out.2.1
        have hr10 : 0 ≤ X % 10 ∧ X % 10 < 10 := by omega
        clear r1 HM hX x0 x1 ht b1
        go_wp2_with (refine wpList_load6 25 _ Tryz.underlying25 sizeSum rfl _ rfl g1 (sm X) rfl rfl q1 ?_)
        refine (HP.out _).mono ?_
        rintro e9 w9 ⟨rfl, hw9⟩
        have q9 := (hw9.block _ l1).trans q1
        have rd9 := rd.of_block (w' := w9.setRow g1 (sm (X / 10))) ((setRow_other _ _ _ _ (by omega)).trans (hw9.block _ ld))
        have cd := rd9.cell (show t < 220 by omega)
        have fd := rd9.frozen t
        have HF : Hid (D1 w ((w9.setRow g1 (sm (X / 10))).setCell ⟨w.heap.size + 1 + 1, t, none⟩ (.int .u8 (48 + X % 10))) (w.heap.size + 1 + 1) g1 g2 N (k + 1)) := HS.out w9 hw9
        have hone := sm_one (X / 10)
        have hcs : (sm (X / 10)).size = 6 := rfl
        clear rd rd9 q1 HP HS hw9 ld l1
        generalize X % 10 = y at *
        generalize sm (X / 10) = cx at *
        go_wp2_with (refine wpList_store6 25 sizeSum rfl _ _ rfl g1 cx (sm X) rfl rfl hcs rfl hone q9 ?_)
        exact ⟨⟨k + 1, by omega, by go_num, HF.out⟩, by simp [intOf]; omega⟩
      · obtain rfl : k = 71 := by omega
        have HD2 : Hid (D2 w wr (w.heap.size + 1 + 1) g2 N 0) := by
          obtain ⟨b1, rd, -, r2, q⟩ := HM.out
          refine ⟨b1, rd.congr (fun j hj => ?_), ?_, q⟩
          · by_cases h : j < 71
            · rw [if_pos (by omega), if_pos (by omega)]
            · rw [if_neg (by omega), if_neg (by omega)]
          · simpa using r2
        have HL2 : Hid (w.heap.size + 1 < w.heap.size + 1 + 1 ∧ w.heap.size + 1 + 1 < g2) := ⟨by omega, HL.out.2.2.1⟩
        clear HM HL hlt hk
        go_wp2_with (fail)
        rw [show ((71 : Nat) : Int) = 71 from rfl]
        go_loopw [28, 4, 8] (fun c _ _ wr => ∃ k : Nat, k ≤ 149 ∧ c = .int .i64 k ∧ D2 w wr (w.heap.size + 1 + 1) g2 N k) (fun c _ _ _ => 149 - (intOf c).toNat)
        case atStart => exact ⟨0, by omega, rfl, HD2.out⟩
        case round =>
          clear HD2
          obtain ⟨k, hk, rfl, hm⟩ := hrel
          have HM : Hid (D2 w wr (w.heap.size + 1 + 1) g2 N k) := hm
          clear hm
          by_cases hlt : k < 149
          · obtain ⟨X, hX⟩ : ∃ X, X = N * 2 ^ 235 * 10 ^ k := ⟨_, rfl⟩
            obtain ⟨t, ht⟩ : ∃ t : Nat, t = 71 + k := ⟨_, rfl⟩
            have hidx : (71 : Int) + (k : Int) = (t : Int) := by omega
            have htb : (t : Int) < 220 := by omega
            have HP : Hid (∀ w, Calls Tryz.prog 39 #[.agg (sm X), .int .u64 10] w fun e w' => e = .returned (.tuple #[.agg (sm (X * 10)), .int .u64 (cm X 10 6)]) ∧ Below w.heap.size w w') := fun w => scaled_any X 10 (by omega) (by omega) w
            have HS : Hid (∀ w9, Below wr.heap.size wr w9 → D2 w ((w9.setRow g2 (sm (X * 10))).setCell ⟨w.heap.size + 1 + 1, t, none⟩ (.int .u8 (48 + cm X 10 6))) (w.heap.size + 1 + 1) g2 N (k + 1)) := fun w9 hb => by
              rw [hX]; exact d2_step HM.out hlt ht hb HL2.out.1 HL2.out.2
            obtain ⟨b1, rd, r1, -⟩ := HM.out
            rw [← hX] at r1
            have q1 := sm_row r1
            have l1 := r1.lt
            have ld := rd.lt
            have hll := HL2.out.2
            have hr10 : 0 ≤ cm X 10 6 ∧ cm X 10 6 < 10 := by
              have h := dB_b N k
              unfold dB at h
              rw [← hX] at h; exact h
            clear r1 HM hX ht b1
            go_wp2_with (refine wpList_load6 25 _ Tryz.underlying25 sizeSum rfl _ rfl g2 (sm X) rfl rfl q1 ?_)
            refine (HP.out _).mono ?_
            rintro e9 w9 ⟨rfl, hw9⟩
            have q9 := (hw9.block _ l1).trans q1
            have rd9 := rd.of_block (w' := w9.setRow g2 (sm (X * 10))) ((setRow_other _ _ _ _ (by omega)).trans (hw9.block _ ld))
            have cd := rd9.cell (show t < 220 by omega)
            have fd := rd9.frozen t
            have HF : Hid (D2 w ((w9.setRow g2 (sm (X * 10))).setCell ⟨w.heap.size + 1 + 1, t, none⟩ (.int .u8 (48 + cm X 10 6))) (w.heap.size + 1 + 1) g2 N (k + 1)) := HS.out w9 hw9
            have hone := sm_one (X * 10)
            have hcs : (sm (X * 10)).size = 6 := rfl
            clear rd rd9 q1 HP HS hw9 ld l1
            generalize cm X 10 6 = y at *
            generalize sm (X * 10) = cx at *
            go_wp2_with (refine wpList_store6 25 sizeSum rfl _ _ rfl g2 cx (sm X) rfl rfl hcs rfl hone q9 ?_)
            exact ⟨⟨k + 1, by omega, by go_num, HF.out⟩, by simp [intOf]; omega⟩
          · obtain rfl : k = 149 := by omega
            obtain ⟨b1, rd, -, q⟩ := HM.out
            have qd := dgs_row (N := N) (rd.congr (fun j hj => by rw [if_pos (by omega)]))
            clear rd HM HL2 HN
            have hone := dgs_one N
            have hds := dgs_size N
            have hbel := below_setRow (w.heap.size + 1) (dgs N) b1 (by omega)
            have hld : (loadVar 56 ⟨w.heap.size + 1, 0, none⟩).run Tryz.prog (wr.setRow (w.heap.size + 1) (dgs N)) = .ok (.agg (dgs N)) (wr.setRow (w.heap.size + 1) (dgs N)) :=
              run_loadVar_row _ _ 56 56 _ (0, 0) _ (setRow_heap wr (w.heap.size + 1) _ _ 56 (0, 0) q) Tryz.underlying56 rfl (by rw [hds]; exact sizeDig)
            have hzs : z220.size = 220 := by simp [z220]
            generalize hdg : dgs N = ds at *
            have HE : Hid (dgs N = ds) := hdg
            clear hdg
            generalize z220 = zz at *
            go_wp2_with (first
              | (refine wpList_load220 rfl _ rfl (w.heap.size + 1 + 1) ds rfl hds qd ?_)
              | (refine wpList_store220 rfl _ _ rfl (w.heap.size + 1) ds zz rfl rfl hds hzs hone q ?_))
            refine bodyPost_ret (v := .agg ds) ?_ rfl ⟨congrArg (fun x => Ending.returned (.agg x)) HE.out.symm, hbel⟩
            simp [results, Tryz.results30, asAddr, Act.put, hld]
end Ty
end Go.Proofs.YtbnmjmlcedkoaabGreatDoor
