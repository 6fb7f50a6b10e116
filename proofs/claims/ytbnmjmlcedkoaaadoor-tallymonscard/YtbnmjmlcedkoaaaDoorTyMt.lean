import Derived.Test.YtbnmjmlcedkoaaaDoorTyMd
namespace Go.Proofs.YtbnmjmlcedkoaaaDoor
namespace Ty
open Go.RowKit
set_option linter.unusedVariables false
/-- The three variables: the state, the result, the sum. -/
def TMid (w wr : World) (s t : Nat → Int) : Prop :=
  Below w.heap.size w wr ∧ wr.rowIs w.heap.size 33 8 (fun i => .int .u64 (s i)) ∧ wr.rowIs (w.heap.size + 1) 33 8 (fun i => .int .u64 0) ∧ wr.rowIs (w.heap.size + 1 + 1) 27 6 (fun i => .int .u64 (t i))
theorem tm_t {w wr : World} {s t : Nat → Int} (h : TMid w wr s t) (k : Nat) (x : Int) : TMid w (wr.setCell ⟨w.heap.size + 1 + 1, k, none⟩ (.int .u64 x)) s (fun i => if i = k then x else t i) := by
  obtain ⟨b1, r0, r1, r2⟩ := h
  refine ⟨b1.setCell (by show w.heap.size ≤ w.heap.size + 1 + 1; omega) _, r0.setOther (by show w.heap.size ≠ w.heap.size + 1 + 1; omega) _, r1.setOther (by show w.heap.size + 1 ≠ w.heap.size + 1 + 1; omega) _, (r2.set k _).congr (fun i hi => ?_)⟩
  by_cases e : i = k
  · subst e; simp
  · simp only [e, if_false]
theorem tm_s {w wr : World} {s t : Nat → Int} (h : TMid w wr s t) (k : Nat) (x : Int) : TMid w (wr.setCell ⟨w.heap.size, k, none⟩ (.int .u64 x)) (fun i => if i = k then x else s i) t := by
  obtain ⟨b1, r0, r1, r2⟩ := h
  refine ⟨b1.setCell (Nat.le_refl _) _, (r0.set k _).congr (fun i hi => ?_), r1.setOther (by show w.heap.size + 1 ≠ w.heap.size; omega) _, r2.setOther (by show w.heap.size + 1 + 1 ≠ w.heap.size; omega) _⟩
  by_cases e : i = k
  · subst e; simp
  · simp only [e, if_false]
theorem tm_congr {w wr : World} {s s' t t' : Nat → Int} (h : TMid w wr s t) (hs : ∀ i, i < 8 → s i = s' i) (ht : ∀ i, i < 6 → t i = t' i) : TMid w wr s' t' :=
  ⟨h.1, h.2.1.congr (fun i hi => by rw [hs i hi]), h.2.2.1, h.2.2.2.congr (fun i hi => by rw [ht i hi])⟩
theorem tm_put {w wr v : World} {s : Nat → Int} {N M : Int} (h : TMid w wr s (wd N)) (hb : Below wr.heap.size wr v) : TMid w (v.setRow (w.heap.size + 1 + 1) (sm M)) s (wd M) := by
  obtain ⟨b1, r0, r1, r2⟩ := h
  have l0 := World.rowIs.lt r0
  have l1 := World.rowIs.lt r1
  have l2 := World.rowIs.lt r2
  have e2 := (hb.block _ l2).trans (sm_row r2)
  refine ⟨below_setRow _ _ (b1.trans (hb.mono b1.size)) (by omega), ?_, ?_, row_sm (setRow_heap v _ _ _ 27 (0, 0) e2)⟩
  · exact r0.of_block ((setRow_other v _ _ _ (by omega)).trans (hb.block _ l0))
  · exact r1.of_block ((setRow_other v _ _ _ (by omega)).trans (hb.block _ l1))
set_option maxHeartbeats 1600000 in
theorem rmon_9 (f : Nat → Int) (k : Nat) (y N : Int) (hk : k ≤ 2) (hN : ∀ i, i < 6 → f (k + i) = wd N i) (y0 : 0 ≤ y) (y1 : y < 18446744073709551616) (w : World) :
    Calls Tryd.prog 9 #[.int .i64 9, .agg (st f), .int .i64 k, .int .u64 y] w fun e w' => e = .returned (.agg (st (upS f k (pt N (y % 4294967296))))) ∧ Below w.heap.size w w' := by
  obtain ⟨v, hv, hb, hs, h0, h1⟩ := two_states w f
  have hfirst : TMid w (v.alloc (.cells #[.int .u64 0, .int .u64 0, .int .u64 0, .int .u64 0, .int .u64 0, .int .u64 0] 27)) f (fun i => if i < 0 then wd N i else 0) := by
    have hl := heap_alloc_last v (.cells (sm 0) 27)
    rw [hs] at hl
    rw [zeros_sm]
    exact ⟨hb.alloc (by omega) _, (row_st h0).of_block (blk_alloc _ _ _ (by omega)), (row_st (f := fun _ => 0) h1).of_block (blk_alloc _ _ _ (by omega)), (row_sm hl).congr (fun i hi => by simp [zero_wd])⟩
  have HF : Hid (TMid w (v.alloc (.cells #[.int .u64 0, .int .u64 0, .int .u64 0, .int .u64 0, .int .u64 0, .int .u64 0] 27)) f (fun i => if i < 0 then wd N i else 0)) := hfirst
  have c0 := (row_st h0).cell (show k < 8 by omega)
  have HP : Hid (∀ w, Calls Tryd.prog 7 #[.agg (sm N), .int .u32 (y % 4294967296)] w fun e w' => e = .returned (.agg (sm (pt N (y % 4294967296)))) ∧ Below w.heap.size w w') := fun w => rput_any N (y % 4294967296) (by omega) (by omega) w
  generalize pt N (y % 4294967296) = M at *
  have HN : Hid (∀ i, i < 6 → f (k + i) = wd N i) := hN
  have q0 : y % 4294967296 % 4294967296 = y % 4294967296 := by omega
  clear h0 h1 hfirst hN hb
  generalize hsa : st f = ca at *
  go_enter Tryd.func9, Tryd.ntmps9
  go_wp2_with (fail)
  go_loopw [11] (fun i wr => ∃ j : Nat, j ≤ 6 ∧ i = .int .i64 j ∧ TMid w wr f (fun i => if i < j then wd N i else 0)) (fun i _ => 6 - (intOf i).toNat)
  case atStart => exact ⟨0, by omega, rfl, HF.out⟩
  case round =>
    clear hv c0 HF
    obtain ⟨j, hj, rfl, hm⟩ := hrel
    by_cases hlt : j < 6
    · have HM : Hid (TMid w (wr.setCell ⟨w.heap.size + 1 + 1, j, none⟩ (.int .u64 (wd N j))) f (fun i => if i < j + 1 then wd N i else 0)) := by
        refine tm_congr (tm_t hm j _) (fun i hi => rfl) (fun i hi => ?_)
        by_cases e : i = j
        · subst e; simp
        · simp only [e, if_false]
          by_cases h : i < j
          · rw [if_pos h, if_pos (by omega)]
          · rw [if_neg h, if_neg (by omega)]
      have d0 := hm.2.1.cell (show k + j < 8 by omega)
      have d1 := hm.2.2.2.cell hlt
      have f1 := hm.2.2.2.frozen j
      rw [HN.out j hlt] at d0
      simp only [Nat.lt_irrefl, if_false] at d1
      have ek : ((k : Int) + (j : Int)).toNat = k + j := by omega
      clear hm
      go_wp2
      exact ⟨⟨j + 1, by omega, by go_num, HM.out⟩, by simp [intOf]; omega⟩
    · obtain rfl : j = 6 := by omega
      have HM : Hid (TMid w wr f (wd N)) := tm_congr hm (fun i hi => rfl) (fun i hi => by simp only [if_pos hi])
      have q2 := sm_row HM.out.2.2.2
      have q1 : wr.heap.size ≥ w.heap.size + 1 + 1 + 1 := by have := World.rowIs.lt hm.2.2.2; omega
      clear hm
      go_wp2_with (first
        | (refine wpList_load6 27 _ Tryd.underlying27 sizeRSum rfl _ rfl (w.heap.size + 1 + 1) (sm N) rfl rfl q2 ?_)
        | (go_at_call 7; refine (HP.out _).mono ?_; rintro e7 w7 ⟨rfl, hw7⟩; have q3 := (hw7.block _ (by omega)).trans q2)
        | (refine wpList_store6 27 sizeRSum rfl _ _ rfl (w.heap.size + 1 + 1) (sm M) _ rfl rfl rfl rfl (sm_one M) q3 ?_))
      have H2 : Hid (TMid w (w7.setRow (w.heap.size + 1 + 1) (sm M)) (fun i => if k ≤ i ∧ i < k + 0 then wd M (i - k) else f i) (wd M)) := tm_congr (tm_put HM.out hw7) (fun i hi => by rw [if_neg (by omega)]) (fun i hi => rfl)
      go_loopw [12] (fun i wz => ∃ j : Nat, j ≤ 6 ∧ i = .int .i64 j ∧ TMid w wz (fun i => if k ≤ i ∧ i < k + j then wd M (i - k) else f i) (wd M)) (fun i _ => 6 - (intOf i).toNat)
      case atStart => exact ⟨0, by omega, rfl, H2.out⟩
      case round =>
        clear H2 HM q2 q1 hw7 q3 HP HN
        obtain ⟨j, hj, rfl, hm⟩ := hrel
        by_cases hlt : j < 6
        · have H3 : Hid (TMid w (wr.setCell ⟨w.heap.size, k + j, none⟩ (.int .u64 (wd M j))) (fun i => if k ≤ i ∧ i < k + (j + 1) then wd M (i - k) else f i) (wd M)) := by
            refine tm_congr (tm_s hm (k + j) _) (fun i hi => ?_) (fun i hi => rfl)
            by_cases e : i = k + j
            · subst e; simp
            · simp only [e, if_false]
              by_cases h : k ≤ i ∧ i < k + j
              · rw [if_pos h, if_pos (by omega)]
              · rw [if_neg h, if_neg (by omega)]
          have d0 := hm.2.2.2.cell hlt
          have d1 := hm.2.1.cell (show k + j < 8 by omega)
          have f1 := hm.2.1.frozen (k + j)
          have ek : ((k : Int) + (j : Int)).toNat = k + j := by omega
          simp only [show ¬ (k ≤ k + j ∧ k + j < k + j) by omega, if_false] at d1
          clear hm
          go_wp2
          exact ⟨⟨j + 1, by omega, by go_num, H3.out⟩, by simp [intOf]; omega⟩
        · obtain rfl : j = 6 := by omega
          have q5 : wr.heap[w.heap.size]? = some (.cells (st (upS f k M)) 33 (0, 0)) := st_row hm.2.1
          have q6 : wr.heap[w.heap.size + 1]? = some (.cells (st (fun _ => 0)) 33 (0, 0)) := st_row (f := fun _ => 0) hm.2.2.1
          have hbel := below_setRow (w.heap.size + 1) (st (upS f k M)) hm.1 (by omega)
          have hone := st_one (upS f k M)
          have hcs : (st (upS f k M)).size = 8 := rfl
          have hld : (loadVar 33 ⟨w.heap.size + 1, 0, none⟩).run Tryd.prog (wr.setRow (w.heap.size + 1) (st (upS f k M))) = .ok (.agg (st (upS f k M))) (wr.setRow (w.heap.size + 1) (st (upS f k M))) :=
            run_loadVar_row _ _ 33 33 _ (0, 0) _ (setRow_heap _ (w.heap.size + 1) _ _ 33 (0, 0) q6) Tryd.underlying33 rfl sizeState
          clear hm
          generalize hcb : st (upS f k M) = cb at *
          go_wp2_with (first
            | (refine wpList_load8 33 _ Tryd.underlying33 sizeState rfl _ rfl w.heap.size _ rfl hcs q5 ?_)
            | (refine wpList_store8 33 sizeState rfl _ _ rfl (w.heap.size + 1) _ _ rfl rfl hcs rfl hone q6 ?_))
          refine bodyPost_ret (v := .agg cb) ?_ rfl ⟨by rw [hcb], hbel⟩
          simp [results, Tryd.results9, asAddr, Act.put, hld]
end Ty
end Go.Proofs.YtbnmjmlcedkoaaaDoor
