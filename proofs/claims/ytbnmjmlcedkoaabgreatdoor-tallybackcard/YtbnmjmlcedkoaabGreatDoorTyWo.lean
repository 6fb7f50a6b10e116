import Derived.Test.YtbnmjmlcedkoaabGreatDoorTyTn
import Derived.Test.YtbnmjmlcedkoaabGreatDoorTyPutP
namespace Go.Proofs.YtbnmjmlcedkoaabGreatDoor
namespace Ty
open Go.RowKit
set_option linter.unusedVariables false
theorem six_blk (w : World) (g : Nat) (N : Int) (b : Nat) (h : b ≠ g) : (six w g N).heap[b]? = w.heap[b]? := by
  unfold six
  rw [Go.Deep.blk_setCell_other _ _ _ _ h, Go.Deep.blk_setCell_other _ _ _ _ h, Go.Deep.blk_setCell_other _ _ _ _ h, Go.Deep.blk_setCell_other _ _ _ _ h, Go.Deep.blk_setCell_other _ _ _ _ h, Go.Deep.blk_setCell_other _ _ _ _ h]
/-- What the variables of whole hold behind k rounds. -/
def WM (w wr : World) (N : Int) (k : Nat) : Prop :=
  Below w.heap.size w wr ∧ wr.rowIs w.heap.size 56 220 (fun j => .int .u8 (dgt N j)) ∧ wr.heap[w.heap.size + 1]? = some (.cells (sm 0) 25 (0, 0)) ∧ wr.rowIs (w.heap.size + 1 + 1) 25 6 (fun i => .int .u64 (wd (pre N k) i))
theorem dgs_rowIs {w : World} {b : Nat} {t : TypeId} {N : Int} (h : w.heap[b]? = some (.cells (dgs N) t (0, 0))) : w.rowIs b t 220 (fun i => .int .u8 (dgt N i)) := ⟨_, h, dgs_size N, fun i hi => dgs_get N i hi⟩
theorem wm_start (w : World) (N : Int) (n0 : 0 ≤ N) (n1 : N ≤ 2 ^ 383) : WM w (((w.alloc (.cells (dgs N) 56)).alloc (.cells #[.int .u64 0, .int .u64 0, .int .u64 0, .int .u64 0, .int .u64 0, .int .u64 0] 25)).alloc (.cells #[.int .u64 0, .int .u64 0, .int .u64 0, .int .u64 0, .int .u64 0, .int .u64 0] 25)) N 0 := by
  rw [zeros_sm]
  obtain ⟨h1, h2, h3⟩ := heap_three w (.cells (dgs N) 56) (.cells (sm 0) 25) (.cells (sm 0) 25)
  refine ⟨(((Below.refl _ _).alloc (Nat.le_refl _) _).alloc (by simp) _).alloc (by simp; omega) _, dgs_rowIs h1, h2, ?_⟩
  rw [pre_zero N n0 n1]
  exact row_sm h3
/-- A call, and the sum is laid anew. -/
theorem wm_set {w wr w9 : World} {N X : Int} {k : Nat} (h : WM w wr N k) (hb : Below wr.heap.size wr w9) :
    Below w.heap.size w (w9.setRow (w.heap.size + 1 + 1) (sm X)) ∧ (w9.setRow (w.heap.size + 1 + 1) (sm X)).rowIs w.heap.size 56 220 (fun j => .int .u8 (dgt N j)) ∧ (w9.setRow (w.heap.size + 1 + 1) (sm X)).heap[w.heap.size + 1]? = some (.cells (sm 0) 25 (0, 0)) ∧ (w9.setRow (w.heap.size + 1 + 1) (sm X)).heap[w.heap.size + 1 + 1]? = some (.cells (sm X) 25 (0, 0)) := by
  obtain ⟨b1, r0, q1, r2⟩ := h
  have l1 : w.heap.size + 1 < wr.heap.size := (Array.getElem?_eq_some_iff.1 q1).1
  refine ⟨below_setRow _ _ (below_chain b1 hb (Nat.le_refl _)) (by omega), (r0.of_block (w' := w9) (hb.block _ r0.lt)).of_block (setRow_other _ _ _ _ (by omega)), ?_, setRow_heap _ (w.heap.size + 1 + 1) _ _ 25 (0, 0) (sm_row (r2.of_block (w' := w9) (hb.block _ r2.lt)))⟩
  rw [setRow_other _ _ _ _ (by omega)]; exact (hb.block _ l1).trans q1
set_option maxRecDepth 8000 in
set_option maxHeartbeats 1600000 in
theorem whole_any (N : Int) (n0 : 0 ≤ N) (n1 : N ≤ 2 ^ 383) (w : World) :
    Calls Tryz.prog 53 #[.agg (dgs N)] w fun e w' => e = .returned (.agg (sm (N / 2 ^ 149))) ∧ Below w.heap.size w w' := by
  have h0 := wm_start w N n0 n1
  have HM0 : Hid (WM w (((w.alloc (.cells (dgs N) 56)).alloc (.cells #[.int .u64 0, .int .u64 0, .int .u64 0, .int .u64 0, .int .u64 0, .int .u64 0] 25)).alloc (.cells #[.int .u64 0, .int .u64 0, .int .u64 0, .int .u64 0, .int .u64 0, .int .u64 0] 25)) N 0) := h0
  clear h0
  generalize hdd : dgs N = ds at *
  go_enter Tryz.func53, Tryz.ntmps53
  go_wp2_with (fail)
  go_loopw [5, 4] (fun i _ wr => ∃ k : Nat, k ≤ 71 ∧ i = .int .i64 k ∧ WM w wr N k) (fun i _ _ => 71 - (intOf i).toNat)
  case atStart => exact ⟨0, by omega, rfl, HM0.out⟩
  case round =>
    clear HM0 hdd
    obtain ⟨k, hk, rfl, hm⟩ := hrel
    have HM : Hid (WM w wr N k) := hm
    clear hm
    by_cases hlt : k < 71
    · have q2 := sm_row HM.out.2.2.2
      have HP : Hid (pre N (k + 1) = pre N k * 10 + dA N (70 - k)) := pre_step N k hlt
      have HS : Hid (dgt N k = 48 + dA N (70 - k)) := by show _ = _; unfold dgt; rw [if_pos hlt]
      have hdb := dA_b N (70 - k)
      generalize hD : dA N (70 - k) = D at *
      generalize hX : pre N k = X at *
      have HC : Hid (∀ w, Calls Tryz.prog 39 #[.agg (sm X), .int .u64 10] w fun e w' => e = .returned (.tuple #[.agg (sm (X * 10)), .int .u64 (cm X 10 6)]) ∧ Below w.heap.size w w') := fun w => scaled_any X 10 (by omega) (by omega) w
      go_wp2_with (refine wpList_load6 25 _ Tryz.underlying25 sizeSum rfl _ rfl (w.heap.size + 1 + 1) (sm X) rfl rfl q2 ?_)
      refine (HC.out _).mono ?_
      rintro e9 w9 ⟨rfl, hw9⟩
      have q9 := (hw9.block _ (Array.getElem?_eq_some_iff.1 q2).1).trans q2
      have hone := sm_one (X * 10)
      obtain ⟨V, hV, bV, rV, qV1, qV2⟩ : ∃ V, w9.setRow (w.heap.size + 1 + 1) (sm (X * 10)) = V ∧ Below w.heap.size w V ∧ V.rowIs w.heap.size 56 220 (fun j => .int .u8 (dgt N j)) ∧ V.heap[w.heap.size + 1]? = some (.cells (sm 0) 25 (0, 0)) ∧ V.heap[w.heap.size + 1 + 1]? = some (.cells (sm (X * 10)) 25 (0, 0)) := ⟨_, rfl, wm_set HM.out hw9⟩
      have hcd := rV.cell (show k < 220 by omega)
      have hcb : 48 ≤ dgt N k ∧ dgt N k ≤ 57 := dgt_b N k
      have g1 : IntKind.u8.wrap (dgt N k - 48) = D := by rw [IntKind.wrap_u8, HS.out]; omega
      have g2 : IntKind.u64.wrap D = D := by rw [IntKind.wrap_u64]; omega
      have l1 : w.heap.size + 1 + 1 < V.heap.size := (Array.getElem?_eq_some_iff.1 qV2).1
      obtain ⟨⟨c0, c1', c2, c3, c4, c5⟩, f0, f1, f2, f3, f4, f5⟩ := cells6 (row_sm qV2)
      have HV : Hid (Below w.heap.size w V ∧ V.rowIs w.heap.size 56 220 (fun j => .int .u8 (dgt N j)) ∧ V.heap[w.heap.size + 1]? = some (.cells (sm 0) 25 (0, 0)) ∧ V.heap[w.heap.size + 1 + 1]? = some (.cells (sm (X * 10)) 25 (0, 0))) := ⟨bV, rV, qV1, qV2⟩
      have HG : Hid (∀ w, Calls Tryz.prog 11 #[.agg (sm (X * 10)), .agg #[.int .u64 D, .int .u64 0, .int .u64 0, .int .u64 0, .int .u64 0, .int .u64 0]] w fun e w' => e = .returned (.agg (sm (X * 10 + D))) ∧ Below w.heap.size w w') := fun w => by
        rw [sm_small D hdb.1 (by omega)]; exact merge_any _ _ w
      have hsq : sm (X * 10) = #[.int .u64 (wd (X * 10) 0), .int .u64 (wd (X * 10) 1), .int .u64 (wd (X * 10) 2), .int .u64 (wd (X * 10) 3), .int .u64 (wd (X * 10) 4), .int .u64 (wd (X * 10) 5)] := rfl
      rw [hsq] at HG
      clear hsq HC hw9 HM bV rV qV1 HS hD hX
      generalize hY : X * 10 + D = Y at *
      generalize dgt N k = cc at hcd g1 hcb
      go_wp2_with (refine wpList_store6 25 sizeSum rfl _ _ rfl (w.heap.size + 1 + 1) (sm (X * 10)) (sm X) rfl rfl rfl rfl hone q9 ?_; rw [hV])
      clear hV q9 q2 qV2 hone hY
      go_region_with ((go_at_call 11; refine (HG.out _).mono ?_; rintro e8 w8 ⟨he8, hb8⟩; have he8' : e8 = .returned (.agg #[.int .u64 (wd Y 0), .int .u64 (wd Y 1), .int .u64 (wd Y 2), .int .u64 (wd Y 3), .int .u64 (wd Y 4), .int .u64 (wd Y 5)]) := he8; subst he8'; have k0 := (hb8.cell (p := ⟨w.heap.size + 1 + 1, 0, none⟩) l1).trans c0; have k1 := (hb8.cell (p := ⟨w.heap.size + 1 + 1, 1, none⟩) l1).trans c1'; have k2 := (hb8.cell (p := ⟨w.heap.size + 1 + 1, 2, none⟩) l1).trans c2; have k3 := (hb8.cell (p := ⟨w.heap.size + 1 + 1, 3, none⟩) l1).trans c3; have k4 := (hb8.cell (p := ⟨w.heap.size + 1 + 1, 4, none⟩) l1).trans c4; have k5 := (hb8.cell (p := ⟨w.heap.size + 1 + 1, 5, none⟩) l1).trans c5; have j0 := (hb8.frozen (p := ⟨w.heap.size + 1 + 1, 0, none⟩) l1).trans f0; have j1 := (hb8.frozen (p := ⟨w.heap.size + 1 + 1, 1, none⟩) l1).trans f1; have j2 := (hb8.frozen (p := ⟨w.heap.size + 1 + 1, 2, none⟩) l1).trans f2; have j3 := (hb8.frozen (p := ⟨w.heap.size + 1 + 1, 3, none⟩) l1).trans f3; have j4 := (hb8.frozen (p := ⟨w.heap.size + 1 + 1, 4, none⟩) l1).trans f4; have j5 := (hb8.frozen (p := ⟨w.heap.size + 1 + 1, 5, none⟩) l1).trans f5; clear he8 c0 c1' c2 c3 c4 c5 f0 f1 f2 f3 f4 f5))
      all_goals
        obtain ⟨wa, hwa, HWA⟩ : ∃ wa, six w8 (w.heap.size + 1 + 1) Y = wa ∧ Hid (WM w wa N (k + 1)) := by
          obtain ⟨bV, rV, qV1, qV2⟩ := HV.out
          have hbb : Below V.heap.size V w8 := ((Below.refl _ _).drew).trans hb8
          have lq : w.heap.size + 1 < V.heap.size := by omega
          refine ⟨_, rfl, ⟨six_below _ (below_chain bV hbb (Nat.le_refl _)) (by omega), six_other _ (rV.of_block (hbb.block _ (by omega))) (by omega), ?_, ?_⟩⟩
          · exact (six_blk _ _ _ _ (by omega)).trans ((hbb.block _ lq).trans qV1)
          · rw [HP.out]; exact six_row _ ((row_sm qV2).of_block (hbb.block _ l1))
        have hwa' : ((((((w8.setCell ⟨w.heap.size + 1 + 1, 0, none⟩ (.int .u64 (wd Y 0))).setCell ⟨w.heap.size + 1 + 1, 1, none⟩ (.int .u64 (wd Y 1))).setCell ⟨w.heap.size + 1 + 1, 2, none⟩ (.int .u64 (wd Y 2))).setCell ⟨w.heap.size + 1 + 1, 3, none⟩ (.int .u64 (wd Y 3))).setCell ⟨w.heap.size + 1 + 1, 4, none⟩ (.int .u64 (wd Y 4))).setCell ⟨w.heap.size + 1 + 1, 5, none⟩ (.int .u64 (wd Y 5))) = wa := hwa
        rw [hwa']
        clear k0 k1 k2 k3 k4 k5 j0 j1 j2 j3 j4 j5 hb8 hwa hwa' hcd HV l1
        go_wp2
        exact ⟨⟨k + 1, by omega, by go_num, HWA.out⟩, by simp [intOf]; omega⟩
    · obtain rfl : k = 71 := by omega
      obtain ⟨b1, -, q1, r2⟩ := HM.out
      rw [pre_end N] at r2
      have q2 := sm_row r2
      clear r2 HM
      generalize hW0 : N / 2 ^ 149 = W0 at *
      have HE : Hid (N / 2 ^ 149 = W0) := hW0
      clear hW0
      have hone := sm_one W0
      have hbel := below_setRow (w.heap.size + 1) (sm W0) b1 (by omega)
      have hld : (loadVar 25 ⟨w.heap.size + 1, 0, none⟩).run Tryz.prog (wr.setRow (w.heap.size + 1) (sm W0)) = .ok (.agg (sm W0)) (wr.setRow (w.heap.size + 1) (sm W0)) :=
        run_loadVar_row _ _ 25 25 _ (0, 0) _ (setRow_heap wr (w.heap.size + 1) _ _ 25 (0, 0) q1) Tryz.underlying25 rfl sizeSum
      go_wp2_with (first
        | (refine wpList_load6 25 _ Tryz.underlying25 sizeSum rfl _ rfl (w.heap.size + 1 + 1) (sm W0) rfl rfl q2 ?_)
        | (refine wpList_store6 25 sizeSum rfl _ _ rfl (w.heap.size + 1) (sm W0) (sm 0) rfl rfl rfl rfl hone q1 ?_))
      refine bodyPost_ret (v := .agg (sm W0)) ?_ rfl ⟨congrArg (fun x => Ending.returned (.agg (sm x))) HE.out.symm, hbel⟩
      simp [results, Tryz.results53, asAddr, Act.put, hld]
end Ty
end Go.Proofs.YtbnmjmlcedkoaabGreatDoor
