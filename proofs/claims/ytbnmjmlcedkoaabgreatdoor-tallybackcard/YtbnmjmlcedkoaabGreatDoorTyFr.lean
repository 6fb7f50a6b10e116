import Derived.Test.YtbnmjmlcedkoaabGreatDoorTyWo
namespace Go.Proofs.YtbnmjmlcedkoaabGreatDoor
namespace Ty
open Go.RowKit
set_option linter.unusedVariables false
/-- What the variables of fraction hold behind k rounds. -/
def FM (w wr : World) (N : Int) (k : Nat) : Prop :=
  Below w.heap.size w wr ∧ wr.rowIs w.heap.size 56 220 (fun j => .int .u8 (dgt N j)) ∧ wr.rowIs (w.heap.size + 1) 25 6 (fun i => .int .u64 (wd (fr N (149 - k)) i))
theorem fmr_start (w : World) (N : Int) : FM w ((w.alloc (.cells (dgs N) 56)).alloc (.cells #[.int .u64 0, .int .u64 0, .int .u64 0, .int .u64 0, .int .u64 0, .int .u64 0] 25)) N 0 := by
  rw [zeros_sm]
  obtain ⟨h1, h2⟩ := heap_two w (.cells (dgs N) 56) (.cells (sm 0) 25)
  refine ⟨((Below.refl _ _).alloc (Nat.le_refl _) _).alloc (by simp) _, dgs_rowIs h1, ?_⟩
  rw [show 149 - 0 = 149 from rfl, fr_end N]
  exact row_sm h2
theorem fmr_step {w V wC : World} {N : Int} {k : Nat} (hV : Below w.heap.size w V ∧ V.rowIs w.heap.size 56 220 (fun j => .int .u8 (dgt N j)) ∧ ∃ X, V.rowIs (w.heap.size + 1) 25 6 (fun i => .int .u64 (wd X i))) (hb : Below V.heap.size V wC) : FM w (six wC (w.heap.size + 1) (fr N (149 - (k + 1)))) N (k + 1) := by
  obtain ⟨bV, rV, X, qV⟩ := hV
  exact ⟨six_below _ (below_chain bV hb (Nat.le_refl _)) (by omega), six_other _ (rV.of_block (hb.block _ rV.lt)) (by omega), six_row _ (qV.of_block (hb.block _ qV.lt))⟩
set_option maxRecDepth 8000 in
set_option maxHeartbeats 1600000 in
theorem fraction_any (N : Int) (w : World) :
    Calls Tryz.prog 54 #[.agg (dgs N)] w fun e w' => e = .returned (.tuple #[.agg (sm (N % 2 ^ 149)), .bool true]) ∧ Below w.heap.size w w' := by
  have h0 := fmr_start w N
  have HM0 : Hid (FM w ((w.alloc (.cells (dgs N) 56)).alloc (.cells #[.int .u64 0, .int .u64 0, .int .u64 0, .int .u64 0, .int .u64 0, .int .u64 0] 25)) N 0) := h0
  clear h0
  generalize hdd : dgs N = ds at *
  go_enter Tryz.func54, Tryz.ntmps54
  go_wp2_with (fail)
  go_loopw [7, 4, 5, 6] (fun i _ _ _ wr => ∃ k : Nat, k ≤ 149 ∧ i = .int .i64 k ∧ FM w wr N k) (fun i _ _ _ _ => 149 - (intOf i).toNat)
  case atStart => exact ⟨0, by omega, rfl, HM0.out⟩
  case round =>
    clear HM0 hdd
    obtain ⟨k, hk, rfl, hm⟩ := hrel
    have HM : Hid (FM w wr N k) := hm
    clear hm
    by_cases hlt : k < 149
    · obtain ⟨t, ht⟩ : ∃ t : Nat, t = 219 - k := ⟨_, rfl⟩
      have hidx : (219 : Int) - (k : Int) = (t : Int) := by omega
      have htb : (t : Int) < 220 := by omega
      have HS : Hid (dgt N t = 48 + dB N (148 - k)) := by show _ = _; unfold dgt; rw [if_neg (by omega), show t - 71 = 148 - k by omega]
      have hdb := dB_b N (148 - k)
      have hcd := HM.out.2.1.cell (show t < 220 by omega)
      have hcb : 48 ≤ dgt N t ∧ dgt N t ≤ 57 := dgt_b N t
      have HF : Hid (fr N (149 - k) + dB N (148 - k) * 2 ^ 149 = fr N (149 - (k + 1)) * 10) := by
        have h := fr_step N (148 - k)
        rw [show 148 - k + 1 = 149 - k by omega] at h
        rw [show 149 - (k + 1) = 148 - k by omega]; exact h
      have HB : Hid (0 ≤ fr N (149 - (k + 1)) ∧ fr N (149 - (k + 1)) < 2 ^ 149) := fr_b N _
      have g1 : IntKind.u8.wrap (dgt N t - 48) = dB N (148 - k) := by rw [IntKind.wrap_u8, HS.out]; omega
      have g2 : IntKind.u64.wrap (dB N (148 - k)) = dB N (148 - k) := by rw [IntKind.wrap_u64]; omega
      generalize hD : dB N (148 - k) = D at *
      generalize hX : fr N (149 - k) = X at *
      generalize hZ : fr N (149 - (k + 1)) = Z at *
      have hsz : w.heap.size + 1 < wr.heap.size := HM.out.2.2.lt
      have hal := heap_alloc_last wr (.cells #[.int .u64 0, .int .u64 0, .int .u64 0, .int .u64 0, .int .u64 0, .int .u64 0] 25)
      have hone := sm_one D
      obtain ⟨V, hV, bV, rV, qV, q5, lV⟩ : ∃ V, (wr.alloc (.cells #[.int .u64 0, .int .u64 0, .int .u64 0, .int .u64 0, .int .u64 0, .int .u64 0] 25)).setRow wr.heap.size (sm D) = V ∧ Below w.heap.size w V ∧ V.rowIs w.heap.size 56 220 (fun j => .int .u8 (dgt N j)) ∧ V.rowIs (w.heap.size + 1) 25 6 (fun i => .int .u64 (wd X i)) ∧ V.heap[wr.heap.size]? = some (.cells (sm D) 25 (0, 0)) ∧ V.heap.size = wr.heap.size + 1 := by
        obtain ⟨b1, r0, r1⟩ := HM.out
        rw [hX] at r1
        refine ⟨_, rfl, below_setRow _ _ (b1.alloc b1.size _) b1.size, ?_, ?_, setRow_heap _ wr.heap.size _ _ 25 (0, 0) hal, by simp⟩
        · refine r0.of_block ?_
          rw [setRow_other _ _ _ _ (by omega), blk_alloc _ _ _ (by omega)]
        · refine r1.of_block ?_
          rw [setRow_other _ _ _ _ (by omega), blk_alloc _ _ _ (by omega)]
      have HV : Hid (Below w.heap.size w V ∧ V.rowIs w.heap.size 56 220 (fun j => .int .u8 (dgt N j)) ∧ ∃ X, V.rowIs (w.heap.size + 1) 25 6 (fun i => .int .u64 (wd X i))) := ⟨bV, rV, X, qV⟩
      have HST : Hid (∀ wC, Below V.heap.size V wC → FM w (six wC (w.heap.size + 1) Z) N (k + 1)) := fun wC hb => by
        rw [← hZ]; exact fmr_step HV.out hb
      obtain ⟨⟨c0, c1, c2, c3, c4, c5⟩, f0, f1, f2, f3, f4, f5⟩ := cells6 qV
      obtain ⟨⟨d0, d1, d2, d3, d4, d5⟩, -⟩ := cells6 (row_sm q5)
      have l1 : w.heap.size + 1 < V.heap.size := by omega
      obtain ⟨U, hU⟩ : ∃ U, U = D * 2 ^ 149 := ⟨_, rfl⟩
      obtain ⟨M, hM⟩ : ∃ M, M = X + U := ⟨_, rfl⟩
      have HU : Hid (∀ w, Calls Tryz.prog 45 #[.agg #[.int .u64 (wd D 0), .int .u64 (wd D 1), .int .u64 (wd D 2), .int .u64 (wd D 3), .int .u64 (wd D 4), .int .u64 (wd D 5)], .int .i64 149] w fun e w' => e = .returned (.agg (sm U)) ∧ Below w.heap.size w w') := fun w => by
        rw [hU]; exact up_any D 149 (by omega) w
      have HG : Hid (∀ w, Calls Tryz.prog 11 #[.agg #[.int .u64 (wd X 0), .int .u64 (wd X 1), .int .u64 (wd X 2), .int .u64 (wd X 3), .int .u64 (wd X 4), .int .u64 (wd X 5)], .agg #[.int .u64 (wd U 0), .int .u64 (wd U 1), .int .u64 (wd U 2), .int .u64 (wd U 3), .int .u64 (wd U 4), .int .u64 (wd U 5)]] w fun e w' => e = .returned (.agg (sm M)) ∧ Below w.heap.size w w') := fun w => by
        rw [hM]; exact merge_any X U w
      have HQ : Hid (∀ w, Calls Tryz.prog 60 #[.agg #[.int .u64 (wd M 0), .int .u64 (wd M 1), .int .u64 (wd M 2), .int .u64 (wd M 3), .int .u64 (wd M 4), .int .u64 (wd M 5)], .int .u64 10] w fun e w' => e = .returned (.tuple #[.agg (sm Z), .int .u64 0]) ∧ Below w.heap.size w w') := fun w => by
        have hMZ : M = Z * 10 := by rw [hM, hU]; exact HF.out
        have hb := HB.out
        have h384 : (2 : Int) ^ (64 * 6) = 2 ^ 149 * 2 ^ 235 := by rw [← Int.pow_add]
        have h235 : (10 : Int) ≤ 2 ^ 235 := by
          have := pow_mono 4 235 (by omega)
          omega
        have hlt : Z * 10 < 2 ^ (64 * 6) := by
          rw [h384]
          refine Int.lt_of_lt_of_le (Int.mul_lt_mul_of_pos_right hb.2 (by omega)) (Int.mul_le_mul_of_nonneg_left h235 (Int.le_of_lt (pw 149)))
        have h := parted_any (Z * 10) 10 (by omega) (by omega) (by omega) hlt w
        rw [Int.mul_ediv_cancel _ (by omega), Int.mul_emod_left] at h
        rw [hMZ]; exact h
      have hsd : #[Value.int .u64 D, .int .u64 0, .int .u64 0, .int .u64 0, .int .u64 0, .int .u64 0] = sm D := sm_small D hdb.1 (by omega)
      clear HF HB hU hM hZ HM bV rV qV q5 HS hD hX HV ht
      generalize dgt N t = cc at *
      go_wp2_with (refine wpList_store6 25 sizeSum rfl _ _ rfl wr.heap.size (sm D) _ rfl rfl rfl rfl hone hal ?_; rw [hV])
      clear hV hal hone hsd g1 g2 hcd hcb
      go_region_with ((first
        | (go_at_call 45; refine (HU.out _).mono ?_; rintro eA wA ⟨heA, hbA⟩; have heA' : eA = .returned (.agg #[.int .u64 (wd U 0), .int .u64 (wd U 1), .int .u64 (wd U 2), .int .u64 (wd U 3), .int .u64 (wd U 4), .int .u64 (wd U 5)]) := heA; subst heA'; have ka0 := (hbA.cell (p := ⟨w.heap.size + 1, 0, none⟩) l1).trans c0; have ka1 := (hbA.cell (p := ⟨w.heap.size + 1, 1, none⟩) l1).trans c1; have ka2 := (hbA.cell (p := ⟨w.heap.size + 1, 2, none⟩) l1).trans c2; have ka3 := (hbA.cell (p := ⟨w.heap.size + 1, 3, none⟩) l1).trans c3; have ka4 := (hbA.cell (p := ⟨w.heap.size + 1, 4, none⟩) l1).trans c4; have ka5 := (hbA.cell (p := ⟨w.heap.size + 1, 5, none⟩) l1).trans c5; have ja0 := (hbA.frozen (p := ⟨w.heap.size + 1, 0, none⟩) l1).trans f0; have ja1 := (hbA.frozen (p := ⟨w.heap.size + 1, 1, none⟩) l1).trans f1; have ja2 := (hbA.frozen (p := ⟨w.heap.size + 1, 2, none⟩) l1).trans f2; have ja3 := (hbA.frozen (p := ⟨w.heap.size + 1, 3, none⟩) l1).trans f3; have ja4 := (hbA.frozen (p := ⟨w.heap.size + 1, 4, none⟩) l1).trans f4; have ja5 := (hbA.frozen (p := ⟨w.heap.size + 1, 5, none⟩) l1).trans f5; have la := Nat.lt_of_lt_of_le l1 hbA.size; clear heA c0 c1 c2 c3 c4 c5 f0 f1 f2 f3 f4 f5)
        | (go_at_call 11; refine (HG.out _).mono ?_; rintro eB wB ⟨heB, hbB⟩; have heB' : eB = .returned (.agg #[.int .u64 (wd M 0), .int .u64 (wd M 1), .int .u64 (wd M 2), .int .u64 (wd M 3), .int .u64 (wd M 4), .int .u64 (wd M 5)]) := heB; subst heB'; have kb0 := (hbB.cell (p := ⟨w.heap.size + 1, 0, none⟩) la).trans ka0; have kb1 := (hbB.cell (p := ⟨w.heap.size + 1, 1, none⟩) la).trans ka1; have kb2 := (hbB.cell (p := ⟨w.heap.size + 1, 2, none⟩) la).trans ka2; have kb3 := (hbB.cell (p := ⟨w.heap.size + 1, 3, none⟩) la).trans ka3; have kb4 := (hbB.cell (p := ⟨w.heap.size + 1, 4, none⟩) la).trans ka4; have kb5 := (hbB.cell (p := ⟨w.heap.size + 1, 5, none⟩) la).trans ka5; have jb0 := (hbB.frozen (p := ⟨w.heap.size + 1, 0, none⟩) la).trans ja0; have jb1 := (hbB.frozen (p := ⟨w.heap.size + 1, 1, none⟩) la).trans ja1; have jb2 := (hbB.frozen (p := ⟨w.heap.size + 1, 2, none⟩) la).trans ja2; have jb3 := (hbB.frozen (p := ⟨w.heap.size + 1, 3, none⟩) la).trans ja3; have jb4 := (hbB.frozen (p := ⟨w.heap.size + 1, 4, none⟩) la).trans ja4; have jb5 := (hbB.frozen (p := ⟨w.heap.size + 1, 5, none⟩) la).trans ja5; have lb := Nat.lt_of_lt_of_le la hbB.size; clear heB ka0 ka1 ka2 ka3 ka4 ka5 ja0 ja1 ja2 ja3 ja4 ja5)
        | (go_at_call 60; refine (HQ.out _).mono ?_; rintro eC wC ⟨heC, hbC⟩; have heC' : eC = .returned (.tuple #[.agg #[.int .u64 (wd Z 0), .int .u64 (wd Z 1), .int .u64 (wd Z 2), .int .u64 (wd Z 3), .int .u64 (wd Z 4), .int .u64 (wd Z 5)], .int .u64 0]) := heC; subst heC'; have kc0 := (hbC.cell (p := ⟨w.heap.size + 1, 0, none⟩) lb).trans kb0; have kc1 := (hbC.cell (p := ⟨w.heap.size + 1, 1, none⟩) lb).trans kb1; have kc2 := (hbC.cell (p := ⟨w.heap.size + 1, 2, none⟩) lb).trans kb2; have kc3 := (hbC.cell (p := ⟨w.heap.size + 1, 3, none⟩) lb).trans kb3; have kc4 := (hbC.cell (p := ⟨w.heap.size + 1, 4, none⟩) lb).trans kb4; have kc5 := (hbC.cell (p := ⟨w.heap.size + 1, 5, none⟩) lb).trans kb5; have jc0 := (hbC.frozen (p := ⟨w.heap.size + 1, 0, none⟩) lb).trans jb0; have jc1 := (hbC.frozen (p := ⟨w.heap.size + 1, 1, none⟩) lb).trans jb1; have jc2 := (hbC.frozen (p := ⟨w.heap.size + 1, 2, none⟩) lb).trans jb2; have jc3 := (hbC.frozen (p := ⟨w.heap.size + 1, 3, none⟩) lb).trans jb3; have jc4 := (hbC.frozen (p := ⟨w.heap.size + 1, 4, none⟩) lb).trans jb4; have jc5 := (hbC.frozen (p := ⟨w.heap.size + 1, 5, none⟩) lb).trans jb5; have lc := Nat.lt_of_lt_of_le lb hbC.size; clear heC kb0 kb1 kb2 kb3 kb4 kb5 jb0 jb1 jb2 jb3 jb4 jb5)))
      all_goals
        obtain ⟨wa, hwa, HWA⟩ : ∃ wa, six wC (w.heap.size + 1) Z = wa ∧ Hid (FM w wa N (k + 1)) := by
          refine ⟨_, rfl, HST.out _ ?_⟩
          exact (((Below.refl _ _).drew).trans hbA |>.trans (hbB.mono hbA.size)).trans (hbC.mono (Nat.le_trans hbA.size hbB.size))
        have hwa' : ((((((wC.setCell ⟨w.heap.size + 1, 0, none⟩ (.int .u64 (wd Z 0))).setCell ⟨w.heap.size + 1, 1, none⟩ (.int .u64 (wd Z 1))).setCell ⟨w.heap.size + 1, 2, none⟩ (.int .u64 (wd Z 2))).setCell ⟨w.heap.size + 1, 3, none⟩ (.int .u64 (wd Z 3))).setCell ⟨w.heap.size + 1, 4, none⟩ (.int .u64 (wd Z 4))).setCell ⟨w.heap.size + 1, 5, none⟩ (.int .u64 (wd Z 5))) = wa := hwa
        rw [hwa']
        clear hbA hbB hbC hwa hwa' HST HU HG HQ
        go_wp2
        exact ⟨⟨k + 1, by omega, by go_num, HWA.out⟩, by simp [intOf]; omega⟩
    · obtain rfl : k = 149 := by omega
      obtain ⟨b1, -, r2⟩ := HM.out
      rw [show 149 - 149 = 0 from rfl, fr_zero N] at r2
      have q2 := sm_row r2
      clear r2 HM
      generalize hW0 : N % 2 ^ 149 = W0 at *
      have HE : Hid (N % 2 ^ 149 = W0) := hW0
      clear hW0
      have hone := sm_one W0
      have hbel := below_setRow (w.heap.size + 1) (sm W0) b1 (by omega)
      have hld : (loadVar 25 ⟨w.heap.size + 1, 0, none⟩).run Tryz.prog (wr.setRow (w.heap.size + 1) (sm W0)) = .ok (.agg (sm W0)) (wr.setRow (w.heap.size + 1) (sm W0)) :=
        run_loadVar_row _ _ 25 25 _ (0, 0) _ (setRow_heap wr (w.heap.size + 1) _ _ 25 (0, 0) q2) Tryz.underlying25 rfl sizeSum
      go_wp2_with (first
        | (refine wpList_load6 25 _ Tryz.underlying25 sizeSum rfl _ rfl (w.heap.size + 1) (sm W0) rfl rfl q2 ?_)
        | (refine wpList_store6 25 sizeSum rfl _ _ rfl (w.heap.size + 1) (sm W0) (sm W0) rfl rfl rfl rfl hone q2 ?_))
      refine bodyPost_ret (v := .tuple #[.agg (sm W0), .bool true]) ?_ rfl ⟨congrArg (fun x => Ending.returned (.tuple #[.agg (sm x), .bool true])) HE.out.symm, hbel⟩
      simp [results, Tryz.results54, asAddr, hld]
end Ty
end Go.Proofs.YtbnmjmlcedkoaabGreatDoor
