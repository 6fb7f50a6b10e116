import Derived.Test.YtbnmjmlcedkoaaaTySw1
namespace Go.Proofs.Ytbnmjmlcedkoaaa
namespace Ty
open Go.RowKit
set_option linter.unusedVariables false
set_option maxHeartbeats 1600000 in
theorem shift_up (A : Int) (n : Nat) (h : Sg A) (hz : ¬ A = 0) (hn : n < 384) (w : World) :
    Calls Try.prog 22 #[.agg (sm A), .int .i64 n] w fun e w' => e = .returned (.tuple #[.agg (sm (shV A n)), .int .i64 (shE A n)]) ∧ Below w.heap.size w w' := by
  have hEq := not_zero A h hz
  have hn1 : ¬ (n : Int) ≤ -384 := by omega
  have hn2 : ¬ 384 ≤ (n : Int) := by omega
  have hpos : (0 : Int) ≤ n := by omega
  obtain ⟨v, hv, hvb, hvs, hv0, hv1, hv2, hv3⟩ := four_sums w A
  obtain ⟨va, hva, -, hvas, hva0, -⟩ := two_sums w 25 A
  have hsz : (sm A).size = 6 := rfl
  have HU : Hid (∀ w, Calls Try.prog 48 #[.agg (sm A), .int .i64 n] w fun e w' => e = .returned (.agg (sm (A * 2 ^ n))) ∧ Below w.heap.size w w') := fun w => up_any A n hn w
  have HE2 : Hid (∀ w, (Op.equalIn 10000 25 (.agg (sm (sr (A * 2 ^ n) / 2 ^ n))) (.agg (sm A))).run Try.prog w = .ok (same (sr (A * 2 ^ n) / 2 ^ n) A) w) := fun w => eq_sm 25 Try.underlying25 _ _ w
  generalize sm A = ca at *
  rw [hva] at hv
  go_enter Try.func22, Try.ntmps22
  go_wp2_with (first
    | (refine wpList_load6 25 _ Try.underlying25 sizeSum rfl _ rfl w.heap.size ca rfl hsz hva0 ?_)
    | (refine wpList_load6 25 _ Try.underlying25 sizeSum rfl _ rfl w.heap.size ca rfl hsz hv0 ?_))
  refine (HU.out _).mono ?_
  rintro e1 w1 ⟨rfl, hw1⟩
  have b1 := below_chain hvb hw1 (Nat.le_refl _)
  have s1 := hw1.size
  have p0 := (hw1.block _ (by omega)).trans hv0
  have p1 := (hw1.block _ (by omega)).trans hv1
  have p2 := (hw1.block _ (by omega)).trans hv2
  have p3 := (hw1.block _ (by omega)).trans hv3
  have hone := sm_one (A * 2 ^ n)
  obtain ⟨w2, hw2, b2, s2, q0, q1, q2, q3⟩ : ∃ w2, w1.setRow (w.heap.size + 1 + 1) (sm (A * 2 ^ n)) = w2 ∧ Below w.heap.size w w2 ∧ w2.heap.size = w1.heap.size ∧ w2.heap[w.heap.size]? = some (.cells ca 25 (0, 0)) ∧ w2.heap[w.heap.size + 1]? = some (.cells (sm 0) 25 (0, 0)) ∧ w2.heap[w.heap.size + 1 + 1]? = some (.cells (sm (A * 2 ^ n)) 25 (0, 0)) ∧ w2.heap[w.heap.size + 1 + 1 + 1]? = some (.cells (sm 0) 25 (0, 0)) := by
    refine ⟨_, rfl, below_setRow _ _ b1 (by omega), by simp, ?_, ?_, setRow_heap _ (w.heap.size + 1 + 1) _ _ 25 (0, 0) p2, ?_⟩
    · rw [setRow_other _ _ _ _ (by omega)]; exact p0
    · rw [setRow_other _ _ _ _ (by omega)]; exact p1
    · rw [setRow_other _ _ _ _ (by omega)]; exact p3
  clear hw1 b1 p0 p1 p3 hv0 hv1 hv2 hv3 hvb hv hva hva0 HU
  go_wp2_with (refine wpList_store6 25 sizeSum rfl _ _ rfl (w.heap.size + 1 + 1) (sm (A * 2 ^ n)) _ rfl rfl rfl rfl hone p2 ?_; rw [hw2])
  dsimp only [Act.put]
  have HFI : Hid (∀ w, Calls Try.prog 49 #[.agg (sm (A * 2 ^ n))] w fun e w' => e = .returned (.int .u64 (fl (sr (A * 2 ^ n)))) ∧ Below w.heap.size w w') := fun w => by
    have h9 := fill_any (sr (A * 2 ^ n)) (sr_sg _) w
    rw [sm_sr] at h9; exact h9
  have HDN : Hid (∀ w, Calls Try.prog 34 #[.agg (sm (A * 2 ^ n)), .int .i64 n, .int .u64 (fl (sr (A * 2 ^ n)))] w fun e w' => e = .returned (.agg (sm (sr (A * 2 ^ n) / 2 ^ n))) ∧ Below w.heap.size w w') := fun w => by
    have h9 := down_any (sr (A * 2 ^ n)) (fl (sr (A * 2 ^ n))) n hn (fun i hi => wd_high _ (sr_sg _) i hi) w
    rw [sm_sr] at h9; exact h9
  have HC2 : Hid (C6 w2.drew (w.heap.size + 1 + 1) (A * 2 ^ n)) := (cells6 (row_sm q2)).1
  obtain ⟨⟨c0, c1, c2, c3, c4, c5⟩, f0, f1, f2, f3, f4, f5⟩ := cells6 (row_sm q3)
  have l3 : w.heap.size + 1 + 1 + 1 < w2.heap.size := by omega
  have HQ : Hid (w2.heap[w.heap.size]? = some (.cells ca 25 (0, 0)) ∧ w2.heap[w.heap.size + 1]? = some (.cells (sm 0) 25 (0, 0)) ∧ w2.heap[w.heap.size + 1 + 1]? = some (.cells (sm (A * 2 ^ n)) 25 (0, 0)) ∧ w2.heap[w.heap.size + 1 + 1 + 1]? = some (.cells (sm 0) 25 (0, 0))) := ⟨q0, q1, q2, q3⟩
  clear q0 q1 q2 q3 p2 hw2
  go_region_held (fun w' => w'.cell? ⟨w.heap.size + 1 + 1, 0, none⟩ = some (.int .u64 (wd (A * 2 ^ n) 0)) ∧ w'.cell? ⟨w.heap.size + 1 + 1, 1, none⟩ = some (.int .u64 (wd (A * 2 ^ n) 1)) ∧ w'.cell? ⟨w.heap.size + 1 + 1, 2, none⟩ = some (.int .u64 (wd (A * 2 ^ n) 2)) ∧ w'.cell? ⟨w.heap.size + 1 + 1, 3, none⟩ = some (.int .u64 (wd (A * 2 ^ n) 3)) ∧ w'.cell? ⟨w.heap.size + 1 + 1, 4, none⟩ = some (.int .u64 (wd (A * 2 ^ n) 4)) ∧ w'.cell? ⟨w.heap.size + 1 + 1, 5, none⟩ = some (.int .u64 (wd (A * 2 ^ n) 5)))
    (first | with_reducible exact HC2.out | with_reducible exact C6.on HC2.out hb5 | with_reducible exact C6.on (C6.on HC2.out hb5) hb6 | with_reducible exact C6.far (C6.far (C6.far (C6.far (C6.far (C6.far (C6.on (C6.on HC2.out hb5) hb6) _ _ (by simp)) _ _ (by simp)) _ _ (by simp)) _ _ (by simp)) _ _ (by simp)) _ _ (by simp))
    ((first
      | (go_at_call 49; refine (HFI.out _).mono ?_; rintro e5 w5 ⟨rfl, hb5⟩)
      | (go_at_call 34; refine (HDN.out _).mono ?_; rintro e6 w6 ⟨he6, hb6⟩; have he6' : e6 = .returned (.agg #[.int .u64 (wd (sr (A * 2 ^ n) / 2 ^ n) 0), .int .u64 (wd (sr (A * 2 ^ n) / 2 ^ n) 1), .int .u64 (wd (sr (A * 2 ^ n) / 2 ^ n) 2), .int .u64 (wd (sr (A * 2 ^ n) / 2 ^ n) 3), .int .u64 (wd (sr (A * 2 ^ n) / 2 ^ n) 4), .int .u64 (wd (sr (A * 2 ^ n) / 2 ^ n) 5)]) := he6; subst he6'; have k0 := (hb6.cell (p := ⟨w.heap.size + 1 + 1 + 1, 0, none⟩) (Nat.lt_of_lt_of_le l3 hb5.size)).trans ((hb5.cell (p := ⟨w.heap.size + 1 + 1 + 1, 0, none⟩) l3).trans c0); have k1 := (hb6.cell (p := ⟨w.heap.size + 1 + 1 + 1, 1, none⟩) (Nat.lt_of_lt_of_le l3 hb5.size)).trans ((hb5.cell (p := ⟨w.heap.size + 1 + 1 + 1, 1, none⟩) l3).trans c1); have k2 := (hb6.cell (p := ⟨w.heap.size + 1 + 1 + 1, 2, none⟩) (Nat.lt_of_lt_of_le l3 hb5.size)).trans ((hb5.cell (p := ⟨w.heap.size + 1 + 1 + 1, 2, none⟩) l3).trans c2); have k3 := (hb6.cell (p := ⟨w.heap.size + 1 + 1 + 1, 3, none⟩) (Nat.lt_of_lt_of_le l3 hb5.size)).trans ((hb5.cell (p := ⟨w.heap.size + 1 + 1 + 1, 3, none⟩) l3).trans c3); have k4 := (hb6.cell (p := ⟨w.heap.size + 1 + 1 + 1, 4, none⟩) (Nat.lt_of_lt_of_le l3 hb5.size)).trans ((hb5.cell (p := ⟨w.heap.size + 1 + 1 + 1, 4, none⟩) l3).trans c4); have k5 := (hb6.cell (p := ⟨w.heap.size + 1 + 1 + 1, 5, none⟩) (Nat.lt_of_lt_of_le l3 hb5.size)).trans ((hb5.cell (p := ⟨w.heap.size + 1 + 1 + 1, 5, none⟩) l3).trans c5); have j0 := (hb6.frozen (p := ⟨w.heap.size + 1 + 1 + 1, 0, none⟩) (Nat.lt_of_lt_of_le l3 hb5.size)).trans ((hb5.frozen (p := ⟨w.heap.size + 1 + 1 + 1, 0, none⟩) l3).trans f0); have j1 := (hb6.frozen (p := ⟨w.heap.size + 1 + 1 + 1, 1, none⟩) (Nat.lt_of_lt_of_le l3 hb5.size)).trans ((hb5.frozen (p := ⟨w.heap.size + 1 + 1 + 1, 1, none⟩) l3).trans f1); have j2 := (hb6.frozen (p := ⟨w.heap.size + 1 + 1 + 1, 2, none⟩) (Nat.lt_of_lt_of_le l3 hb5.size)).trans ((hb5.frozen (p := ⟨w.heap.size + 1 + 1 + 1, 2, none⟩) l3).trans f2); have j3 := (hb6.frozen (p := ⟨w.heap.size + 1 + 1 + 1, 3, none⟩) (Nat.lt_of_lt_of_le l3 hb5.size)).trans ((hb5.frozen (p := ⟨w.heap.size + 1 + 1 + 1, 3, none⟩) l3).trans f3); have j4 := (hb6.frozen (p := ⟨w.heap.size + 1 + 1 + 1, 4, none⟩) (Nat.lt_of_lt_of_le l3 hb5.size)).trans ((hb5.frozen (p := ⟨w.heap.size + 1 + 1 + 1, 4, none⟩) l3).trans f4); have j5 := (hb6.frozen (p := ⟨w.heap.size + 1 + 1 + 1, 5, none⟩) (Nat.lt_of_lt_of_le l3 hb5.size)).trans ((hb5.frozen (p := ⟨w.heap.size + 1 + 1 + 1, 5, none⟩) l3).trans f5); clear he6)))
  have hbb : Below w2.heap.size w2 w6 := below_chain (((Below.refl _ _).drew).trans hb5) hb6 (Nat.le_refl _)
  obtain ⟨q0, q1, q2, q3⟩ := HQ.out
  have s6 := hbb.size
  obtain ⟨wb, hwb, bb, r0, r1, r2, r3⟩ : ∃ wb, six w6 (w.heap.size + 1 + 1 + 1) (sr (A * 2 ^ n) / 2 ^ n) = wb ∧ Below w.heap.size w wb ∧ wb.heap[w.heap.size]? = some (.cells ca 25 (0, 0)) ∧ wb.heap[w.heap.size + 1]? = some (.cells (sm 0) 25 (0, 0)) ∧ wb.heap[w.heap.size + 1 + 1]? = some (.cells (sm (A * 2 ^ n)) 25 (0, 0)) ∧ wb.heap[w.heap.size + 1 + 1 + 1]? = some (.cells (sm (sr (A * 2 ^ n) / 2 ^ n)) 25 (0, 0)) := by
    have hsb := six_below (B := w.heap.size + 1 + 1 + 1) (g := w.heap.size + 1 + 1 + 1) (sr (A * 2 ^ n) / 2 ^ n) (Below.refl (w.heap.size + 1 + 1 + 1) w6) (Nat.le_refl _)
    refine ⟨_, rfl, six_below _ (below_chain b2 hbb (Nat.le_refl _)) (by omega), ?_, ?_, ?_, ?_⟩
    · rw [hsb.block _ (by omega), hbb.block _ (by omega)]; exact q0
    · rw [hsb.block _ (by omega), hbb.block _ (by omega)]; exact q1
    · rw [hsb.block _ (by omega), hbb.block _ (by omega)]; exact q2
    · exact sm_row (six_row _ ((row_sm q3).of_block (hbb.block _ (by omega))))
  have hwb' : ((((((w6.setCell ⟨w.heap.size + 1 + 1 + 1, 0, none⟩ (.int .u64 (wd (sr (A * 2 ^ n) / 2 ^ n) 0))).setCell ⟨w.heap.size + 1 + 1 + 1, 1, none⟩ (.int .u64 (wd (sr (A * 2 ^ n) / 2 ^ n) 1))).setCell ⟨w.heap.size + 1 + 1 + 1, 2, none⟩ (.int .u64 (wd (sr (A * 2 ^ n) / 2 ^ n) 2))).setCell ⟨w.heap.size + 1 + 1 + 1, 3, none⟩ (.int .u64 (wd (sr (A * 2 ^ n) / 2 ^ n) 3))).setCell ⟨w.heap.size + 1 + 1 + 1, 4, none⟩ (.int .u64 (wd (sr (A * 2 ^ n) / 2 ^ n) 4))).setCell ⟨w.heap.size + 1 + 1 + 1, 5, none⟩ (.int .u64 (wd (sr (A * 2 ^ n) / 2 ^ n) 5))) = wb := hwb
  simp only [hwb']
  have HB : Hid (same (sr (A * 2 ^ n) / 2 ^ n) A = true ↔ Sg (A * 2 ^ n)) := up_back A h n hn
  clear hwb hwb' k0 k1 k2 k3 k4 k5 j0 j1 j2 j3 j4 j5 hb5 hb6 q0 q1 q2 q3 HQ hbb HC2 c0 c1 c2 c3 c4 c5 f0 f1 f2 f3 f4 f5 HFI HDN
  have hEqB := HE2.out
  by_cases hs : Sg (A * 2 ^ n)
  · have HG : Hid (shV A n = A * 2 ^ n ∧ shE A n = 0) := sh_up A n hz hn hs
    rw [HB.out.2 hs] at hEqB
    have hbel := below_setRow (w.heap.size + 1) (sm (A * 2 ^ n)) bb (by omega)
    have hld : (loadVar 25 ⟨w.heap.size + 1, 0, none⟩).run Try.prog (wb.setRow (w.heap.size + 1) (sm (A * 2 ^ n))) = .ok (.agg (sm (A * 2 ^ n))) (wb.setRow (w.heap.size + 1) (sm (A * 2 ^ n))) :=
      run_loadVar_row _ _ 25 25 _ (0, 0) _ (setRow_heap wb (w.heap.size + 1) _ _ 25 (0, 0) r1) Try.underlying25 rfl sizeSum
    clear HE2 HB hs h hz
    generalize sr (A * 2 ^ n) / 2 ^ n = M at *
    generalize A * 2 ^ n = N at *
    go_wp2_with (first
      | (refine wpList_load6 25 _ Try.underlying25 sizeSum rfl _ rfl (w.heap.size + 1 + 1 + 1) (sm M) rfl rfl r3 ?_)
      | (refine wpList_load6 25 _ Try.underlying25 sizeSum rfl _ rfl (w.heap.size + 1 + 1) (sm N) rfl rfl r2 ?_)
      | (refine wpList_load6 25 _ Try.underlying25 sizeSum rfl _ rfl w.heap.size ca rfl hsz r0 ?_)
      | (refine wpList_store6 25 sizeSum rfl _ _ rfl (w.heap.size + 1) (sm N) _ rfl rfl rfl rfl hone r1 ?_))
    refine bodyPost_ret (v := .tuple #[.agg (sm N), .int .i64 0]) ?_ rfl ⟨by rw [HG.out.1, HG.out.2], hbel⟩
    simp [results, Try.results22, asAddr, hld]
  · have HG : Hid (shV A n = 0 ∧ shE A n = 21) := sh_over A n hz hn hs
    have hsF : same (sr (A * 2 ^ n) / 2 ^ n) A = false := by
      cases e : same (sr (A * 2 ^ n) / 2 ^ n) A with
      | false => rfl
      | true => exact absurd (HB.out.1 e) hs
    rw [hsF] at hEqB
    have honeZ := sm_one 0
    have hbel := below_setRow (w.heap.size + 1) (sm 0) bb (by omega)
    have hld : (loadVar 25 ⟨w.heap.size + 1, 0, none⟩).run Try.prog (wb.setRow (w.heap.size + 1) (sm 0)) = .ok (.agg (sm 0)) (wb.setRow (w.heap.size + 1) (sm 0)) :=
      run_loadVar_row _ _ 25 25 _ (0, 0) _ (setRow_heap wb (w.heap.size + 1) _ _ 25 (0, 0) r1) Try.underlying25 rfl sizeSum
    clear HE2 HB hs hsF h hz
    generalize sr (A * 2 ^ n) / 2 ^ n = M at *
    generalize A * 2 ^ n = N at *
    go_wp2_with (first
      | (refine wpList_load6 25 _ Try.underlying25 sizeSum rfl _ rfl (w.heap.size + 1 + 1 + 1) (sm M) rfl rfl r3 ?_)
      | (refine wpList_load6 25 _ Try.underlying25 sizeSum rfl _ rfl w.heap.size ca rfl hsz r0 ?_)
      | (refine wpList_store6 25 sizeSum rfl _ _ rfl (w.heap.size + 1) (sm 0) _ rfl (by rw [← zeros_sm]; rfl) rfl rfl honeZ r1 ?_))
    refine bodyPost_ret (v := .tuple #[.agg (sm 0), .int .i64 21]) ?_ rfl ⟨by rw [HG.out.1, HG.out.2], hbel⟩
    simp [results, Try.results22, asAddr, hld]
end Ty
end Go.Proofs.Ytbnmjmlcedkoaaa
