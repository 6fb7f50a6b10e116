import Derived.Test.YtbnmjmlcedkoaabGreatDoorTyZs
namespace Go.Proofs.YtbnmjmlcedkoaabGreatDoor
namespace Ty
open Go.RowKit
set_option linter.unusedVariables false
/-- The two variables that 'Shift' makes. -/
theorem four_sums (w : World) (A : Int) : ∃ v : World, ((((w.alloc (.cells (sm A) 25)).alloc (.cells #[.int .u64 0, .int .u64 0, .int .u64 0, .int .u64 0, .int .u64 0, .int .u64 0] 25)).alloc (.cells #[.int .u64 0, .int .u64 0, .int .u64 0, .int .u64 0, .int .u64 0, .int .u64 0] 25)).alloc (.cells #[.int .u64 0, .int .u64 0, .int .u64 0, .int .u64 0, .int .u64 0, .int .u64 0] 25)) = v ∧ Below w.heap.size w v ∧ v.heap.size = w.heap.size + 4 ∧ v.heap[w.heap.size]? = some (.cells (sm A) 25 (0, 0)) ∧ v.heap[w.heap.size + 1]? = some (.cells (sm 0) 25 (0, 0)) ∧ v.heap[w.heap.size + 1 + 1]? = some (.cells (sm 0) 25 (0, 0)) ∧ v.heap[w.heap.size + 1 + 1 + 1]? = some (.cells (sm 0) 25 (0, 0)) := by
  rw [zeros_sm]
  obtain ⟨h1, h2, h3⟩ := heap_three w (.cells (sm A) 25) (.cells (sm 0) 25) (.cells (sm 0) 25)
  have h4 := heap_alloc_last (((w.alloc (.cells (sm A) 25)).alloc (.cells (sm 0) 25)).alloc (.cells (sm 0) 25)) (.cells (sm 0) 25)
  have e : (((w.alloc (.cells (sm A) 25)).alloc (.cells (sm 0) 25)).alloc (.cells (sm 0) 25)).heap.size = w.heap.size + 1 + 1 + 1 := by simp
  rw [e] at h4
  exact ⟨_, rfl, ((((Below.refl _ _).alloc (Nat.le_refl _) _).alloc (by simp) _).alloc (by simp; omega) _).alloc (by simp; omega) _, by simp, (blk_alloc _ _ _ (by rw [e]; omega)).trans h1, (blk_alloc _ _ _ (by rw [e]; omega)).trans h2, (blk_alloc _ _ _ (by rw [e]; omega)).trans h3, h4⟩
theorem not_zero (A : Int) (h : Sg A) (hz : ¬ A = 0) : ∀ w : World, (Op.equalIn 10000 25 (.agg (sm A)) (.agg #[.int .u64 0, .int .u64 0, .int .u64 0, .int .u64 0, .int .u64 0, .int .u64 0])).run Tryz.prog w = .ok false w := by
  intro w
  have hEq := eq_sm 25 Tryz.underlying25 A 0 w
  have hs0 := same_iff A 0 h sg_zero
  have hsF : same A 0 = false := by
    cases e : same A 0 with
    | false => rfl
    | true => exact absurd (hs0.1 e) hz
  rw [← zeros_sm, hsF] at hEq
  exact hEq
set_option maxHeartbeats 1600000 in
theorem shift_zero (k : Int) (hk0 : -9223372036854775808 ≤ k) (hk1 : k ≤ 9223372036854775807) (w : World) :
    Calls Tryz.prog 55 #[.agg (sm 0), .int .i64 k] w fun e w' => e = .returned (.tuple #[.agg (sm (shV 0 k)), .int .i64 (shE 0 k)]) ∧ Below w.heap.size w w' := by
  have hEq : ∀ w' : World, (Op.equalIn 10000 25 (.agg (sm 0)) (.agg #[.int .u64 0, .int .u64 0, .int .u64 0, .int .u64 0, .int .u64 0, .int .u64 0])).run Tryz.prog w' = .ok true w' := fun w' => by
    rw [zeros_sm, eq_sm 25 Tryz.underlying25 0 0 w', same_refl]
  obtain ⟨v, hv, hvb, hvs, hv0, hv1⟩ := two_sums w 25 0
  obtain ⟨g1, g2⟩ := sh_zero k
  rw [g1, g2]
  clear g1 g2
  have hone := sm_one 0
  have hbel := below_setRow (w.heap.size + 1) (sm 0) hvb (by omega)
  have hld : (loadVar 25 ⟨w.heap.size + 1, 0, none⟩).run Tryz.prog (v.setRow (w.heap.size + 1) (sm 0)) = .ok (.agg (sm 0)) (v.setRow (w.heap.size + 1) (sm 0)) :=
    run_loadVar_row _ _ 25 25 _ (0, 0) _ (setRow_heap v (w.heap.size + 1) _ _ 25 (0, 0) hv1) Tryz.underlying25 rfl sizeSum
  have hsz : (sm 0).size = 6 := rfl
  generalize sm 0 = c0 at *
  go_enter Tryz.func55, Tryz.ntmps55
  go_wp2_with (first
    | (refine wpList_load6 25 _ Tryz.underlying25 sizeSum rfl _ rfl w.heap.size c0 rfl hsz hv0 ?_)
    | (refine wpList_store6 25 sizeSum rfl _ _ rfl (w.heap.size + 1) c0 _ rfl rfl hsz hsz hone hv1 ?_))
  refine bodyPost_ret (v := .tuple #[.agg c0, .int .i64 0]) ?_ rfl ⟨rfl, hbel⟩
  simp [results, Tryz.results55, asAddr, hld]
set_option maxHeartbeats 1600000 in
theorem shift_far (A k : Int) (h : Sg A) (hz : ¬ A = 0) (hfar : k ≤ -384 ∨ 384 ≤ k) (hk0 : -9223372036854775808 ≤ k) (hk1 : k ≤ 9223372036854775807) (w : World) :
    Calls Tryz.prog 55 #[.agg (sm A), .int .i64 k] w fun e w' => e = .returned (.tuple #[.agg (sm (shV A k)), .int .i64 (shE A k)]) ∧ Below w.heap.size w w' := by
  have hEq := not_zero A h hz
  obtain ⟨g1, g2⟩ := sh_far A k hz hfar
  rw [g1, g2]
  obtain ⟨v, hv, hvb, hvs, hv0, hv1⟩ := two_sums w 25 A
  have hone := sm_one 0
  have hbel := below_setRow (w.heap.size + 1) (sm 0) hvb (by omega)
  have hld : (loadVar 25 ⟨w.heap.size + 1, 0, none⟩).run Tryz.prog (v.setRow (w.heap.size + 1) (sm 0)) = .ok (.agg (sm 0)) (v.setRow (w.heap.size + 1) (sm 0)) :=
    run_loadVar_row _ _ 25 25 _ (0, 0) _ (setRow_heap v (w.heap.size + 1) _ _ 25 (0, 0) hv1) Tryz.underlying25 rfl sizeSum
  have hsz : (sm A).size = 6 := rfl
  clear h hz g1 g2
  generalize sm A = ca at *
  rcases hfar with hf | hf
  · go_enter Tryz.func55, Tryz.ntmps55
    go_wp2_with (first
      | (refine wpList_load6 25 _ Tryz.underlying25 sizeSum rfl _ rfl w.heap.size ca rfl hsz hv0 ?_)
      | (refine wpList_store6 25 sizeSum rfl _ _ rfl (w.heap.size + 1) (sm 0) _ rfl (by rw [← zeros_sm]; rfl) rfl rfl hone hv1 ?_))
    refine bodyPost_ret (v := .tuple #[.agg (sm 0), .int .i64 21]) ?_ rfl ⟨rfl, hbel⟩
    simp [results, Tryz.results55, asAddr, hld]
  · have hf2 : ¬ k ≤ -384 := by omega
    go_enter Tryz.func55, Tryz.ntmps55
    go_wp2_with (first
      | (refine wpList_load6 25 _ Tryz.underlying25 sizeSum rfl _ rfl w.heap.size ca rfl hsz hv0 ?_)
      | (refine wpList_store6 25 sizeSum rfl _ _ rfl (w.heap.size + 1) (sm 0) _ rfl (by rw [← zeros_sm]; rfl) rfl rfl hone hv1 ?_))
    refine bodyPost_ret (v := .tuple #[.agg (sm 0), .int .i64 21]) ?_ rfl ⟨rfl, hbel⟩
    simp [results, Tryz.results55, asAddr, hld]
end Ty
end Go.Proofs.YtbnmjmlcedkoaabGreatDoor
namespace Go.Proofs.YtbnmjmlcedkoaabGreatDoor
namespace Ty
open Go.RowKit
set_option linter.unusedVariables false
set_option maxHeartbeats 1600000 in
theorem shift_up (A : Int) (n : Nat) (h : Sg A) (hz : ¬ A = 0) (hn : n < 384) (w : World) :
    Calls Tryz.prog 55 #[.agg (sm A), .int .i64 n] w fun e w' => e = .returned (.tuple #[.agg (sm (shV A n)), .int .i64 (shE A n)]) ∧ Below w.heap.size w w' := by
  have hEq := not_zero A h hz
  have hn1 : ¬ (n : Int) ≤ -384 := by omega
  have hn2 : ¬ 384 ≤ (n : Int) := by omega
  have hpos : (0 : Int) ≤ n := by omega
  obtain ⟨v, hv, hvb, hvs, hv0, hv1, hv2, hv3⟩ := four_sums w A
  obtain ⟨va, hva, -, hvas, hva0, -⟩ := two_sums w 25 A
  have hsz : (sm A).size = 6 := rfl
  have HU : Hid (∀ w, Calls Tryz.prog 45 #[.agg (sm A), .int .i64 n] w fun e w' => e = .returned (.agg (sm (A * 2 ^ n))) ∧ Below w.heap.size w w') := fun w => up_any A n hn w
  have HE2 : Hid (∀ w, (Op.equalIn 10000 25 (.agg (sm (sr (A * 2 ^ n) / 2 ^ n))) (.agg (sm A))).run Tryz.prog w = .ok (same (sr (A * 2 ^ n) / 2 ^ n) A) w) := fun w => eq_sm 25 Tryz.underlying25 _ _ w
  generalize sm A = ca at *
  rw [hva] at hv
  go_enter Tryz.func55, Tryz.ntmps55
  go_wp2_with (first
    | (refine wpList_load6 25 _ Tryz.underlying25 sizeSum rfl _ rfl w.heap.size ca rfl hsz hva0 ?_)
    | (refine wpList_load6 25 _ Tryz.underlying25 sizeSum rfl _ rfl w.heap.size ca rfl hsz hv0 ?_))
  refine (HU.out _).mono ?_
  rintro e1 w1 ⟨rfl, hw1⟩
  have b1 := below_chain hvb hw1 (Nat.le_refl _)
  have s1 := hw1.size
  have p0 := (hw1.block _ (by omega)).trans hv0
  have p1 := (hw1.block _ (by omega)).trans hv1
  have p2 := (hw1.block _ (by omega)).trans hv2
  have p3 := (hw1.block _ (by omega)).trans hv3
  have hone := sm_one (A * 2 ^ n)
  obtain ⟨w2, hw2, b2, s2, q0, q1, q2, q3⟩ : ∃ w2, w1.setRow (w.heap.size + 1 + 1) (sm (A * 2 ^ n)) = w2 ∧ Below w.heap.size w w2 ∧ w2.heap.size = w1.heap.size ∧ w2.heap[w.heap.size]? = some (.cells ca 25 (0, 0)) ∧ w2.heap[w.heap.size + 1]? = some (.cells (sm 0) 25 (0, 0)) ∧ w2.heap[w.heap.size + 1 + 1]? = some (.cells (sm (A * 2 ^ n)) 25 (0, 0)) ∧ w2.heap[w.heap.size + 1 + 1 + 1]? = some (.cells (sm 0) 25 (0, 0)) := by
    refine ⟨_, rfl, below_setRow _ _ b1 (by omega), by simp, ?_, ?_, setRow_heap _ (w.heap.size + 1 + 1) _ _ 25 (0, 0) p2, ?_⟩
    · rw [setRow_other _ _ _ _ (by omega)]; exact p0
    · rw [setRow_other _ _ _ _ (by omega)]; exact p1
    · rw [setRow_other _ _ _ _ (by omega)]; exact p3
  clear hw1 b1 p0 p1 p3 hv0 hv1 hv2 hv3 hvb hv hva hva0 HU
  go_wp2_with (refine wpList_store6 25 sizeSum rfl _ _ rfl (w.heap.size + 1 + 1) (sm (A * 2 ^ n)) _ rfl rfl rfl rfl hone p2 ?_; rw [hw2])
  dsimp only [Act.put]
  have HFI : Hid (∀ w, Calls Tryz.prog 68 #[.agg (sm (A * 2 ^ n))] w fun e w' => e = .returned (.int .u64 (fl (sr (A * 2 ^ n)))) ∧ Below w.heap.size w w') := fun w => by
    have h9 := fill_any (sr (A * 2 ^ n)) (sr_sg _) w
    rw [sm_sr] at h9; exact h9
  have HDN : Hid (∀ w, Calls Tryz.prog 59 #[.agg (sm (A * 2 ^ n)), .int .i64 n, .int .u64 (fl (sr (A * 2 ^ n)))] w fun e w' => e = .returned (.agg (sm (sr (A * 2 ^ n) / 2 ^ n))) ∧ Below w.heap.size w w') := fun w => by
    have h9 := down_any (sr (A * 2 ^ n)) (fl (sr (A * 2 ^ n))) n hn (fun i hi => wd_high _ (sr_sg _) i hi) w
    rw [sm_sr] at h9; exact h9
  have HC2 : Hid (C6 w2.drew (w.heap.size + 1 + 1) (A * 2 ^ n)) := (cells6 (row_sm q2)).1
  obtain ⟨⟨c0, c1, c2, c3, c4, c5⟩, f0, f1, f2, f3, f4, f5⟩ := cells6 (row_sm q3)
  have l3 : w.heap.size + 1 + 1 + 1 < w2.heap.size := by omega
  have HQ : Hid (w2.heap[w.heap.size]? = some (.cells ca 25 (0, 0)) ∧ w2.heap[w.heap.size + 1]? = some (.cells (sm 0) 25 (0, 0)) ∧ w2.heap[w.heap.size + 1 + 1]? = some (.cells (sm (A * 2 ^ n)) 25 (0, 0)) ∧ w2.heap[w.heap.size + 1 + 1 + 1]? = some (.cells (sm 0) 25 (0, 0))) := ⟨q0, q1, q2, q3⟩
  clear q0 q1 q2 q3 p2 hw2
  go_region_held (fun w' => w'.cell? ⟨w.heap.size + 1 + 1, 0, none⟩ = some (.int .u64 (wd (A * 2 ^ n) 0)) ∧ w'.cell? ⟨w.heap.size + 1 + 1, 1, none⟩ = some (.int .u64 (wd (A * 2 ^ n) 1)) ∧ w'.cell? ⟨w.heap.size + 1 + 1, 2, none⟩ = some (.int .u64 (wd (A * 2 ^ n) 2)) ∧ w'.cell? ⟨w.heap.size + 1 + 1, 3, none⟩ = some (.int .u64 (wd (A * 2 ^ n) 3)) ∧ w'.cell? ⟨w.heap.size + 1 + 1, 4, none⟩ = some (.int .u64 (wd (A * 2 ^ n) 4)) ∧ w'.cell? ⟨w.heap.size + 1 + 1, 5, none⟩ = some (.int .u64 (wd (A * 2 ^ n) 5)))
    (first | with_reducible exact HC2.out | with_reducible exact C6.on HC2.out hb5 | with_reducible exact C6.on (C6.on HC2.out hb5) hb6 | with_reducible exact C6.far (C6.far (C6.far (C6.far (C6.far (C6.far (C6.on (C6.on HC2.out hb5) hb6) _ _ (by simp)) _ _ (by simp)) _ _ (by simp)) _ _ (by simp)) _ _ (by simp)) _ _ (by simp))
    ((first
      | (go_at_call 68; refine (HFI.out _).mono ?_; rintro e5 w5 ⟨rfl, hb5⟩)
      | (go_at_call 59; refine (HDN.out _).mono ?_; rintro e6 w6 ⟨he6, hb6⟩; have he6' : e6 = .returned (.agg #[.int .u64 (wd (sr (A * 2 ^ n) / 2 ^ n) 0), .int .u64 (wd (sr (A * 2 ^ n) / 2 ^ n) 1), .int .u64 (wd (sr (A * 2 ^ n) / 2 ^ n) 2), .int .u64 (wd (sr (A * 2 ^ n) / 2 ^ n) 3), .int .u64 (wd (sr (A * 2 ^ n) / 2 ^ n) 4), .int .u64 (wd (sr (A * 2 ^ n) / 2 ^ n) 5)]) := he6; subst he6'; have k0 := (hb6.cell (p := ⟨w.heap.size + 1 + 1 + 1, 0, none⟩) (Nat.lt_of_lt_of_le l3 hb5.size)).trans ((hb5.cell (p := ⟨w.heap.size + 1 + 1 + 1, 0, none⟩) l3).trans c0); have k1 := (hb6.cell (p := ⟨w.heap.size + 1 + 1 + 1, 1, none⟩) (Nat.lt_of_lt_of_le l3 hb5.size)).trans ((hb5.cell (p := ⟨w.heap.size + 1 + 1 + 1, 1, none⟩) l3).trans c1); have k2 := (hb6.cell (p := ⟨w.heap.size + 1 + 1 + 1, 2, none⟩) (Nat.lt_of_lt_of_le l3 hb5.size)).trans ((hb5.cell (p := ⟨w.heap.size + 1 + 1 + 1, 2, none⟩) l3).trans c2); have k3 := (hb6.cell (p := ⟨w.heap.size + 1 + 1 + 1, 3, none⟩) (Nat.lt_of_lt_of_le l3 hb5.size)).trans ((hb5.cell (p := ⟨w.heap.size + 1 + 1 + 1, 3, none⟩) l3).trans c3); have k4 := (hb6.cell (p := ⟨w.heap.size + 1 + 1 + 1, 4, none⟩) (Nat.lt_of_lt_of_le l3 hb5.size)).trans ((hb5.cell (p := ⟨w.heap.size + 1 + 1 + 1, 4, none⟩) l3).trans c4); have k5 := (hb6.cell (p := ⟨w.heap.size + 1 + 1 + 1, 5, none⟩) (Nat.lt_of_lt_of_le l3 hb5.size)).trans ((hb5.cell (p := ⟨w.heap.size + 1 + 1 + 1, 5, none⟩) l3).trans c5); have j0 := (hb6.frozen (p := ⟨w.heap.size + 1 + 1 + 1, 0, none⟩) (Nat.lt_of_lt_of_le l3 hb5.size)).trans ((hb5.frozen (p := ⟨w.heap.size + 1 + 1 + 1, 0, none⟩) l3).trans f0); have j1 := (hb6.frozen (p := ⟨w.heap.size + 1 + 1 + 1, 1, none⟩) (Nat.lt_of_lt_of_le l3 hb5.size)).trans ((hb5.frozen (p := ⟨w.heap.size + 1 + 1 + 1, 1, none⟩) l3).trans f1); have j2 := (hb6.frozen (p := ⟨w.heap.size + 1 + 1 + 1, 2, none⟩) (Nat.lt_of_lt_of_le l3 hb5.size)).trans ((hb5.frozen (p := ⟨w.heap.size + 1 + 1 + 1, 2, none⟩) l3).trans f2); have j3 := (hb6.frozen (p := ⟨w.heap.size + 1 + 1 + 1, 3, none⟩) (Nat.lt_of_lt_of_le l3 hb5.size)).trans ((hb5.frozen (p := ⟨w.heap.size + 1 + 1 + 1, 3, none⟩) l3).trans f3); have j4 := (hb6.frozen (p := ⟨w.heap.size + 1 + 1 + 1, 4, none⟩) (Nat.lt_of_lt_of_le l3 hb5.size)).trans ((hb5.frozen (p := ⟨w.heap.size + 1 + 1 + 1, 4, none⟩) l3).trans f4); have j5 := (hb6.frozen (p := ⟨w.heap.size + 1 + 1 + 1, 5, none⟩) (Nat.lt_of_lt_of_le l3 hb5.size)).trans ((hb5.frozen (p := ⟨w.heap.size + 1 + 1 + 1, 5, none⟩) l3).trans f5); clear he6)))
  have hbb : Below w2.heap.size w2 w6 := below_chain (((Below.refl _ _).drew).trans hb5) hb6 (Nat.le_refl _)
  obtain ⟨q0, q1, q2, q3⟩ := HQ.out
  have s6 := hbb.size
  obtain ⟨wb, hwb, bb, r0, r1, r2, r3⟩ : ∃ wb, six w6 (w.heap.size + 1 + 1 + 1) (sr (A * 2 ^ n) / 2 ^ n) = wb ∧ Below w.heap.size w wb ∧ wb.heap[w.heap.size]? = some (.cells ca 25 (0, 0)) ∧ wb.heap[w.heap.size + 1]? = some (.cells (sm 0) 25 (0, 0)) ∧ wb.heap[w.heap.size + 1 + 1]? = some (.cells (sm (A * 2 ^ n)) 25 (0, 0)) ∧ wb.heap[w.heap.size + 1 + 1 + 1]? = some (.cells (sm (sr (A * 2 ^ n) / 2 ^ n)) 25 (0, 0)) := by
    have hsb := six_below (B := w.heap.size + 1 + 1 + 1) (g := w.heap.size + 1 + 1 + 1) (sr (A * 2 ^ n) / 2 ^ n) (Below.refl (w.heap.size + 1 + 1 + 1) w6) (Nat.le_refl _)
    refine ⟨_, rfl, six_below _ (below_chain b2 hbb (Nat.le_refl _)) (by omega), ?_, ?_, ?_, ?_⟩
    · rw [hsb.block _ (by omega), hbb.block _ (by omega)]; exact q0
    · rw [hsb.block _ (by omega), hbb.block _ (by omega)]; exact q1
    · rw [hsb.block _ (by omega), hbb.block _ (by omega)]; exact q2
    · exact sm_row (six_row _ ((row_sm q3).of_block (hbb.block _ (by omega))))
  have hwb' : ((((((w6.setCell ⟨w.heap.size + 1 + 1 + 1, 0, none⟩ (.int .u64 (wd (sr (A * 2 ^ n) / 2 ^ n) 0))).setCell ⟨w.heap.size + 1 + 1 + 1, 1, none⟩ (.int .u64 (wd (sr (A * 2 ^ n) / 2 ^ n) 1))).setCell ⟨w.heap.size + 1 + 1 + 1, 2, none⟩ (.int .u64 (wd (sr (A * 2 ^ n) / 2 ^ n) 2))).setCell ⟨w.heap.size + 1 + 1 + 1, 3, none⟩ (.int .u64 (wd (sr (A * 2 ^ n) / 2 ^ n) 3))).setCell ⟨w.heap.size + 1 + 1 + 1, 4, none⟩ (.int .u64 (wd (sr (A * 2 ^ n) / 2 ^ n) 4))).setCell ⟨w.heap.size + 1 + 1 + 1, 5, none⟩ (.int .u64 (wd (sr (A * 2 ^ n) / 2 ^ n) 5))) = wb := hwb
  simp only [hwb']
  have HB : Hid (same (sr (A * 2 ^ n) / 2 ^ n) A = true ↔ Sg (A * 2 ^ n)) := up_back A h n hn
  clear hwb hwb' k0 k1 k2 k3 k4 k5 j0 j1 j2 j3 j4 j5 hb5 hb6 q0 q1 q2 q3 HQ hbb HC2 c0 c1 c2 c3 c4 c5 f0 f1 f2 f3 f4 f5 HFI HDN
  have hEqB := HE2.out
  by_cases hs : Sg (A * 2 ^ n)
  · have HG : Hid (shV A n = A * 2 ^ n ∧ shE A n = 0) := sh_up A n hz hn hs
    rw [HB.out.2 hs] at hEqB
    have hbel := below_setRow (w.heap.size + 1) (sm (A * 2 ^ n)) bb (by omega)
    have hld : (loadVar 25 ⟨w.heap.size + 1, 0, none⟩).run Tryz.prog (wb.setRow (w.heap.size + 1) (sm (A * 2 ^ n))) = .ok (.agg (sm (A * 2 ^ n))) (wb.setRow (w.heap.size + 1) (sm (A * 2 ^ n))) :=
      run_loadVar_row _ _ 25 25 _ (0, 0) _ (setRow_heap wb (w.heap.size + 1) _ _ 25 (0, 0) r1) Tryz.underlying25 rfl sizeSum
    clear HE2 HB hs h hz
    generalize sr (A * 2 ^ n) / 2 ^ n = M at *
    generalize A * 2 ^ n = N at *
    go_wp2_with (first
      | (refine wpList_load6 25 _ Tryz.underlying25 sizeSum rfl _ rfl (w.heap.size + 1 + 1 + 1) (sm M) rfl rfl r3 ?_)
      | (refine wpList_load6 25 _ Tryz.underlying25 sizeSum rfl _ rfl (w.heap.size + 1 + 1) (sm N) rfl rfl r2 ?_)
      | (refine wpList_load6 25 _ Tryz.underlying25 sizeSum rfl _ rfl w.heap.size ca rfl hsz r0 ?_)
      | (refine wpList_store6 25 sizeSum rfl _ _ rfl (w.heap.size + 1) (sm N) _ rfl rfl rfl rfl hone r1 ?_))
    refine bodyPost_ret (v := .tuple #[.agg (sm N), .int .i64 0]) ?_ rfl ⟨by rw [HG.out.1, HG.out.2], hbel⟩
    simp [results, Tryz.results55, asAddr, hld]
  · have HG : Hid (shV A n = 0 ∧ shE A n = 21) := sh_over A n hz hn hs
    have hsF : same (sr (A * 2 ^ n) / 2 ^ n) A = false := by
      cases e : same (sr (A * 2 ^ n) / 2 ^ n) A with
      | false => rfl
      | true => exact absurd (HB.out.1 e) hs
    rw [hsF] at hEqB
    have honeZ := sm_one 0
    have hbel := below_setRow (w.heap.size + 1) (sm 0) bb (by omega)
    have hld : (loadVar 25 ⟨w.heap.size + 1, 0, none⟩).run Tryz.prog (wb.setRow (w.heap.size + 1) (sm 0)) = .ok (.agg (sm 0)) (wb.setRow (w.heap.size + 1) (sm 0)) :=
      run_loadVar_row _ _ 25 25 _ (0, 0) _ (setRow_heap wb (w.heap.size + 1) _ _ 25 (0, 0) r1) Tryz.underlying25 rfl sizeSum
    clear HE2 HB hs hsF h hz
    generalize sr (A * 2 ^ n) / 2 ^ n = M at *
    generalize A * 2 ^ n = N at *
    go_wp2_with (first
      | (refine wpList_load6 25 _ Tryz.underlying25 sizeSum rfl _ rfl (w.heap.size + 1 + 1 + 1) (sm M) rfl rfl r3 ?_)
      | (refine wpList_load6 25 _ Tryz.underlying25 sizeSum rfl _ rfl w.heap.size ca rfl hsz r0 ?_)
      | (refine wpList_store6 25 sizeSum rfl _ _ rfl (w.heap.size + 1) (sm 0) _ rfl (by rw [← zeros_sm]; rfl) rfl rfl honeZ r1 ?_))
    refine bodyPost_ret (v := .tuple #[.agg (sm 0), .int .i64 21]) ?_ rfl ⟨by rw [HG.out.1, HG.out.2], hbel⟩
    simp [results, Tryz.results55, asAddr, hld]
end Ty
end Go.Proofs.YtbnmjmlcedkoaabGreatDoor
namespace Go.Proofs.YtbnmjmlcedkoaabGreatDoor
namespace Ty
open Go.RowKit
set_option linter.unusedVariables false
set_option maxHeartbeats 1600000 in
theorem shift_down (A : Int) (n : Nat) (h : Sg A) (hz : ¬ A = 0) (hn : n < 384) (hn0 : 0 < n) (w : World) :
    Calls Tryz.prog 55 #[.agg (sm A), .int .i64 (-(n : Int))] w fun e w' => e = .returned (.tuple #[.agg (sm (shV A (-(n : Int)))), .int .i64 (shE A (-(n : Int)))]) ∧ Below w.heap.size w w' := by
  have hEq := not_zero A h hz
  obtain ⟨v, hv, hvb, hvs, hv0, hv1, hv2, hv3⟩ := four_sums w A
  obtain ⟨va, hva, -, hvas, hva0, -⟩ := two_sums w 25 A
  have hsz : (sm A).size = 6 := rfl
  rw [hva] at hv
  have HFI : Hid (∀ w, Calls Tryz.prog 68 #[.agg (sm A)] w fun e w' => e = .returned (.int .u64 (fl A)) ∧ Below w.heap.size w w') := fun w => fill_any A h w
  have HDN : Hid (∀ w, Calls Tryz.prog 59 #[.agg (sm A), .int .i64 n, .int .u64 (fl A)] w fun e w' => e = .returned (.agg (sm (A / 2 ^ n))) ∧ Below w.heap.size w w') := fun w => down_any A (fl A) n hn (fun i hi => wd_high _ h i hi) w
  have HU : Hid (∀ w, Calls Tryz.prog 45 #[.agg (sm (A / 2 ^ n)), .int .i64 n] w fun e w' => e = .returned (.agg (sm (A / 2 ^ n * 2 ^ n))) ∧ Below w.heap.size w w') := fun w => up_any (A / 2 ^ n) n hn w
  have HE2 : Hid (∀ w, (Op.equalIn 10000 25 (.agg (sm (A / 2 ^ n * 2 ^ n))) (.agg (sm A))).run Tryz.prog w = .ok (same (A / 2 ^ n * 2 ^ n) A) w) := fun w => eq_sm 25 Tryz.underlying25 _ _ w
  have HB : Hid (same (A / 2 ^ n * 2 ^ n) A = true ↔ A % 2 ^ n = 0) := dn_back A h n hn
  have HC2 : Hid (C6 v.drew w.heap.size A) := (cells6 (row_sm hv0)).1
  obtain ⟨⟨c0, c1, c2, c3, c4, c5⟩, f0, f1, f2, f3, f4, f5⟩ := cells6 (row_sm hv2)
  have l2 : w.heap.size + 1 + 1 < v.heap.size := by omega
  have HQ : Hid (Below w.heap.size w v ∧ v.heap[w.heap.size]? = some (.cells (sm A) 25 (0, 0)) ∧ v.heap[w.heap.size + 1]? = some (.cells (sm 0) 25 (0, 0)) ∧ v.heap[w.heap.size + 1 + 1]? = some (.cells (sm 0) 25 (0, 0)) ∧ v.heap[w.heap.size + 1 + 1 + 1]? = some (.cells (sm 0) 25 (0, 0))) := ⟨hvb, hv0, hv1, hv2, hv3⟩
  have HG1 : Hid (A % 2 ^ n = 0 → shV A (-(n : Int)) = A / 2 ^ n ∧ shE A (-(n : Int)) = 0) := fun hs => sh_down A n hz hn hn0 hs
  have HG2 : Hid (¬ A % 2 ^ n = 0 → shV A (-(n : Int)) = 0 ∧ shE A (-(n : Int)) = 21) := fun hs => sh_lost A n hz hn hn0 hs
  have hn1 : ¬ -(n : Int) ≤ -384 := by omega
  have hn2 : ¬ 384 ≤ -(n : Int) := by omega
  have hpos : ¬ (0 : Int) ≤ -(n : Int) := by omega
  have hnb : w.heap.size + 1 + 1 ≠ w.heap.size := by omega
  have hwn : IntKind.i64.wrap (n : Int) = (n : Int) := by rw [IntKind.wrap_i64]; omega
  clear hv1 hv2 hv3 hvb h hz
  go_enter Tryz.func55, Tryz.ntmps55
  go_wp2_with (refine wpList_load6 25 _ Tryz.underlying25 sizeSum rfl _ rfl w.heap.size (sm A) rfl hsz hva0 ?_)
  clear hv hva hva0 hv0
  go_region_held (fun w' => w'.cell? ⟨w.heap.size, 0, none⟩ = some (.int .u64 (wd A 0)) ∧ w'.cell? ⟨w.heap.size, 1, none⟩ = some (.int .u64 (wd A 1)) ∧ w'.cell? ⟨w.heap.size, 2, none⟩ = some (.int .u64 (wd A 2)) ∧ w'.cell? ⟨w.heap.size, 3, none⟩ = some (.int .u64 (wd A 3)) ∧ w'.cell? ⟨w.heap.size, 4, none⟩ = some (.int .u64 (wd A 4)) ∧ w'.cell? ⟨w.heap.size, 5, none⟩ = some (.int .u64 (wd A 5)))
    (first | with_reducible exact HC2.out | with_reducible exact C6.on HC2.out hb5 | with_reducible exact C6.on (C6.on HC2.out hb5) hb6 | with_reducible exact C6.far (C6.far (C6.far (C6.far (C6.far (C6.far (C6.on (C6.on HC2.out hb5) hb6) _ _ hnb) _ _ hnb) _ _ hnb) _ _ hnb) _ _ hnb) _ _ hnb)
    ((first
      | (go_at_call 68; refine (HFI.out _).mono ?_; rintro e5 w5 ⟨rfl, hb5⟩)
      | (go_at_call 59; refine (HDN.out _).mono ?_; rintro e6 w6 ⟨he6, hb6⟩; have he6' : e6 = .returned (.agg #[.int .u64 (wd (A / 2 ^ n) 0), .int .u64 (wd (A / 2 ^ n) 1), .int .u64 (wd (A / 2 ^ n) 2), .int .u64 (wd (A / 2 ^ n) 3), .int .u64 (wd (A / 2 ^ n) 4), .int .u64 (wd (A / 2 ^ n) 5)]) := he6; subst he6'; have k0 := (hb6.cell (p := ⟨w.heap.size + 1 + 1, 0, none⟩) (Nat.lt_of_lt_of_le l2 hb5.size)).trans ((hb5.cell (p := ⟨w.heap.size + 1 + 1, 0, none⟩) l2).trans c0); have k1 := (hb6.cell (p := ⟨w.heap.size + 1 + 1, 1, none⟩) (Nat.lt_of_lt_of_le l2 hb5.size)).trans ((hb5.cell (p := ⟨w.heap.size + 1 + 1, 1, none⟩) l2).trans c1); have k2 := (hb6.cell (p := ⟨w.heap.size + 1 + 1, 2, none⟩) (Nat.lt_of_lt_of_le l2 hb5.size)).trans ((hb5.cell (p := ⟨w.heap.size + 1 + 1, 2, none⟩) l2).trans c2); have k3 := (hb6.cell (p := ⟨w.heap.size + 1 + 1, 3, none⟩) (Nat.lt_of_lt_of_le l2 hb5.size)).trans ((hb5.cell (p := ⟨w.heap.size + 1 + 1, 3, none⟩) l2).trans c3); have k4 := (hb6.cell (p := ⟨w.heap.size + 1 + 1, 4, none⟩) (Nat.lt_of_lt_of_le l2 hb5.size)).trans ((hb5.cell (p := ⟨w.heap.size + 1 + 1, 4, none⟩) l2).trans c4); have k5 := (hb6.cell (p := ⟨w.heap.size + 1 + 1, 5, none⟩) (Nat.lt_of_lt_of_le l2 hb5.size)).trans ((hb5.cell (p := ⟨w.heap.size + 1 + 1, 5, none⟩) l2).trans c5); have j0 := (hb6.frozen (p := ⟨w.heap.size + 1 + 1, 0, none⟩) (Nat.lt_of_lt_of_le l2 hb5.size)).trans ((hb5.frozen (p := ⟨w.heap.size + 1 + 1, 0, none⟩) l2).trans f0); have j1 := (hb6.frozen (p := ⟨w.heap.size + 1 + 1, 1, none⟩) (Nat.lt_of_lt_of_le l2 hb5.size)).trans ((hb5.frozen (p := ⟨w.heap.size + 1 + 1, 1, none⟩) l2).trans f1); have j2 := (hb6.frozen (p := ⟨w.heap.size + 1 + 1, 2, none⟩) (Nat.lt_of_lt_of_le l2 hb5.size)).trans ((hb5.frozen (p := ⟨w.heap.size + 1 + 1, 2, none⟩) l2).trans f2); have j3 := (hb6.frozen (p := ⟨w.heap.size + 1 + 1, 3, none⟩) (Nat.lt_of_lt_of_le l2 hb5.size)).trans ((hb5.frozen (p := ⟨w.heap.size + 1 + 1, 3, none⟩) l2).trans f3); have j4 := (hb6.frozen (p := ⟨w.heap.size + 1 + 1, 4, none⟩) (Nat.lt_of_lt_of_le l2 hb5.size)).trans ((hb5.frozen (p := ⟨w.heap.size + 1 + 1, 4, none⟩) l2).trans f4); have j5 := (hb6.frozen (p := ⟨w.heap.size + 1 + 1, 5, none⟩) (Nat.lt_of_lt_of_le l2 hb5.size)).trans ((hb5.frozen (p := ⟨w.heap.size + 1 + 1, 5, none⟩) l2).trans f5); clear he6)))
  have hbb : Below v.heap.size v w6 := below_chain (((Below.refl _ _).drew).trans hb5) hb6 (Nat.le_refl _)
  obtain ⟨hvb, q0, q1, q2, q3⟩ := HQ.out
  have s6 := hbb.size
  obtain ⟨wb, hwb, bb, sb, r0, r1, r2, r3⟩ : ∃ wb, six w6 (w.heap.size + 1 + 1) (A / 2 ^ n) = wb ∧ Below w.heap.size w wb ∧ w6.heap.size ≤ wb.heap.size ∧ wb.heap[w.heap.size]? = some (.cells (sm A) 25 (0, 0)) ∧ wb.heap[w.heap.size + 1]? = some (.cells (sm 0) 25 (0, 0)) ∧ wb.heap[w.heap.size + 1 + 1]? = some (.cells (sm (A / 2 ^ n)) 25 (0, 0)) ∧ wb.heap[w.heap.size + 1 + 1 + 1]? = some (.cells (sm 0) 25 (0, 0)) := by
    have hsb := six_below (B := w.heap.size + 1 + 1) (g := w.heap.size + 1 + 1) (A / 2 ^ n) (Below.refl (w.heap.size + 1 + 1) w6) (Nat.le_refl _)
    have r3' := six_other (g := w.heap.size + 1 + 1) (A / 2 ^ n) ((row_sm q3).of_block (hbb.block _ (by omega))) (by omega)
    refine ⟨_, rfl, six_below _ (below_chain hvb hbb (Nat.le_refl _)) (by omega), hsb.size, ?_, ?_, ?_, sm_row r3'⟩
    · rw [hsb.block _ (by omega), hbb.block _ (by omega)]; exact q0
    · rw [hsb.block _ (by omega), hbb.block _ (by omega)]; exact q1
    · exact sm_row (six_row _ ((row_sm q2).of_block (hbb.block _ (by omega))))
  have hwb' : ((((((w6.setCell ⟨w.heap.size + 1 + 1, 0, none⟩ (.int .u64 (wd (A / 2 ^ n) 0))).setCell ⟨w.heap.size + 1 + 1, 1, none⟩ (.int .u64 (wd (A / 2 ^ n) 1))).setCell ⟨w.heap.size + 1 + 1, 2, none⟩ (.int .u64 (wd (A / 2 ^ n) 2))).setCell ⟨w.heap.size + 1 + 1, 3, none⟩ (.int .u64 (wd (A / 2 ^ n) 3))).setCell ⟨w.heap.size + 1 + 1, 4, none⟩ (.int .u64 (wd (A / 2 ^ n) 4))).setCell ⟨w.heap.size + 1 + 1, 5, none⟩ (.int .u64 (wd (A / 2 ^ n) 5))) = wb := hwb
  simp only [hwb']
  clear hwb hwb' k0 k1 k2 k3 k4 k5 j0 j1 j2 j3 j4 j5 hb5 hb6 q0 q1 q2 q3 HQ hbb HC2 c0 c1 c2 c3 c4 c5 f0 f1 f2 f3 f4 f5 HFI HDN hvb
  go_wp2_with (refine wpList_load6 25 _ Tryz.underlying25 sizeSum rfl _ rfl (w.heap.size + 1 + 1) (sm (A / 2 ^ n)) rfl rfl r2 ?_)
  refine (HU.out _).mono ?_
  rintro e7 w7 ⟨rfl, hw7⟩
  have b7 := below_chain bb hw7 (Nat.le_refl _)
  have s7 := hw7.size
  have p0 := (hw7.block _ (by omega)).trans r0
  have p1 := (hw7.block _ (by omega)).trans r1
  have p2 := (hw7.block _ (by omega)).trans r2
  have p3 := (hw7.block _ (by omega)).trans r3
  obtain ⟨w8, hw8, b8, t0, t1, t2, t3⟩ : ∃ w8, w7.setRow (w.heap.size + 1 + 1 + 1) (sm (A / 2 ^ n * 2 ^ n)) = w8 ∧ Below w.heap.size w w8 ∧ w8.heap[w.heap.size]? = some (.cells (sm A) 25 (0, 0)) ∧ w8.heap[w.heap.size + 1]? = some (.cells (sm 0) 25 (0, 0)) ∧ w8.heap[w.heap.size + 1 + 1]? = some (.cells (sm (A / 2 ^ n)) 25 (0, 0)) ∧ w8.heap[w.heap.size + 1 + 1 + 1]? = some (.cells (sm (A / 2 ^ n * 2 ^ n)) 25 (0, 0)) := by
    refine ⟨_, rfl, below_setRow _ _ b7 (by omega), ?_, ?_, ?_, setRow_heap _ (w.heap.size + 1 + 1 + 1) _ _ 25 (0, 0) p3⟩
    · rw [setRow_other _ _ _ _ (by omega)]; exact p0
    · rw [setRow_other _ _ _ _ (by omega)]; exact p1
    · rw [setRow_other _ _ _ _ (by omega)]; exact p2
  have honeB := sm_one (A / 2 ^ n * 2 ^ n)
  have hone := sm_one (A / 2 ^ n)
  have hEqB := HE2.out
  clear hw7 b7 p0 p1 p2 r0 r1 r2 r3 bb HU HE2
  by_cases hs : A % 2 ^ n = 0
  · have HG : Hid (shV A (-(n : Int)) = A / 2 ^ n ∧ shE A (-(n : Int)) = 0) := HG1.out hs
    rw [HB.out.2 hs] at hEqB
    have hbel := below_setRow (w.heap.size + 1) (sm (A / 2 ^ n)) b8 (by omega)
    have hld : (loadVar 25 ⟨w.heap.size + 1, 0, none⟩).run Tryz.prog (w8.setRow (w.heap.size + 1) (sm (A / 2 ^ n))) = .ok (.agg (sm (A / 2 ^ n))) (w8.setRow (w.heap.size + 1) (sm (A / 2 ^ n))) :=
      run_loadVar_row _ _ 25 25 _ (0, 0) _ (setRow_heap w8 (w.heap.size + 1) _ _ 25 (0, 0) t1) Tryz.underlying25 rfl sizeSum
    clear HB hs HG1 HG2
    generalize A / 2 ^ n * 2 ^ n = M at *
    generalize A / 2 ^ n = N at *
    go_wp2_with (first
      | (refine wpList_store6 25 sizeSum rfl _ _ rfl (w.heap.size + 1 + 1 + 1) (sm M) _ rfl rfl rfl rfl honeB p3 ?_; rw [hw8])
      | (refine wpList_load6 25 _ Tryz.underlying25 sizeSum rfl _ rfl (w.heap.size + 1 + 1 + 1) (sm M) rfl rfl t3 ?_)
      | (refine wpList_load6 25 _ Tryz.underlying25 sizeSum rfl _ rfl (w.heap.size + 1 + 1) (sm N) rfl rfl t2 ?_)
      | (refine wpList_load6 25 _ Tryz.underlying25 sizeSum rfl _ rfl w.heap.size (sm A) rfl hsz t0 ?_)
      | (refine wpList_store6 25 sizeSum rfl _ _ rfl (w.heap.size + 1) (sm N) _ rfl rfl rfl rfl hone t1 ?_))
    refine bodyPost_ret (v := .tuple #[.agg (sm N), .int .i64 0]) ?_ rfl ⟨by rw [HG.out.1, HG.out.2], hbel⟩
    simp [results, Tryz.results55, asAddr, hld]
  · have HG : Hid (shV A (-(n : Int)) = 0 ∧ shE A (-(n : Int)) = 21) := HG2.out hs
    have hsF : same (A / 2 ^ n * 2 ^ n) A = false := by
      cases e : same (A / 2 ^ n * 2 ^ n) A with
      | false => rfl
      | true => exact absurd (HB.out.1 e) hs
    rw [hsF] at hEqB
    have honeZ := sm_one 0
    have hbel := below_setRow (w.heap.size + 1) (sm 0) b8 (by omega)
    have hld : (loadVar 25 ⟨w.heap.size + 1, 0, none⟩).run Tryz.prog (w8.setRow (w.heap.size + 1) (sm 0)) = .ok (.agg (sm 0)) (w8.setRow (w.heap.size + 1) (sm 0)) :=
      run_loadVar_row _ _ 25 25 _ (0, 0) _ (setRow_heap w8 (w.heap.size + 1) _ _ 25 (0, 0) t1) Tryz.underlying25 rfl sizeSum
    clear HB hs hsF HG1 HG2
    generalize A / 2 ^ n * 2 ^ n = M at *
    generalize A / 2 ^ n = N at *
    go_wp2_with (first
      | (refine wpList_store6 25 sizeSum rfl _ _ rfl (w.heap.size + 1 + 1 + 1) (sm M) _ rfl rfl rfl rfl honeB p3 ?_; rw [hw8])
      | (refine wpList_load6 25 _ Tryz.underlying25 sizeSum rfl _ rfl (w.heap.size + 1 + 1 + 1) (sm M) rfl rfl t3 ?_)
      | (refine wpList_load6 25 _ Tryz.underlying25 sizeSum rfl _ rfl w.heap.size (sm A) rfl hsz t0 ?_)
      | (refine wpList_store6 25 sizeSum rfl _ _ rfl (w.heap.size + 1) (sm 0) _ rfl (by rw [← zeros_sm]; rfl) rfl rfl honeZ t1 ?_))
    refine bodyPost_ret (v := .tuple #[.agg (sm 0), .int .i64 21]) ?_ rfl ⟨by rw [HG.out.1, HG.out.2], hbel⟩
    simp [results, Tryz.results55, asAddr, hld]
end Ty
end Go.Proofs.YtbnmjmlcedkoaabGreatDoor
namespace Go.Proofs.YtbnmjmlcedkoaabGreatDoor
namespace Ty
open Go.RowKit
theorem shift_any (A k : Int) (h : Sg A) (hk0 : -9223372036854775808 ≤ k) (hk1 : k ≤ 9223372036854775807) (w : World) :
    Calls Tryz.prog 55 #[.agg (sm A), .int .i64 k] w fun e w' => e = .returned (.tuple #[.agg (sm (shV A k)), .int .i64 (shE A k)]) ∧ Below w.heap.size w w' := by
  by_cases hz : A = 0
  · subst hz; exact shift_zero k hk0 hk1 w
  · by_cases hfar : k ≤ -384 ∨ 384 ≤ k
    · exact shift_far A k h hz hfar hk0 hk1 w
    · by_cases hp : 0 ≤ k
      · obtain ⟨n, rfl⟩ := Int.eq_ofNat_of_zero_le hp
        exact shift_up A n h hz (by omega) w
      · obtain ⟨n, rfl⟩ : ∃ n : Nat, k = -(n : Int) := ⟨(-k).toNat, by omega⟩
        exact shift_down A n h hz (by omega) (by omega) w
end Ty
end Go.Proofs.YtbnmjmlcedkoaabGreatDoor
