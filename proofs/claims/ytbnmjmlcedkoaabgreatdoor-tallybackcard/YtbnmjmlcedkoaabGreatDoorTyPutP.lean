import Derived.Test.YtbnmjmlcedkoaabGreatDoorTyB
import Derived.Test.YtbnmjmlcedkoaabGreatDoorTyC
import Derived.Test.YtbnmjmlcedkoaabGreatDoorTyGd
namespace Go.Proofs.YtbnmjmlcedkoaabGreatDoor
namespace Ty
open Go.RowKit
set_option linter.unusedVariables false
theorem tab_on {w w' : World} (h : Cl.TabAt w) (hb : Below w.heap.size w w') : Cl.TabAt w' := fun i hi => by
  have h1 := h i hi
  exact (hb.cell (p := ⟨1, i, none⟩) (World.block_lt_of_cell? w _ h1)).trans h1
theorem wd_small (m : Int) (i : Nat) (h0 : 0 ≤ m) (h1 : m < 18446744073709551616) (hi : 0 < i) : wd m i = 0 := by
  unfold wd
  have : (2 : Int) ^ 64 ≤ 2 ^ (64 * i) := by exact_mod_cast Nat.pow_le_pow_right (by omega : 0 < 2) (show 64 ≤ 64 * i by omega)
  rw [two64] at this
  rw [Int.ediv_eq_zero_of_lt h0 (by omega)]; rfl
theorem sm_small (m : Int) (h0 : 0 ≤ m) (h1 : m < 18446744073709551616) : #[Value.int .u64 m, .int .u64 0, .int .u64 0, .int .u64 0, .int .u64 0, .int .u64 0] = sm m := by
  unfold sm
  rw [wd_small m 1 h0 h1 (by omega), wd_small m 2 h0 h1 (by omega), wd_small m 3 h0 h1 (by omega), wd_small m 4 h0 h1 (by omega), wd_small m 5 h0 h1 (by omega)]
  have : wd m 0 = m := by unfold wd; simp; omega
  rw [this]
theorem parts_mag (u : Int) (h0 : 0 ≤ u) (h1 : u < 4294967296) (hf : u % 2147483648 < 2139095040) :
    Cl.pn u = decide (2147483648 ≤ u) ∧ Cl.pr u = 0 ∧ 0 ≤ Cl.pm u ∧ Cl.pm u < 16777216 ∧ ∃ k : Nat, Cl.pe u + 149 = k ∧ k < 384 ∧ Cl.pm u * 2 ^ k = mag u := by
  by_cases hz : u % 2147483648 = 0
  · obtain ⟨a, b, c, d⟩ := Cl.p_zero u hz
    rw [a, b, c, d]
    refine ⟨rfl, rfl, by omega, by omega, 149, rfl, by omega, ?_⟩
    unfold mag M0 S0; rw [hz]; simp
  · obtain ⟨a, b, c, d⟩ := Cl.p_fin u hf hz
    rw [a, b, c, d]
    have s0 : 0 < u % 2147483648 := by omega
    have s1 : u % 2147483648 < 2139095040 := hf
    unfold mag
    generalize u % 2147483648 = s at *
    have hM : Cl.M0 s = M0 s := rfl
    have mb := Cl.M0_b s s0 (by omega)
    have hE : Cl.E0 s = (S0 s : Int) - 149 := by
      unfold Cl.E0 S0; split
      · omega
      · omega
    have hS : S0 s < 254 := by unfold S0; split <;> omega
    obtain ⟨t1, j, hj⟩ := Cl.tz_spec 32 (Cl.M0 s).toNat (by omega) (by omega)
    have e1 : Cl.tzI (Cl.M0 s) = (Cl.tz (Cl.M0 s).toNat 32 : Int) := rfl
    rw [e1]
    generalize Cl.tz (Cl.M0 s).toNat 32 = t at *
    have e2 : Cl.M0 s = 2 ^ t * (2 * (j : Int) + 1) := by
      have : ((Cl.M0 s).toNat : Int) = ((2 ^ t * (2 * j + 1) : Nat) : Int) := by rw [← hj]
      rw [Int.toNat_of_nonneg (by omega)] at this
      rw [this]; simp
    have e3 : Cl.M0 s / 2 ^ t = 2 * (j : Int) + 1 := by rw [e2, Int.mul_ediv_cancel_left _ (Int.ne_of_gt (pw t))]
    have e4 : 2 * (j : Int) + 1 ≤ Cl.M0 s := by
      rw [e2]
      have : (1 : Int) * (2 * j + 1) ≤ 2 ^ t * (2 * j + 1) := Int.mul_le_mul_of_nonneg_right (by have := pw t; omega) (by omega)
      omega
    rw [e3]
    refine ⟨rfl, rfl, by omega, by omega, S0 s + t, by omega, by omega, ?_⟩
    rw [← hM, e2, Nat.add_comm, Int.pow_add, ← Int.mul_assoc, Int.mul_comm (2 * (j : Int) + 1)]
theorem three_sums (w : World) (t : TypeId) (A : Int) : ∃ v : World, ((w.alloc (.cells (sm A) t)).alloc (.cells #[.int .u64 0, .int .u64 0, .int .u64 0, .int .u64 0, .int .u64 0, .int .u64 0] t)).alloc (.cells #[.int .u64 0, .int .u64 0, .int .u64 0, .int .u64 0, .int .u64 0, .int .u64 0] t) = v ∧ Below w.heap.size w v ∧ v.heap.size = w.heap.size + 1 + 1 + 1 ∧ v.heap[w.heap.size]? = some (.cells (sm A) t (0, 0)) ∧ v.heap[w.heap.size + 1]? = some (.cells (sm 0) t (0, 0)) ∧ v.heap[w.heap.size + 1 + 1]? = some (.cells (sm 0) t (0, 0)) := by
  rw [zeros_sm]
  obtain ⟨h1, h2, h3⟩ := heap_three w (.cells (sm A) t) (.cells (sm 0) t) (.cells (sm 0) t)
  exact ⟨_, rfl, (((Below.refl _ _).alloc (Nat.le_refl _) _).alloc (by simp) _).alloc (by simp; omega) _, by simp, h1, h2, h3⟩
set_option maxHeartbeats 800000 in
theorem put_any (A u : Int) (h0 : 0 ≤ u) (h1 : u < 4294967296) (w : World) (ht : Cl.TabAt w) :
    Calls Tryz.prog 19 #[.agg (sm A), .int .u32 u] w fun e w' => e = .returned (.agg (sm (pt A u))) ∧ Below w.heap.size w w' := by
  obtain ⟨v, hv, hvb, hvs, hv0, hv1⟩ := two_sums w 25 A
  have hone := sm_one (pt A u)
  have htv := tab_on ht hvb
  by_cases hf : u % 2147483648 < 2139095040
  · have HU : Hid (pt A u = A + un u) := by show _ = _; unfold pt; rw [if_pos hf]
    have hsz : (sm A).size = 6 := rfl
    have HMG : Hid (∀ B w, Calls Tryz.prog 11 #[.agg (sm A), .agg (sm B)] w fun e w' => e = .returned (.agg (sm (A + B))) ∧ Below w.heap.size w w') := fun B w => merge_any A B w
    generalize sm A = ca at *
    go_enter Tryz.func19, Tryz.ntmps19
    go_wp2_with (fail)
    refine (Cl.parts_any u h0 h1 _ htv).mono ?_
    rintro e1 w1 ⟨rfl, n1, hw1⟩
    have b1 : Below w.heap.size w w1 := by rw [hw1]; exact below_drewN hvb _
    have q0 : w1.heap[w.heap.size]? = some (.cells ca 25 (0, 0)) := by rw [hw1]; exact hv0
    have q1 : w1.heap[w.heap.size + 1]? = some (.cells (sm 0) 25 (0, 0)) := by rw [hw1]; exact hv1
    have s1 : w1.heap.size = w.heap.size + 1 + 1 := by rw [hw1]; exact hvs
    clear hw1 hv hv0 hv1 hvs hvb htv
    obtain ⟨e1, e2, m0, m1, k, hk, hk2, hmag⟩ := parts_mag u h0 h1 hf
    rw [e1, e2]
    have HG : Hid (Cl.pm u * 2 ^ k = mag u) := hmag
    have hpe : Cl.pe u = (k : Int) - 149 := by omega
    rw [hpe]
    clear e1 e2 hpe hk hmag
    generalize Cl.pm u = m at *
    have HS : Hid (#[Value.int .u64 m, .int .u64 0, .int .u64 0, .int .u64 0, .int .u64 0, .int .u64 0] = sm m) := sm_small m m0 (by omega)
    go_wp2_with (fail)
    rw [HS.out]
    refine (up_any m k hk2 _).mono ?_
    rintro e2 w2 ⟨rfl, hw2⟩
    rw [HG.out]
    have b2 := below_chain b1 hw2 (Nat.le_refl _)
    have s2 := hw2.size
    have r0 := (hw2.block _ (by omega)).trans q0
    have r1 := (hw2.block _ (by omega)).trans q1
    clear hw2 q0 q1 b1 HS HG hk2 m0 m1
    have hone2 := sm_one (mag u)
    have hal := heap_alloc_last w2 (.cells #[.int .u64 0, .int .u64 0, .int .u64 0, .int .u64 0, .int .u64 0, .int .u64 0] 25)
    obtain ⟨v3, hv3, b3, s3, t0, t1, t2⟩ : ∃ v3, (w2.alloc (.cells #[.int .u64 0, .int .u64 0, .int .u64 0, .int .u64 0, .int .u64 0, .int .u64 0] 25)).setRow w2.heap.size (sm (mag u)) = v3 ∧ Below w.heap.size w v3 ∧ v3.heap.size = w2.heap.size + 1 ∧ v3.heap[w.heap.size]? = some (.cells ca 25 (0, 0)) ∧ v3.heap[w.heap.size + 1]? = some (.cells (sm 0) 25 (0, 0)) ∧ v3.heap[w2.heap.size]? = some (.cells (sm (mag u)) 25 (0, 0)) := by
      refine ⟨_, rfl, below_setRow w2.heap.size _ (b2.alloc (by omega) _) (by omega), by simp, ?_, ?_, ?_⟩
      · rw [setRow_other _ _ _ _ (by omega), blk_alloc _ _ _ (by omega)]; exact r0
      · rw [setRow_other _ _ _ _ (by omega), blk_alloc _ _ _ (by omega)]; exact r1
      · exact setRow_heap _ w2.heap.size _ _ 25 (0, 0) hal
    clear b2 r0 r1
    by_cases hs : 2147483648 ≤ u
    · have HN : Hid (A + -mag u = pt A u) := by show _ = _; rw [HU.out]; unfold un; rw [if_pos hs]
      go_wp2_with (first
        | (refine wpList_store6 25 sizeSum rfl _ _ rfl w2.heap.size (sm (mag u)) _ rfl rfl rfl rfl hone2 hal ?_; rw [hv3])
        | (refine wpList_load6 25 _ Tryz.underlying25 sizeSum rfl _ rfl w2.heap.size (sm (mag u)) rfl rfl t2 ?_))
      refine (neg_any (mag u) _).mono ?_
      rintro e4 w4 ⟨rfl, hw4⟩
      have b4 := below_chain b3 hw4 (Nat.le_refl _)
      have s4 := hw4.size
      have y0 := (hw4.block _ (by omega)).trans t0
      have y1 := (hw4.block _ (by omega)).trans t1
      have y2 := (hw4.block _ (by omega)).trans t2
      have hone3 := sm_one (-mag u)
      obtain ⟨v5, hv5, b5, s5, z0, z1, z2⟩ : ∃ v5, w4.setRow w2.heap.size (sm (-mag u)) = v5 ∧ Below w.heap.size w v5 ∧ v5.heap.size = w4.heap.size ∧ v5.heap[w.heap.size]? = some (.cells ca 25 (0, 0)) ∧ v5.heap[w.heap.size + 1]? = some (.cells (sm 0) 25 (0, 0)) ∧ v5.heap[w2.heap.size]? = some (.cells (sm (-mag u)) 25 (0, 0)) := by
        refine ⟨_, rfl, below_setRow w2.heap.size _ b4 (by omega), by simp, ?_, ?_, ?_⟩
        · rw [setRow_other _ _ _ _ (by omega)]; exact y0
        · rw [setRow_other _ _ _ _ (by omega)]; exact y1
        · exact setRow_heap _ w2.heap.size _ _ 25 (0, 0) y2
      clear hw4 b4 b3 t0 t1 t2 hv3 hal y0 y1
      go_wp2_with (first
        | (refine wpList_store6 25 sizeSum rfl _ _ rfl w2.heap.size (sm (-mag u)) _ rfl rfl rfl rfl hone3 y2 ?_; rw [hv5])
        | (refine wpList_load6 25 _ Tryz.underlying25 sizeSum rfl _ rfl w2.heap.size (sm (-mag u)) rfl rfl z2 ?_)
        | (refine wpList_load6 25 _ Tryz.underlying25 sizeSum rfl _ rfl w.heap.size ca rfl hsz z0 ?_))
      refine (HMG.out (-mag u) _).mono ?_
      rintro e6 w6 ⟨rfl, hw6⟩
      rw [HN.out]
      have b6 := below_chain b5 hw6 (Nat.le_refl _)
      have s6 := hw6.size
      have x1 := (hw6.block _ (by omega)).trans z1
      have hbel := below_setRow (w.heap.size + 1) (sm (pt A u)) b6 (by omega)
      have hld : (loadVar 25 ⟨w.heap.size + 1, 0, none⟩).run Tryz.prog (w6.setRow (w.heap.size + 1) (sm (pt A u))) = .ok (.agg (sm (pt A u))) (w6.setRow (w.heap.size + 1) (sm (pt A u))) :=
        run_loadVar_row _ _ 25 25 _ (0, 0) _ (setRow_heap w6 (w.heap.size + 1) _ _ 25 (0, 0) x1) Tryz.underlying25 rfl sizeSum
      clear hw6 b6 b5 z0 z1 z2 y2 hv5 HMG
      go_wp2_with (refine wpList_store6 25 sizeSum rfl _ _ rfl (w.heap.size + 1) (sm (pt A u)) (sm 0) rfl rfl rfl rfl hone x1 ?_)
      refine bodyPost_ret (v := .agg (sm (pt A u))) ?_ rfl ⟨rfl, hbel⟩
      simp [results, Tryz.results19, asAddr, Act.put, hld]
    · have HN : Hid (A + mag u = pt A u) := by show _ = _; rw [HU.out]; unfold un; rw [if_neg hs]
      go_wp2_with (first
        | (refine wpList_store6 25 sizeSum rfl _ _ rfl w2.heap.size (sm (mag u)) _ rfl rfl rfl rfl hone2 hal ?_; rw [hv3])
        | (refine wpList_load6 25 _ Tryz.underlying25 sizeSum rfl _ rfl w2.heap.size (sm (mag u)) rfl rfl t2 ?_)
        | (refine wpList_load6 25 _ Tryz.underlying25 sizeSum rfl _ rfl w.heap.size ca rfl hsz t0 ?_))
      refine (HMG.out (mag u) _).mono ?_
      rintro e6 w6 ⟨rfl, hw6⟩
      rw [HN.out]
      have b6 := below_chain b3 hw6 (Nat.le_refl _)
      have s6 := hw6.size
      have x1 := (hw6.block _ (by omega)).trans t1
      have hbel := below_setRow (w.heap.size + 1) (sm (pt A u)) b6 (by omega)
      have hld : (loadVar 25 ⟨w.heap.size + 1, 0, none⟩).run Tryz.prog (w6.setRow (w.heap.size + 1) (sm (pt A u))) = .ok (.agg (sm (pt A u))) (w6.setRow (w.heap.size + 1) (sm (pt A u))) :=
        run_loadVar_row _ _ 25 25 _ (0, 0) _ (setRow_heap w6 (w.heap.size + 1) _ _ 25 (0, 0) x1) Tryz.underlying25 rfl sizeSum
      clear hw6 b6 b3 t0 t1 t2 hv3 hal HMG
      go_wp2_with (refine wpList_store6 25 sizeSum rfl _ _ rfl (w.heap.size + 1) (sm (pt A u)) (sm 0) rfl rfl rfl rfl hone x1 ?_)
      refine bodyPost_ret (v := .agg (sm (pt A u))) ?_ rfl ⟨rfl, hbel⟩
      simp [results, Tryz.results19, asAddr, Act.put, hld]
  · have HU : pt A u = A := by unfold pt; rw [if_neg hf]
    rw [HU] at hone ⊢
    have hsz : (sm A).size = 6 := rfl
    obtain ⟨i1, i2, i3, i4⟩ := Cl.p_inf u (by omega)
    generalize hca : sm A = ca at *
    have HCA : Hid (sm A = ca) := hca
    clear hca
    go_enter Tryz.func19, Tryz.ntmps19
    go_wp2_with (fail)
    clear hv
    refine (Cl.parts_any u h0 h1 _ htv).mono ?_
    rintro e1 w1 ⟨rfl, n1, hw1⟩
    rw [i1, i2, i3, i4]
    have b1 : Below w.heap.size w w1 := by rw [hw1]; exact below_drewN hvb _
    have q0 : w1.heap[w.heap.size]? = some (.cells ca 25 (0, 0)) := by rw [hw1]; exact hv0
    have q1 : w1.heap[w.heap.size + 1]? = some (.cells (sm 0) 25 (0, 0)) := by rw [hw1]; exact hv1
    clear hw1 hv0 hv1 hvs hvb htv i1 i2 i3 i4
    have hbel := below_setRow (w.heap.size + 1) ca b1 (by omega)
    have hld : (loadVar 25 ⟨w.heap.size + 1, 0, none⟩).run Tryz.prog (w1.setRow (w.heap.size + 1) ca) = .ok (.agg ca) (w1.setRow (w.heap.size + 1) ca) :=
      run_loadVar_row _ _ 25 25 _ (0, 0) _ (setRow_heap w1 (w.heap.size + 1) _ _ 25 (0, 0) q1) Tryz.underlying25 rfl (by rw [hsz]; exact sizeSum)
    go_wp2_with (first
      | (refine wpList_load6 25 _ Tryz.underlying25 sizeSum rfl _ rfl w.heap.size ca rfl hsz q0 ?_)
      | (refine wpList_store6 25 sizeSum rfl _ _ rfl (w.heap.size + 1) ca (sm 0) rfl rfl hsz rfl hone q1 ?_))
    refine bodyPost_ret (v := .agg ca) ?_ rfl ⟨rfl, hbel⟩
    simp [results, Tryz.results19, asAddr, Act.put, hld]
end Ty
end Go.Proofs.YtbnmjmlcedkoaabGreatDoor
