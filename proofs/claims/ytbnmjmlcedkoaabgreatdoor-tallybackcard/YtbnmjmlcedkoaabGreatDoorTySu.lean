import Derived.Test.YtbnmjmlcedkoaabGreatDoorTyFr
import Derived.Test.YtbnmjmlcedkoaabGreatDoorTyGe
namespace Go.Proofs.YtbnmjmlcedkoaabGreatDoor
namespace Ty
open Go.RowKit
set_option linter.unusedVariables false
theorem load_dig {w : World} {g : Nat} {N : Int} (h : w.heap[g]? = some (.cells (dgs N) 56 (0, 0))) : (dgs N).size = 220 := dgs_size N
theorem dig_start (w : World) (N : Int) : ∃ v, (w.alloc (.cells (dgs N) 56)).alloc (.cells #[.int .u64 0, .int .u64 0, .int .u64 0, .int .u64 0, .int .u64 0, .int .u64 0] 25) = v ∧ Below w.heap.size w v ∧ v.heap.size = w.heap.size + 1 + 1 ∧ v.heap[w.heap.size]? = some (.cells (dgs N) 56 (0, 0)) ∧ v.heap[w.heap.size + 1]? = some (.cells (sm 0) 25 (0, 0)) := by
  rw [zeros_sm]
  obtain ⟨h1, h2⟩ := heap_two w (.cells (dgs N) 56) (.cells (sm 0) 25)
  exact ⟨_, rfl, ((Below.refl _ _).alloc (Nat.le_refl _) _).alloc (by simp) _, by simp, h1, h2⟩
/-- A new variable with a sum in it. -/
theorem var_new {w w1 : World} (b : Below w.heap.size w w1) (X : Int) : ∃ V, (w1.alloc (.cells #[.int .u64 0, .int .u64 0, .int .u64 0, .int .u64 0, .int .u64 0, .int .u64 0] 25)).setRow w1.heap.size (sm X) = V ∧ Below w.heap.size w V ∧ V.heap.size = w1.heap.size + 1 ∧ V.heap[w1.heap.size]? = some (.cells (sm X) 25 (0, 0)) ∧ ∀ g, g < w1.heap.size → V.heap[g]? = w1.heap[g]? := by
  refine ⟨_, rfl, below_setRow _ _ (b.alloc b.size _) b.size, by simp, setRow_heap _ w1.heap.size _ _ 25 (0, 0) (heap_alloc_last w1 _), fun g hg => ?_⟩
  rw [setRow_other _ _ _ _ (by omega), blk_alloc _ _ _ hg]
theorem wp_cut {P : Program} {c : Code} {Q : Exit → Act → World → Prop} {a : Act} {w : World} (T : World → Prop) (A1 : Act)
    (h : c.wp P (fun e a' w' => match e with | .normal => a' = A1 ∧ T w' | _ => False) a w) (hq : ∀ w', T w' → Q .normal A1 w') : c.wp P Q a w := by
  refine Code.wp_mono ?_ h
  intro e a' w' hh
  cases e with
  | normal => obtain ⟨rfl, ht⟩ := hh; exact hq w' ht
  | _ => exact hh.elim
set_option maxRecDepth 8000 in
set_option maxHeartbeats 1600000 in
theorem sum_neg (N A0 B0 A B P S : Int) (n0 : 0 ≤ N) (n1 : N ≤ 2 ^ 383) (hA0 : A0 = N / 2 ^ 149) (hB0 : B0 = N % 2 ^ 149) (hA : A = -A0) (hB : B = -B0) (hs : sgn S ≤ 0)
    (HS0 : ∀ w, Calls Tryz.prog 55 #[.agg (sm A), .int .i64 149] w fun e w' => e = .returned (.tuple #[.agg (sm P), .int .i64 0]) ∧ Below w.heap.size w w')
    (HM0 : ∀ w, Calls Tryz.prog 11 #[.agg (sm P), .agg (sm B)] w fun e w' => e = .returned (.agg (sm S)) ∧ Below w.heap.size w w')
    (HG0 : ∀ w, Calls Tryz.prog 33 #[.agg (sm S)] w fun e w' => e = .returned (.int .i64 (sgn S)) ∧ Below w.heap.size w w') (w : World) :
    Calls Tryz.prog 24 #[.agg (dgs N), .bool true] w fun e w' => e = .returned (.tuple #[.agg (sm S), .int .i64 0]) ∧ Below w.heap.size w w' := by
  have HSH : Hid (∀ w, Calls Tryz.prog 55 #[.agg (sm A), .int .i64 149] w fun e w' => e = .returned (.tuple #[.agg (sm P), .int .i64 0]) ∧ Below w.heap.size w w') := HS0
  have HMG : Hid (∀ w, Calls Tryz.prog 11 #[.agg (sm P), .agg (sm B)] w fun e w' => e = .returned (.agg (sm S)) ∧ Below w.heap.size w w') := HM0
  have HSG : Hid (∀ w, Calls Tryz.prog 33 #[.agg (sm S)] w fun e w' => e = .returned (.int .i64 (sgn S)) ∧ Below w.heap.size w w') := HG0
  have HW : Hid (∀ w, Calls Tryz.prog 53 #[.agg (dgs N)] w fun e w' => e = .returned (.agg (sm A0)) ∧ Below w.heap.size w w') := fun w => by rw [hA0]; exact whole_any N n0 n1 w
  have HFR : Hid (∀ w, Calls Tryz.prog 54 #[.agg (dgs N)] w fun e w' => e = .returned (.tuple #[.agg (sm B0), .bool true]) ∧ Below w.heap.size w w') := fun w => by rw [hB0]; exact fraction_any N w
  have HNA : Hid (∀ w, Calls Tryz.prog 12 #[.agg #[.int .u64 (wd A0 0), .int .u64 (wd A0 1), .int .u64 (wd A0 2), .int .u64 (wd A0 3), .int .u64 (wd A0 4), .int .u64 (wd A0 5)]] w fun e w' => e = .returned (.agg (sm A)) ∧ Below w.heap.size w w') := fun w => by rw [hA]; exact neg_any A0 w
  have HNB : Hid (∀ w, Calls Tryz.prog 12 #[.agg #[.int .u64 (wd B0 0), .int .u64 (wd B0 1), .int .u64 (wd B0 2), .int .u64 (wd B0 3), .int .u64 (wd B0 4), .int .u64 (wd B0 5)]] w fun e w' => e = .returned (.agg (sm B)) ∧ Below w.heap.size w w') := fun w => by rw [hB]; exact neg_any B0 w
  have hds := dgs_size N
  obtain ⟨v, hv, hvb, hvs, hv0, hv1⟩ := dig_start w N
  generalize hdd : dgs N = ds at *
  clear hA0 hB0 HS0 HM0 HG0 hdd n0 n1
  clear hA hB
  go_enter Tryz.func24, Tryz.ntmps24
  go_wp2_with (refine wpList_load220 rfl _ rfl w.heap.size ds rfl hds hv0 ?_)
  clear hv
  refine (HW.out _).mono ?_
  rintro e1 w1 ⟨rfl, hw1⟩
  have b1 := below_chain hvb hw1 (Nat.le_refl _)
  have s1 := hw1.size
  have p0 := (hw1.block _ (by omega)).trans hv0
  have p1 := (hw1.block _ (by omega)).trans hv1
  obtain ⟨V1, hV1, bV1, sV1, q6, on1⟩ := var_new b1 A0
  have hal1 := heap_alloc_last w1 (.cells #[.int .u64 0, .int .u64 0, .int .u64 0, .int .u64 0, .int .u64 0, .int .u64 0] 25)
  have hone1 := sm_one A0
  have p2 := (on1 w.heap.size (by omega)).trans p0
  have p3 := (on1 (w.heap.size + 1) (by omega)).trans p1
  have hsA0 : (sm A0).size = 6 := rfl
  clear hvb hw1 hv0 hv1 b1 p0 p1 on1 HW
  generalize hca : sm A0 = ca0 at *
  have HCA : Hid (sm A0 = ca0) := hca
  clear hca
  go_wp2_with (first
    | (refine wpList_store6 25 sizeSum rfl _ _ rfl w1.heap.size ca0 _ rfl rfl hsA0 rfl hone1 hal1 ?_; rw [hV1])
    | (refine wpList_load220 rfl _ rfl w.heap.size ds rfl hds p2 ?_))
  clear hV1 hal1
  refine (HFR.out _).mono ?_
  rintro e2 w2 ⟨rfl, hw2⟩
  have b2 := below_chain bV1 hw2 (Nat.le_refl _)
  have s2 := hw2.size
  have p4 := (hw2.block _ (by omega)).trans p3
  have q6' := (hw2.block _ (by omega)).trans q6
  obtain ⟨V2, hV2, bV2, sV2, q7, on2⟩ := var_new b2 B0
  have hal2 := heap_alloc_last w2 (.cells #[.int .u64 0, .int .u64 0, .int .u64 0, .int .u64 0, .int .u64 0, .int .u64 0] 25)
  have hone2 := sm_one B0
  have p5 := (on2 (w.heap.size + 1) (by omega)).trans p4
  have q6 := (on2 w1.heap.size (by omega)).trans q6'
  obtain ⟨g6, hg6⟩ : ∃ g, g = w1.heap.size := ⟨_, rfl⟩
  obtain ⟨g7, hg7⟩ : ∃ g, g = w2.heap.size := ⟨_, rfl⟩
  have l0 : w.heap.size + 1 < g6 := by omega
  have l6 : g6 < g7 := by omega
  have l7 : g7 < V2.heap.size := by omega
  have hsB0 : (sm B0).size = 6 := rfl
  clear bV1 hw2 b2 p4 q6' on2 p2 p3 HFR
  rw [← HCA.out] at q6
  generalize hcb : sm B0 = cb0 at *
  have HCB : Hid (sm B0 = cb0) := hcb
  clear hcb
  go_wp2_with (refine wpList_store6 25 sizeSum rfl _ _ rfl w2.heap.size cb0 _ rfl rfl hsB0 rfl hone2 hal2 ?_; rw [hV2])
  rw [← HCB.out] at q7
  rw [← hg6] at q6 ⊢
  rw [← hg7] at q7 ⊢
  clear hV2 hal2 hone2 hg6 hg7 s1 s2 sV1 sV2 hsA0 hsB0 hone1 HCA HCB hvs
  obtain ⟨⟨c0, c1, c2, c3, c4, c5⟩, f0, f1, f2, f3, f4, f5⟩ := cells6 (row_sm q6)
  obtain ⟨⟨d0, d1, d2, d3, d4, d5⟩, k0, k1, k2, k3, k4, k5⟩ := cells6 (row_sm q7)
  have l6' : g6 < V2.heap.size := by omega
  have HQ : Hid (V2.heap[g6]? = some (.cells (sm A0) 25 (0, 0)) ∧ V2.heap[g7]? = some (.cells (sm B0) 25 (0, 0)) ∧ V2.heap[w.heap.size + 1]? = some (.cells (sm 0) 25 (0, 0)) ∧ Below w.heap.size w V2) := ⟨q6, q7, p5, bV2⟩
  have n67 : g6 ≠ g7 := by omega
  have n76 : g7 ≠ g6 := by omega
  have ul6 := l6'
  have ul7 := l7
  clear q6 q7 p5 bV2 l6'
  apply wp_cut (fun w' => Below w.heap.size w w' ∧ w'.heap[g6]? = some (.cells (sm A) 25 (0, 0)) ∧ w'.heap[g7]? = some (.cells (sm B) 25 (0, 0)) ∧ w'.heap[w.heap.size + 1]? = some (.cells (sm 0) 25 (0, 0)))
  case h =>
    go_region_with ((first
      | (go_at_call_of 12 A0; refine (HNA.out _).mono ?_; rintro eA wA ⟨heA, hbA⟩; have heA' : eA = .returned (.agg #[.int .u64 (wd A 0), .int .u64 (wd A 1), .int .u64 (wd A 2), .int .u64 (wd A 3), .int .u64 (wd A 4), .int .u64 (wd A 5)]) := heA; subst heA'; have pc0 := (hbA.cell (p := ⟨g6, 0, none⟩) ul6).trans c0; have pc1 := (hbA.cell (p := ⟨g6, 1, none⟩) ul6).trans c1; have pc2 := (hbA.cell (p := ⟨g6, 2, none⟩) ul6).trans c2; have pc3 := (hbA.cell (p := ⟨g6, 3, none⟩) ul6).trans c3; have pc4 := (hbA.cell (p := ⟨g6, 4, none⟩) ul6).trans c4; have pc5 := (hbA.cell (p := ⟨g6, 5, none⟩) ul6).trans c5; have pf0 := (hbA.frozen (p := ⟨g6, 0, none⟩) ul6).trans f0; have pf1 := (hbA.frozen (p := ⟨g6, 1, none⟩) ul6).trans f1; have pf2 := (hbA.frozen (p := ⟨g6, 2, none⟩) ul6).trans f2; have pf3 := (hbA.frozen (p := ⟨g6, 3, none⟩) ul6).trans f3; have pf4 := (hbA.frozen (p := ⟨g6, 4, none⟩) ul6).trans f4; have pf5 := (hbA.frozen (p := ⟨g6, 5, none⟩) ul6).trans f5; have vl6 := Nat.lt_of_lt_of_le ul6 hbA.size; have pd0 := (hbA.cell (p := ⟨g7, 0, none⟩) ul7).trans d0; have pd1 := (hbA.cell (p := ⟨g7, 1, none⟩) ul7).trans d1; have pd2 := (hbA.cell (p := ⟨g7, 2, none⟩) ul7).trans d2; have pd3 := (hbA.cell (p := ⟨g7, 3, none⟩) ul7).trans d3; have pd4 := (hbA.cell (p := ⟨g7, 4, none⟩) ul7).trans d4; have pd5 := (hbA.cell (p := ⟨g7, 5, none⟩) ul7).trans d5; have pk0 := (hbA.frozen (p := ⟨g7, 0, none⟩) ul7).trans k0; have pk1 := (hbA.frozen (p := ⟨g7, 1, none⟩) ul7).trans k1; have pk2 := (hbA.frozen (p := ⟨g7, 2, none⟩) ul7).trans k2; have pk3 := (hbA.frozen (p := ⟨g7, 3, none⟩) ul7).trans k3; have pk4 := (hbA.frozen (p := ⟨g7, 4, none⟩) ul7).trans k4; have pk5 := (hbA.frozen (p := ⟨g7, 5, none⟩) ul7).trans k5; have vl7 := Nat.lt_of_lt_of_le ul7 hbA.size)
      | (go_at_call_of 12 B0; refine (HNB.out _).mono ?_; rintro eB wB ⟨heB, hbB⟩; have heB' : eB = .returned (.agg #[.int .u64 (wd B 0), .int .u64 (wd B 1), .int .u64 (wd B 2), .int .u64 (wd B 3), .int .u64 (wd B 4), .int .u64 (wd B 5)]) := heB; subst heB'; have rc0 := (hbB.cell (p := ⟨g6, 0, none⟩) vl6).trans pc0; have rc1 := (hbB.cell (p := ⟨g6, 1, none⟩) vl6).trans pc1; have rc2 := (hbB.cell (p := ⟨g6, 2, none⟩) vl6).trans pc2; have rc3 := (hbB.cell (p := ⟨g6, 3, none⟩) vl6).trans pc3; have rc4 := (hbB.cell (p := ⟨g6, 4, none⟩) vl6).trans pc4; have rc5 := (hbB.cell (p := ⟨g6, 5, none⟩) vl6).trans pc5; have rf0 := (hbB.frozen (p := ⟨g6, 0, none⟩) vl6).trans pf0; have rf1 := (hbB.frozen (p := ⟨g6, 1, none⟩) vl6).trans pf1; have rf2 := (hbB.frozen (p := ⟨g6, 2, none⟩) vl6).trans pf2; have rf3 := (hbB.frozen (p := ⟨g6, 3, none⟩) vl6).trans pf3; have rf4 := (hbB.frozen (p := ⟨g6, 4, none⟩) vl6).trans pf4; have rf5 := (hbB.frozen (p := ⟨g6, 5, none⟩) vl6).trans pf5; have xl6 := Nat.lt_of_lt_of_le vl6 hbB.size; have rd0 := (hbB.cell (p := ⟨g7, 0, none⟩) vl7).trans pd0; have rd1 := (hbB.cell (p := ⟨g7, 1, none⟩) vl7).trans pd1; have rd2 := (hbB.cell (p := ⟨g7, 2, none⟩) vl7).trans pd2; have rd3 := (hbB.cell (p := ⟨g7, 3, none⟩) vl7).trans pd3; have rd4 := (hbB.cell (p := ⟨g7, 4, none⟩) vl7).trans pd4; have rd5 := (hbB.cell (p := ⟨g7, 5, none⟩) vl7).trans pd5; have rk0 := (hbB.frozen (p := ⟨g7, 0, none⟩) vl7).trans pk0; have rk1 := (hbB.frozen (p := ⟨g7, 1, none⟩) vl7).trans pk1; have rk2 := (hbB.frozen (p := ⟨g7, 2, none⟩) vl7).trans pk2; have rk3 := (hbB.frozen (p := ⟨g7, 3, none⟩) vl7).trans pk3; have rk4 := (hbB.frozen (p := ⟨g7, 4, none⟩) vl7).trans pk4; have rk5 := (hbB.frozen (p := ⟨g7, 5, none⟩) vl7).trans pk5; have xl7 := Nat.lt_of_lt_of_le vl7 hbB.size)))
    all_goals
      refine ⟨rfl, ?_⟩
      obtain ⟨t6, t7, t1, tb⟩ := HQ.out
      have hbb : Below V2.heap.size V2 wB := (((Below.refl _ _).drew).trans hbA).trans (hbB.mono hbA.size)
      have x6 := row_sm ((hbb.block _ (by omega)).trans t6)
      have x7 := row_sm ((hbb.block _ (by omega)).trans t7)
      have x1 := (hbb.block _ (show w.heap.size + 1 < V2.heap.size by omega)).trans t1
      have y6 := six_other B (six_row A x6) n67
      have y7 := six_row B (six_other A x7 n76)
      have y1 := (six_blk (six wB g6 A) g7 B (w.heap.size + 1) (by omega)).trans ((six_blk wB g6 A (w.heap.size + 1) (by omega)).trans x1)
      have yb := six_below B (six_below A (below_chain tb hbb (Nat.le_refl _)) (show w.heap.size ≤ g6 by omega)) (show w.heap.size ≤ g7 by omega)
      exact ⟨yb, sm_row y6, sm_row y7, y1⟩
  case hq =>
    rintro V ⟨bV, t6, t7, t1⟩
    clear HQ HNA HNB c0 c1 c2 c3 c4 c5 f0 f1 f2 f3 f4 f5 d0 d1 d2 d3 d4 d5 k0 k1 k2 k3 k4 k5 ul6 ul7 l7
    have l7 : g7 < V.heap.size := (Array.getElem?_eq_some_iff.1 t7).1
    have hsA : (sm A).size = 6 := rfl
    go_wp2_with (refine wpList_load6 25 _ Tryz.underlying25 sizeSum rfl _ rfl g6 (sm A) rfl rfl t6 ?_)
    refine (HSH.out _).mono ?_
    rintro e3 w3 ⟨rfl, hw3⟩
    have b3 := below_chain bV hw3 (Nat.le_refl _)
    have s3 := hw3.size
    have t7 := (hw3.block _ l7).trans t7
    have t1 := (hw3.block _ (by omega)).trans t1
    obtain ⟨V4, hV4, bV4, sV4, q9, on4⟩ := var_new b3 P
    have hal4 := heap_alloc_last w3 (.cells #[.int .u64 0, .int .u64 0, .int .u64 0, .int .u64 0, .int .u64 0, .int .u64 0] 25)
    have hone4 := sm_one P
    have t7 := (on4 g7 (by omega)).trans t7
    have t1 := (on4 (w.heap.size + 1) (by omega)).trans t1
    clear hw3 b3 on4 bV HSH
    go_wp2_with (first
      | (refine wpList_store6 25 sizeSum rfl _ _ rfl w3.heap.size (sm P) _ rfl rfl rfl rfl hone4 hal4 ?_; rw [hV4])
      | (refine wpList_load6 25 _ Tryz.underlying25 sizeSum rfl _ rfl w3.heap.size (sm P) rfl rfl q9 ?_)
      | (refine wpList_load6 25 _ Tryz.underlying25 sizeSum rfl _ rfl g7 (sm B) rfl rfl t7 ?_))
    refine (HMG.out _).mono ?_
    rintro e5 w5 ⟨rfl, hw5⟩
    have b5 := below_chain bV4 hw5 (Nat.le_refl _)
    have s5 := hw5.size
    have t1 := (hw5.block _ (by omega)).trans t1
    obtain ⟨V6, hV6, bV6, sV6, q11, on6⟩ := var_new b5 S
    have hal6 := heap_alloc_last w5 (.cells #[.int .u64 0, .int .u64 0, .int .u64 0, .int .u64 0, .int .u64 0, .int .u64 0] 25)
    have hone6 := sm_one S
    have t1 := (on6 (w.heap.size + 1) (by omega)).trans t1
    clear hw5 b5 on6 bV4 HMG t7 q9 hV4 hal4 hone4
    go_wp2_with (first
      | (refine wpList_store6 25 sizeSum rfl _ _ rfl w5.heap.size (sm S) _ rfl rfl rfl rfl hone6 hal6 ?_; rw [hV6])
      | (refine wpList_load6 25 _ Tryz.underlying25 sizeSum rfl _ rfl w5.heap.size (sm S) rfl rfl q11 ?_))
    refine (HSG.out _).mono ?_
    rintro e7 w7 ⟨rfl, hw7⟩
    have b7 := below_chain bV6 hw7 (Nat.le_refl _)
    have s7 := hw7.size
    have t1 := (hw7.block _ (by omega)).trans t1
    have q11 := (hw7.block _ (by omega)).trans q11
    have hbel := below_setRow (w.heap.size + 1) (sm S) b7 (by omega)
    have hld : (loadVar 25 ⟨w.heap.size + 1, 0, none⟩).run Tryz.prog (w7.setRow (w.heap.size + 1) (sm S)) = .ok (.agg (sm S)) (w7.setRow (w.heap.size + 1) (sm S)) :=
      run_loadVar_row _ _ 25 25 _ (0, 0) _ (setRow_heap w7 (w.heap.size + 1) _ _ 25 (0, 0) t1) Tryz.underlying25 rfl sizeSum
    clear hw7 bV6 HSG hV6 hal6
    generalize sgn S = sg at *
    go_wp2_with (first
      | (refine wpList_load6 25 _ Tryz.underlying25 sizeSum rfl _ rfl w5.heap.size (sm S) rfl rfl q11 ?_)
      | (refine wpList_store6 25 sizeSum rfl _ _ rfl (w.heap.size + 1) (sm S) (sm 0) rfl rfl rfl rfl hone6 t1 ?_))
    all_goals
      refine bodyPost_ret (v := .tuple #[.agg (sm S), .int .i64 0]) ?_ rfl ⟨rfl, hbel⟩
      simp [results, Tryz.results24, asAddr, hld]
set_option maxRecDepth 8000 in
set_option maxHeartbeats 1600000 in
theorem sum_pos (N A0 B0 A B P S : Int) (n0 : 0 ≤ N) (n1 : N ≤ 2 ^ 383) (hA0 : A0 = N / 2 ^ 149) (hB0 : B0 = N % 2 ^ 149) (hA : A = A0) (hB : B = B0) (hs : sgn S ≤ 1)
    (HS0 : ∀ w, Calls Tryz.prog 55 #[.agg (sm A), .int .i64 149] w fun e w' => e = .returned (.tuple #[.agg (sm P), .int .i64 0]) ∧ Below w.heap.size w w')
    (HM0 : ∀ w, Calls Tryz.prog 11 #[.agg (sm P), .agg (sm B)] w fun e w' => e = .returned (.agg (sm S)) ∧ Below w.heap.size w w')
    (HG0 : ∀ w, Calls Tryz.prog 33 #[.agg (sm S)] w fun e w' => e = .returned (.int .i64 (sgn S)) ∧ Below w.heap.size w w') (w : World) :
    Calls Tryz.prog 24 #[.agg (dgs N), .bool false] w fun e w' => e = .returned (.tuple #[.agg (sm S), .int .i64 0]) ∧ Below w.heap.size w w' := by
  have HSH : Hid (∀ w, Calls Tryz.prog 55 #[.agg (sm A), .int .i64 149] w fun e w' => e = .returned (.tuple #[.agg (sm P), .int .i64 0]) ∧ Below w.heap.size w w') := HS0
  have HMG : Hid (∀ w, Calls Tryz.prog 11 #[.agg (sm P), .agg (sm B)] w fun e w' => e = .returned (.agg (sm S)) ∧ Below w.heap.size w w') := HM0
  have HSG : Hid (∀ w, Calls Tryz.prog 33 #[.agg (sm S)] w fun e w' => e = .returned (.int .i64 (sgn S)) ∧ Below w.heap.size w w') := HG0
  have HW : Hid (∀ w, Calls Tryz.prog 53 #[.agg (dgs N)] w fun e w' => e = .returned (.agg (sm A0)) ∧ Below w.heap.size w w') := fun w => by rw [hA0]; exact whole_any N n0 n1 w
  have HFR : Hid (∀ w, Calls Tryz.prog 54 #[.agg (dgs N)] w fun e w' => e = .returned (.tuple #[.agg (sm B0), .bool true]) ∧ Below w.heap.size w w') := fun w => by rw [hB0]; exact fraction_any N w
  have hds := dgs_size N
  obtain ⟨v, hv, hvb, hvs, hv0, hv1⟩ := dig_start w N
  generalize hdd : dgs N = ds at *
  clear hA0 hB0 HS0 HM0 HG0 hdd n0 n1
  have HA : Hid (A = A0) := hA
  have HB : Hid (B = B0) := hB
  clear hA hB
  go_enter Tryz.func24, Tryz.ntmps24
  go_wp2_with (refine wpList_load220 rfl _ rfl w.heap.size ds rfl hds hv0 ?_)
  clear hv
  refine (HW.out _).mono ?_
  rintro e1 w1 ⟨rfl, hw1⟩
  have b1 := below_chain hvb hw1 (Nat.le_refl _)
  have s1 := hw1.size
  have p0 := (hw1.block _ (by omega)).trans hv0
  have p1 := (hw1.block _ (by omega)).trans hv1
  obtain ⟨V1, hV1, bV1, sV1, q6, on1⟩ := var_new b1 A0
  have hal1 := heap_alloc_last w1 (.cells #[.int .u64 0, .int .u64 0, .int .u64 0, .int .u64 0, .int .u64 0, .int .u64 0] 25)
  have hone1 := sm_one A0
  have p2 := (on1 w.heap.size (by omega)).trans p0
  have p3 := (on1 (w.heap.size + 1) (by omega)).trans p1
  have hsA0 : (sm A0).size = 6 := rfl
  clear hvb hw1 hv0 hv1 b1 p0 p1 on1 HW
  generalize hca : sm A0 = ca0 at *
  have HCA : Hid (sm A0 = ca0) := hca
  clear hca
  go_wp2_with (first
    | (refine wpList_store6 25 sizeSum rfl _ _ rfl w1.heap.size ca0 _ rfl rfl hsA0 rfl hone1 hal1 ?_; rw [hV1])
    | (refine wpList_load220 rfl _ rfl w.heap.size ds rfl hds p2 ?_))
  clear hV1 hal1
  refine (HFR.out _).mono ?_
  rintro e2 w2 ⟨rfl, hw2⟩
  have b2 := below_chain bV1 hw2 (Nat.le_refl _)
  have s2 := hw2.size
  have p4 := (hw2.block _ (by omega)).trans p3
  have q6' := (hw2.block _ (by omega)).trans q6
  obtain ⟨V2, hV2, bV2, sV2, q7, on2⟩ := var_new b2 B0
  have hal2 := heap_alloc_last w2 (.cells #[.int .u64 0, .int .u64 0, .int .u64 0, .int .u64 0, .int .u64 0, .int .u64 0] 25)
  have hone2 := sm_one B0
  have p5 := (on2 (w.heap.size + 1) (by omega)).trans p4
  have q6 := (on2 w1.heap.size (by omega)).trans q6'
  obtain ⟨g6, hg6⟩ : ∃ g, g = w1.heap.size := ⟨_, rfl⟩
  obtain ⟨g7, hg7⟩ : ∃ g, g = w2.heap.size := ⟨_, rfl⟩
  have l0 : w.heap.size + 1 < g6 := by omega
  have l6 : g6 < g7 := by omega
  have l7 : g7 < V2.heap.size := by omega
  have hsB0 : (sm B0).size = 6 := rfl
  clear bV1 hw2 b2 p4 q6' on2 p2 p3 HFR
  rw [← HCA.out] at q6
  generalize hcb : sm B0 = cb0 at *
  have HCB : Hid (sm B0 = cb0) := hcb
  clear hcb
  subst hg6 hg7
  go_wp2_with (first
    | (refine wpList_store6 25 sizeSum rfl _ _ rfl w2.heap.size cb0 _ rfl rfl hsB0 rfl hone2 hal2 ?_; rw [hV2])
    | (refine wpList_load6 25 _ Tryz.underlying25 sizeSum rfl _ rfl w1.heap.size (sm A0) rfl rfl q6 ?_))
  rw [← HCB.out] at q7
  have bV := bV2
  have t7 := q7
  have t1 := p5
  clear hV2 hal2 hone2 bV2 q7 p5
  rw [HA.out] at HSH
  rw [HB.out] at HMG
  have hsA : (sm A).size = 6 := rfl
  refine (HSH.out _).mono ?_
  rintro e3 w3 ⟨rfl, hw3⟩
  have b3 := below_chain bV hw3 (Nat.le_refl _)
  have s3 := hw3.size
  have t7 := (hw3.block _ l7).trans t7
  have t1 := (hw3.block _ (by omega)).trans t1
  obtain ⟨V4, hV4, bV4, sV4, q9, on4⟩ := var_new b3 P
  have hal4 := heap_alloc_last w3 (.cells #[.int .u64 0, .int .u64 0, .int .u64 0, .int .u64 0, .int .u64 0, .int .u64 0] 25)
  have hone4 := sm_one P
  have t7 := (on4 w2.heap.size (by omega)).trans t7
  have t1 := (on4 (w.heap.size + 1) (by omega)).trans t1
  clear hw3 b3 on4 bV HSH
  go_wp2_with (first
    | (refine wpList_store6 25 sizeSum rfl _ _ rfl w3.heap.size (sm P) _ rfl rfl rfl rfl hone4 hal4 ?_; rw [hV4])
    | (refine wpList_load6 25 _ Tryz.underlying25 sizeSum rfl _ rfl w3.heap.size (sm P) rfl rfl q9 ?_)
    | (refine wpList_load6 25 _ Tryz.underlying25 sizeSum rfl _ rfl w2.heap.size (sm B0) rfl rfl t7 ?_))
  refine (HMG.out _).mono ?_
  rintro e5 w5 ⟨rfl, hw5⟩
  have b5 := below_chain bV4 hw5 (Nat.le_refl _)
  have s5 := hw5.size
  have t1 := (hw5.block _ (by omega)).trans t1
  obtain ⟨V6, hV6, bV6, sV6, q11, on6⟩ := var_new b5 S
  have hal6 := heap_alloc_last w5 (.cells #[.int .u64 0, .int .u64 0, .int .u64 0, .int .u64 0, .int .u64 0, .int .u64 0] 25)
  have hone6 := sm_one S
  have t1 := (on6 (w.heap.size + 1) (by omega)).trans t1
  clear hw5 b5 on6 bV4 HMG t7 q9 hV4 hal4 hone4
  go_wp2_with (first
    | (refine wpList_store6 25 sizeSum rfl _ _ rfl w5.heap.size (sm S) _ rfl rfl rfl rfl hone6 hal6 ?_; rw [hV6])
    | (refine wpList_load6 25 _ Tryz.underlying25 sizeSum rfl _ rfl w5.heap.size (sm S) rfl rfl q11 ?_))
  refine (HSG.out _).mono ?_
  rintro e7 w7 ⟨rfl, hw7⟩
  have b7 := below_chain bV6 hw7 (Nat.le_refl _)
  have s7 := hw7.size
  have t1 := (hw7.block _ (by omega)).trans t1
  have q11 := (hw7.block _ (by omega)).trans q11
  have hbel := below_setRow (w.heap.size + 1) (sm S) b7 (by omega)
  have hld : (loadVar 25 ⟨w.heap.size + 1, 0, none⟩).run Tryz.prog (w7.setRow (w.heap.size + 1) (sm S)) = .ok (.agg (sm S)) (w7.setRow (w.heap.size + 1) (sm S)) :=
    run_loadVar_row _ _ 25 25 _ (0, 0) _ (setRow_heap w7 (w.heap.size + 1) _ _ 25 (0, 0) t1) Tryz.underlying25 rfl sizeSum
  clear hw7 bV6 HSG hV6 hal6
  generalize sgn S = sg at *
  go_wp2_with (first
    | (refine wpList_load6 25 _ Tryz.underlying25 sizeSum rfl _ rfl w5.heap.size (sm S) rfl rfl q11 ?_)
    | (refine wpList_store6 25 sizeSum rfl _ _ rfl (w.heap.size + 1) (sm S) (sm 0) rfl rfl rfl rfl hone6 t1 ?_))
  all_goals
    refine bodyPost_ret (v := .tuple #[.agg (sm S), .int .i64 0]) ?_ rfl ⟨rfl, hbel⟩
    simp [results, Tryz.results24, asAddr, hld]
end Ty
end Go.Proofs.YtbnmjmlcedkoaabGreatDoor
