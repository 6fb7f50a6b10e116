import Derived.Test.YtbnmjmlcedkoaabGreatDoorTyPs
namespace Go.Proofs.YtbnmjmlcedkoaabGreatDoor
namespace Ty
open Go.RowKit
set_option linter.unusedVariables false
set_option maxRecDepth 8000 in
set_option maxHeartbeats 1600000 in
theorem parse_np (s body sA sB sAB : ByteArray) (hab : sA ++ sB = sAB) (z1 : sA.size ≤ 71) (z2 : sB.size ≤ 149) (hne : (body.toList == s.toList) = false)
    (H1 : ∀ w, Calls Tryz.prog 48 #[.string s, .string ⟨#[45]⟩] w fun e w' => e = .returned (.string body) ∧ w' = w)
    (H3 : ∀ w, Calls Tryz.prog 49 #[.string body, .string ⟨#[101, 69]⟩] w fun e w' => e = .returned (.int .i64 (-1)) ∧ Below w.heap.size w w')
    (H4 : ∀ w, Calls Tryz.prog 51 #[.string body, .string ⟨#[46]⟩] w fun e w' => e = .returned (.tuple #[.string sA, .string sB, .bool true]) ∧ Below w.heap.size w w')
    (H5 : ∀ w, Calls Tryz.prog 52 #[.string sA] w fun e w' => e = .returned (.bool true) ∧ Below w.heap.size w w')
    (H6 : ∀ w, Calls Tryz.prog 52 #[.string sB] w fun e w' => e = .returned (.bool true) ∧ Below w.heap.size w w') (w : World) :
    Calls Tryz.prog 22 #[.string s] w fun e w' => e = .returned (.tuple #[.agg #[.bool true, .string sAB, .int .i64 sA.size, .int .i64 0], .bool true]) ∧ Below w.heap.size w w' := by
  have HT1 : Hid (∀ w, Calls Tryz.prog 48 #[.string s, .string ⟨#[45]⟩] w fun e w' => e = .returned (.string body) ∧ w' = w) := H1
  have HI : Hid (∀ w, Calls Tryz.prog 49 #[.string body, .string ⟨#[101, 69]⟩] w fun e w' => e = .returned (.int .i64 (-1)) ∧ Below w.heap.size w w') := H3
  have HC : Hid (∀ w, Calls Tryz.prog 51 #[.string body, .string ⟨#[46]⟩] w fun e w' => e = .returned (.tuple #[.string sA, .string sB, .bool true]) ∧ Below w.heap.size w w') := H4
  have HA : Hid (∀ w, Calls Tryz.prog 52 #[.string sA] w fun e w' => e = .returned (.bool true) ∧ Below w.heap.size w w') := H5
  have HB : Hid (∀ w, Calls Tryz.prog 52 #[.string sB] w fun e w' => e = .returned (.bool true) ∧ Below w.heap.size w w') := H6
  have HAB : Hid (sA ++ sB = sAB) := hab
  clear H1 H3 H4 H5 H6 hab
  obtain ⟨v, hv, hvb, hvs, hv0⟩ : ∃ v, w.alloc (.cells #[.bool false, .string ⟨#[]⟩, .int .i64 0, .int .i64 0] 52) = v ∧ Below w.heap.size w v ∧ v.heap.size = w.heap.size + 1 ∧ v.heap[w.heap.size]? = some (.cells #[.bool false, .string ⟨#[]⟩, .int .i64 0, .int .i64 0] 52 (0, 0)) := ⟨_, rfl, (Below.refl _ _).alloc (Nat.le_refl _) _, by simp, heap_alloc_last w _⟩
  go_enter Tryz.func22, Tryz.ntmps22
  go_wp2_with (fail)
  refine (HT1.out _).mono ?_
  rintro e1 w1 ⟨rfl, hw1⟩
  subst w1
  clear hv
  obtain ⟨V, hV, bV, sV, qV1, qV0⟩ : ∃ V, v.alloc (.cells #[.bool true, .string ⟨#[]⟩, .int .i64 0, .int .i64 0] 52) = V ∧ Below w.heap.size w V ∧ V.heap.size = w.heap.size + 1 + 1 ∧ V.heap[w.heap.size + 1]? = some (.cells #[.bool true, .string ⟨#[]⟩, .int .i64 0, .int .i64 0] 52 (0, 0)) ∧ V.heap[w.heap.size]? = some (.cells #[.bool false, .string ⟨#[]⟩, .int .i64 0, .int .i64 0] 52 (0, 0)) := by
    refine ⟨_, rfl, hvb.alloc hvb.size _, by simp [hvs], ?_, ?_⟩
    · rw [← hvs]; exact heap_alloc_last v _
    · rw [blk_alloc _ _ _ (by omega)]; exact hv0
  have HV : Hid (v.alloc (.cells #[.bool true, .string ⟨#[]⟩, .int .i64 0, .int .i64 0] 52) = V) := hV
  clear hvb hv0 hV
  go_wp2_with (fail)
  rw [HV.out]
  refine (HI.out _).mono ?_
  rintro e2 w2 ⟨rfl, hw2⟩
  have b2 := below_chain bV hw2 (Nat.le_refl _)
  have s2 := hw2.size
  have q1 := (hw2.block _ (by omega)).trans qV1
  have q0 := (hw2.block _ (by omega)).trans qV0
  clear HV bV hw2 qV1 qV0 HT1 HI hne hvs
  go_wp2_with (fail)
  refine (HC.out _).mono ?_
  rintro e3 w3 ⟨rfl, hw3⟩
  have b3 := below_chain b2 hw3 (Nat.le_refl _)
  have s3 := hw3.size
  have q1 := (hw3.block _ (by omega)).trans q1
  have q0 := (hw3.block _ (by omega)).trans q0
  have r1 := row4 q1
  have r0 := row4 q0
  obtain ⟨d1, g1⟩ := cell_of4 q1 1 _ rfl
  obtain ⟨d2, g2⟩ := cell_of4 q1 2 _ rfl
  obtain ⟨V4, hV4, b4, s4, R1, R0⟩ : ∃ V4, (w3.setCell ⟨w.heap.size + 1, 1, none⟩ (.string sAB)).setCell ⟨w.heap.size + 1, 2, none⟩ (.int .i64 sA.size) = V4 ∧ Below w.heap.size w V4 ∧ V4.heap.size = w3.heap.size ∧ V4.rowIs (w.heap.size + 1) 52 4 (fun i => #[Value.bool true, .string sAB, .int .i64 sA.size, .int .i64 0].getD i undef) ∧ V4.rowIs w.heap.size 52 4 (fun i => (#[.bool false, .string ⟨#[]⟩, .int .i64 0, .int .i64 0] : Array Value).getD i undef) := by
    refine ⟨_, rfl, (b3.setCell (by show w.heap.size ≤ w.heap.size + 1; omega) _).setCell (by show w.heap.size ≤ w.heap.size + 1; omega) _, by simp, ((r1.set 1 _).set 2 _).congr (fun i hi => ?_), (r0.setOther (by show w.heap.size ≠ w.heap.size + 1; omega) _).setOther (by show w.heap.size ≠ w.heap.size + 1; omega) _⟩
    match i, hi with
    | 0, _ => rfl
    | 1, _ => rfl
    | 2, _ => rfl
    | 3, _ => rfl
  have c0 := R1.cell (show 0 < 4 by omega)
  have c1 := R1.cell (show 1 < 4 by omega)
  have c2 := R1.cell (show 2 < 4 by omega)
  have c3 := R1.cell (show 3 < 4 by omega)
  have z0 := R0.cell (show 0 < 4 by omega)
  have z1' := R0.cell (show 1 < 4 by omega)
  have z2' := R0.cell (show 2 < 4 by omega)
  have z3 := R0.cell (show 3 < 4 by omega)
  have f0 := R0.frozen 0
  have f1 := R0.frozen 1
  have f2 := R0.frozen 2
  have f3 := R0.frozen 3
  simp only [getD4] at c0 c1 c2 c3 z0 z1' z2' z3
  have l1 : w.heap.size + 1 < V4.heap.size := by omega
  have l0 : w.heap.size < V4.heap.size := by omega
  have hab := HAB.out
  have HR0 : Hid (V4.rowIs w.heap.size 52 4 (fun i => (#[.bool false, .string ⟨#[]⟩, .int .i64 0, .int .i64 0] : Array Value).getD i undef) ∧ Below w.heap.size w V4) := ⟨R0, b4⟩
  clear r1 r0 q1 q0 b2 s2 b3 hw3 HC R1 R0 b4
  go_wp2
  clear hV4 d1 d2 g1 g2 hab HAB
  first
  | go_region_with ((first
      | (go_at_call_of 52 sA; refine (HA.out _).mono ?_; rintro eA wA ⟨rfl, hbA⟩; have pc0 := (hbA.cell (p := ⟨w.heap.size + 1, 0, none⟩) l1).trans c0; have pc1 := (hbA.cell (p := ⟨w.heap.size + 1, 1, none⟩) l1).trans c1; have pc2 := (hbA.cell (p := ⟨w.heap.size + 1, 2, none⟩) l1).trans c2; have pc3 := (hbA.cell (p := ⟨w.heap.size + 1, 3, none⟩) l1).trans c3; have pz0 := (hbA.cell (p := ⟨w.heap.size, 0, none⟩) l0).trans z0; have pz1' := (hbA.cell (p := ⟨w.heap.size, 1, none⟩) l0).trans z1'; have pz2' := (hbA.cell (p := ⟨w.heap.size, 2, none⟩) l0).trans z2'; have pz3 := (hbA.cell (p := ⟨w.heap.size, 3, none⟩) l0).trans z3; have pf0 := (hbA.frozen (p := ⟨w.heap.size, 0, none⟩) l0).trans f0; have pf1 := (hbA.frozen (p := ⟨w.heap.size, 1, none⟩) l0).trans f1; have pf2 := (hbA.frozen (p := ⟨w.heap.size, 2, none⟩) l0).trans f2; have pf3 := (hbA.frozen (p := ⟨w.heap.size, 3, none⟩) l0).trans f3; have pl0 := Nat.lt_of_lt_of_le l0 hbA.size; have pl1 := Nat.lt_of_lt_of_le l1 hbA.size)
      | (go_at_call_of 52 sB; refine (HB.out _).mono ?_; rintro eB wB ⟨rfl, hbB⟩; have rc0 := (hbB.cell (p := ⟨w.heap.size + 1, 0, none⟩) pl1).trans pc0; have rc1 := (hbB.cell (p := ⟨w.heap.size + 1, 1, none⟩) pl1).trans pc1; have rc2 := (hbB.cell (p := ⟨w.heap.size + 1, 2, none⟩) pl1).trans pc2; have rc3 := (hbB.cell (p := ⟨w.heap.size + 1, 3, none⟩) pl1).trans pc3; have rz0 := (hbB.cell (p := ⟨w.heap.size, 0, none⟩) pl0).trans pz0; have rz1' := (hbB.cell (p := ⟨w.heap.size, 1, none⟩) pl0).trans pz1'; have rz2' := (hbB.cell (p := ⟨w.heap.size, 2, none⟩) pl0).trans pz2'; have rz3 := (hbB.cell (p := ⟨w.heap.size, 3, none⟩) pl0).trans pz3; have rf0 := (hbB.frozen (p := ⟨w.heap.size, 0, none⟩) pl0).trans pf0; have rf1 := (hbB.frozen (p := ⟨w.heap.size, 1, none⟩) pl0).trans pf1; have rf2 := (hbB.frozen (p := ⟨w.heap.size, 2, none⟩) pl0).trans pf2; have rf3 := (hbB.frozen (p := ⟨w.heap.size, 3, none⟩) pl0).trans pf3; have rl0 := Nat.lt_of_lt_of_le pl0 hbB.size; have rl1 := Nat.lt_of_lt_of_le pl1 hbB.size)))
  | fail
  all_goals
    obtain ⟨W, hW, bW, qW⟩ : ∃ W, four wB w.heap.size (.bool true) (.string sAB) (.int .i64 sA.size) (.int .i64 0) = W ∧ Below w.heap.size w W ∧ W.heap[w.heap.size]? = some (.cells #[.bool true, .string sAB, .int .i64 sA.size, .int .i64 0] 52 (0, 0)) := by
      have hbb : Below V4.heap.size V4 wB := (((Below.refl _ _).drew).trans hbA).trans (hbB.mono hbA.size)
      obtain ⟨R0, b4⟩ := HR0.out
      exact ⟨_, rfl, four_below (below_chain b4 hbb (Nat.le_refl _)) (Nat.le_refl _), four_row (R0.of_block (hbb.block _ l0))⟩
    have hW' : (((wB.setCell ⟨w.heap.size, 0, none⟩ (.bool true)).setCell ⟨w.heap.size, 1, none⟩ (.string sAB)).setCell ⟨w.heap.size, 2, none⟩ (.int .i64 sA.size)).setCell ⟨w.heap.size, 3, none⟩ (.int .i64 0) = W := hW
    rw [hW']
    have hld : (loadVar 52 ⟨w.heap.size, 0, none⟩).run Tryz.prog W = .ok (.agg #[.bool true, .string sAB, .int .i64 sA.size, .int .i64 0]) W :=
      run_loadVar_row _ _ 52 52 _ (0, 0) _ qW Tryz.underlying52 rfl sizeNum
    go_wp2
    refine bodyPost_ret (v := .tuple #[.agg #[.bool true, .string sAB, .int .i64 sA.size, .int .i64 0], .bool true]) ?_ rfl ⟨rfl, bW⟩
    simp [results, Tryz.results22, asAddr, Act.put, hld]
end Ty
end Go.Proofs.YtbnmjmlcedkoaabGreatDoor
