import Derived.Test.YtbnmjmlcedkoaaaDoorTyMc
import Derived.Test.YtbnmjmlcedkoaaaDoorTySix
import Derived.Laws.CopyRow
namespace Go.Proofs.YtbnmjmlcedkoaaaDoor
namespace Ty
open Go.RowKit
set_option linter.unusedVariables false
/-- Six words turned, from k on. -/
def upS (f : Nat → Int) (k : Nat) (M : Int) : Nat → Int := fun i => if k ≤ i ∧ i < k + 6 then wd M (i - k) else f i
theorem fresh_sumM {W : World} (t : TypeId) (N : Int) : ∃ V, (W.alloc (.cells #[.int .u64 0, .int .u64 0, .int .u64 0, .int .u64 0, .int .u64 0, .int .u64 0] t)).setRow W.heap.size (sm N) = V ∧ Below W.heap.size W V ∧ V.heap.size = W.heap.size + 1 ∧ V.heap[W.heap.size]? = some (.cells (sm N) t (0, 0)) := by
  refine ⟨_, rfl, below_setRow _ _ ((Below.refl _ _).alloc (Nat.le_refl _) _) (Nat.le_refl _), by simp, ?_⟩
  exact setRow_heap _ W.heap.size _ _ t (0, 0) (heap_alloc_last W _)
theorem tab_kept {w w' : World} (h : Cl.TabAt w) (hb : Below w.heap.size w w') : Cl.TabAt w' := fun i hi => (hb.cell (p := ⟨1, i, none⟩) (World.block_lt_of_cell? w _ (h i hi))).trans (h i hi)
theorem arr_at (g k c : Nat) (w : World) : (Instr.arrayAt 26 (.slice (some ⟨g, k, none⟩) 6 c)).run Tryd.prog w = .ok (.pointer (some ⟨g, k, none⟩)) w := by
  simp [Instr.arrayAt, run_underlying Tryd.underlying26]
theorem size64 : (Tryd.prog.info? 22).map (·.size) = some 1 := by kernel_rfl
set_option maxHeartbeats 1600000 in
theorem mon10_0 (f : Nat → Int) (y N : Int) (hN : ∀ i, i < 6 → f (0 + i) = wd N i) (y0 : 0 ≤ y) (y1 : y < 18446744073709551616) (w : World) (ht : Cl.TabAt w) :
    Calls Tryd.prog 36 #[.agg (st f), .int .i64 0, .int .u64 y] w fun e w' => e = .returned (.agg (st (upS f 0 (pt N (y % 4294967296))))) ∧ Below w.heap.size w w' := by
  obtain ⟨v, hv, hb, hs, h0, h1⟩ := two_states w f
  have HR : Hid (v.rowIs w.heap.size 33 8 (fun i => .int .u64 (f i))) := row_st h0
  have c0 := HR.out.cell (show 0 < 8 by omega)
  have c1 := HR.out.cell (show 1 < 8 by omega)
  have c2 := HR.out.cell (show 2 < 8 by omega)
  have c3 := HR.out.cell (show 3 < 8 by omega)
  have c4 := HR.out.cell (show 4 < 8 by omega)
  have c5 := HR.out.cell (show 5 < 8 by omega)
  have c6 := HR.out.cell (show 6 < 8 by omega)
  have c7 := HR.out.cell (show 7 < 8 by omega)
  have har := arr_at w.heap.size 0 8
  have HP : Hid (∀ w, Cl.TabAt w → Calls Tryd.prog 6 #[.agg #[.int .u64 (f 0), .int .u64 (f 1), .int .u64 (f 2), .int .u64 (f 3), .int .u64 (f 4), .int .u64 (f 5)], .int .u32 (y % 4294967296)] w fun e w' => e = .returned (.agg (sm (pt N (y % 4294967296)))) ∧ Below w.heap.size w w') := by
    intro w ht
    have h := put_any N (y % 4294967296) (by omega) (by omega) w ht
    have e : sm N = #[.int .u64 (f 0), .int .u64 (f 1), .int .u64 (f 2), .int .u64 (f 3), .int .u64 (f 4), .int .u64 (f 5)] := by
      unfold sm
      rw [← hN 0 (by omega), ← hN 1 (by omega), ← hN 2 (by omega), ← hN 3 (by omega), ← hN 4 (by omega), ← hN 5 (by omega)]
    rwa [e] at h
  have htv : Cl.TabAt v := tab_kept ht hb
  generalize pt N (y % 4294967296) = M at *
  have hoM := sm_one M
  have HST : Hid (((st f).toList.take 0 ++ (sm M).toList ++ (st f).toList.drop (0 + 6)).toArray = st (upS f 0 M)) := by show _ = _; simp [st, sm, upS]
  have hone := st_one (upS f 0 M)
  have hcs : (st (upS f 0 M)).size = 8 := rfl
  have HSF : Hid ((st f).size = 8) := rfl
  generalize st (upS f 0 M) = cb at *
  clear hN ht
  generalize hsa : st f = ca at *
  go_enter Tryd.func36, Tryd.ntmps36
  go_wp2_with (first
    | (go_at_call 6; refine (HP.out _ htv).mono ?_; rintro e7 w7 ⟨rfl, hw7⟩; obtain ⟨w8, hv8, hb8, hs8, q8⟩ := fresh_sumM (W := w7) 26 M; have hal7 := heap_alloc_last w7 (.cells #[.int .u64 0, .int .u64 0, .int .u64 0, .int .u64 0, .int .u64 0, .int .u64 0] 26))
    | (refine wpList_store6 26 sizeSum rfl _ _ rfl w7.heap.size (sm M) _ rfl rfl rfl rfl hoM hal7 ?_; rw [hv8]))
  dsimp only [Act.put]
  have hs7 := hw7.size
  have B8 : Below v.heap.size v w8 := (hw7.trans (hb8.mono hs7))
  have R8 := (B8.block _ (by omega)).trans h0
  have Z8 := (B8.block _ (by omega)).trans h1
  have BW : Below w.heap.size w w8 := hb.trans (B8.mono (by omega))
  have hcp : (Builtin.copy_ #[66, 66] 3 #[.slice (some ⟨w.heap.size, 0, none⟩) 8 8, .slice (some ⟨w7.heap.size, 0, none⟩) 6 6]).run Tryd.prog w8.drew = .ok (.int .i64 6) (w8.drew.setRow w.heap.size cb) := by
    have h := run_copy_row (P := Tryd.prog) w8.drew 66 66 3 22 w.heap.size 0 8 8 ⟨w7.heap.size, 0, none⟩ 6 6 ca 33 (sm M).toList Tryd.underlying66 size64 R8 rfl (fun j v hj => by
      have hj6 : j < 6 := by
        rcases Nat.lt_or_ge j 6 with h | h
        · exact h
        · rw [List.getElem?_eq_none (show (sm M).toList.length ≤ j from h)] at hj; cases hj
      have hr := (row_sm q8).cell hj6
      rw [Array.getElem?_toList, sm_get M j hj6] at hj
      rw [show (⟨w7.heap.size, 0, none⟩ : Addr).add j = ⟨w7.heap.size, j, none⟩ by unfold Addr.add; split <;> simp_all]
      exact hr.trans hj) (by rw [HSF.out]; show 0 + 6 ≤ 8; omega) (fun v hv => by
      have := Array.all_eq_true_iff_forall_mem.mp hoM v (by simpa using hv)
      exact this)
    rw [show (sm M).toList.length = 6 from rfl, HST.out] at h
    exact h
  have q1 := setRow_heap w8.drew w.heap.size _ cb 33 (0, 0) R8
  have q2 : (w8.drew.setRow w.heap.size cb).heap[w.heap.size + 1]? = some (.cells (st fun _ => 0) 33 (0, 0)) := (setRow_other w8.drew _ _ cb (by omega)).trans Z8
  have B9 : Below w.heap.size w (w8.drew.setRow w.heap.size cb) := below_setRow _ _ BW.drew (Nat.le_refl _)
  have hbel := below_setRow (w.heap.size + 1) cb B9 (by omega)
  have hld : (loadVar 33 ⟨w.heap.size + 1, 0, none⟩).run Tryd.prog ((w8.drew.setRow w.heap.size cb).setRow (w.heap.size + 1) cb) = .ok (.agg cb) ((w8.drew.setRow w.heap.size cb).setRow (w.heap.size + 1) cb) :=
    run_loadVar_row _ _ 33 33 _ (0, 0) _ (setRow_heap _ (w.heap.size + 1) _ _ 33 (0, 0) q2) Tryd.underlying33 rfl (by rw [hcs]; exact sizeState)
  clear c0 c1 c2 c3 c4 c5 c6 c7 har HP hv8 hal7 hv h0 h1 q8 hw7 hb8 R8 Z8 B8 BW B9 HST HSF HR htv hb hs hs8 hs7 hoM
  go_region_with (fail)
  go_wp2_with (first
    | (refine wpList_load8 33 _ Tryd.underlying33 sizeState rfl _ rfl w.heap.size _ rfl hcs q1 ?_)
    | (refine wpList_store8 33 sizeState rfl _ _ rfl (w.heap.size + 1) _ _ rfl rfl hcs rfl hone q2 ?_))
  refine bodyPost_ret (v := .agg cb) ?_ rfl ⟨rfl, hbel⟩
  simp [results, Tryd.results36, asAddr, Act.put, hld]
set_option maxHeartbeats 1600000 in
theorem mon10_1 (f : Nat → Int) (y N : Int) (hN : ∀ i, i < 6 → f (1 + i) = wd N i) (y0 : 0 ≤ y) (y1 : y < 18446744073709551616) (w : World) (ht : Cl.TabAt w) :
    Calls Tryd.prog 36 #[.agg (st f), .int .i64 1, .int .u64 y] w fun e w' => e = .returned (.agg (st (upS f 1 (pt N (y % 4294967296))))) ∧ Below w.heap.size w w' := by
  obtain ⟨v, hv, hb, hs, h0, h1⟩ := two_states w f
  have HR : Hid (v.rowIs w.heap.size 33 8 (fun i => .int .u64 (f i))) := row_st h0
  have c0 := HR.out.cell (show 0 < 8 by omega)
  have c1 := HR.out.cell (show 1 < 8 by omega)
  have c2 := HR.out.cell (show 2 < 8 by omega)
  have c3 := HR.out.cell (show 3 < 8 by omega)
  have c4 := HR.out.cell (show 4 < 8 by omega)
  have c5 := HR.out.cell (show 5 < 8 by omega)
  have c6 := HR.out.cell (show 6 < 8 by omega)
  have c7 := HR.out.cell (show 7 < 8 by omega)
  have har := arr_at w.heap.size 1 7
  have HP : Hid (∀ w, Cl.TabAt w → Calls Tryd.prog 6 #[.agg #[.int .u64 (f 1), .int .u64 (f 2), .int .u64 (f 3), .int .u64 (f 4), .int .u64 (f 5), .int .u64 (f 6)], .int .u32 (y % 4294967296)] w fun e w' => e = .returned (.agg (sm (pt N (y % 4294967296)))) ∧ Below w.heap.size w w') := by
    intro w ht
    have h := put_any N (y % 4294967296) (by omega) (by omega) w ht
    have e : sm N = #[.int .u64 (f 1), .int .u64 (f 2), .int .u64 (f 3), .int .u64 (f 4), .int .u64 (f 5), .int .u64 (f 6)] := by
      unfold sm
      rw [← hN 0 (by omega), ← hN 1 (by omega), ← hN 2 (by omega), ← hN 3 (by omega), ← hN 4 (by omega), ← hN 5 (by omega)]
    rwa [e] at h
  have htv : Cl.TabAt v := tab_kept ht hb
  generalize pt N (y % 4294967296) = M at *
  have hoM := sm_one M
  have HST : Hid (((st f).toList.take 1 ++ (sm M).toList ++ (st f).toList.drop (1 + 6)).toArray = st (upS f 1 M)) := by show _ = _; simp [st, sm, upS]
  have hone := st_one (upS f 1 M)
  have hcs : (st (upS f 1 M)).size = 8 := rfl
  have HSF : Hid ((st f).size = 8) := rfl
  generalize st (upS f 1 M) = cb at *
  clear hN ht
  generalize hsa : st f = ca at *
  go_enter Tryd.func36, Tryd.ntmps36
  go_wp2_with (first
    | (go_at_call 6; refine (HP.out _ htv).mono ?_; rintro e7 w7 ⟨rfl, hw7⟩; obtain ⟨w8, hv8, hb8, hs8, q8⟩ := fresh_sumM (W := w7) 26 M; have hal7 := heap_alloc_last w7 (.cells #[.int .u64 0, .int .u64 0, .int .u64 0, .int .u64 0, .int .u64 0, .int .u64 0] 26))
    | (refine wpList_store6 26 sizeSum rfl _ _ rfl w7.heap.size (sm M) _ rfl rfl rfl rfl hoM hal7 ?_; rw [hv8]))
  dsimp only [Act.put]
  have hs7 := hw7.size
  have B8 : Below v.heap.size v w8 := (hw7.trans (hb8.mono hs7))
  have R8 := (B8.block _ (by omega)).trans h0
  have Z8 := (B8.block _ (by omega)).trans h1
  have BW : Below w.heap.size w w8 := hb.trans (B8.mono (by omega))
  have hcp : (Builtin.copy_ #[66, 66] 3 #[.slice (some ⟨w.heap.size, 1, none⟩) 7 7, .slice (some ⟨w7.heap.size, 0, none⟩) 6 6]).run Tryd.prog w8.drew = .ok (.int .i64 6) (w8.drew.setRow w.heap.size cb) := by
    have h := run_copy_row (P := Tryd.prog) w8.drew 66 66 3 22 w.heap.size 1 7 7 ⟨w7.heap.size, 0, none⟩ 6 6 ca 33 (sm M).toList Tryd.underlying66 size64 R8 rfl (fun j v hj => by
      have hj6 : j < 6 := by
        rcases Nat.lt_or_ge j 6 with h | h
        · exact h
        · rw [List.getElem?_eq_none (show (sm M).toList.length ≤ j from h)] at hj; cases hj
      have hr := (row_sm q8).cell hj6
      rw [Array.getElem?_toList, sm_get M j hj6] at hj
      rw [show (⟨w7.heap.size, 0, none⟩ : Addr).add j = ⟨w7.heap.size, j, none⟩ by unfold Addr.add; split <;> simp_all]
      exact hr.trans hj) (by rw [HSF.out]; show 1 + 6 ≤ 8; omega) (fun v hv => by
      have := Array.all_eq_true_iff_forall_mem.mp hoM v (by simpa using hv)
      exact this)
    rw [show (sm M).toList.length = 6 from rfl, HST.out] at h
    exact h
  have q1 := setRow_heap w8.drew w.heap.size _ cb 33 (0, 0) R8
  have q2 : (w8.drew.setRow w.heap.size cb).heap[w.heap.size + 1]? = some (.cells (st fun _ => 0) 33 (0, 0)) := (setRow_other w8.drew _ _ cb (by omega)).trans Z8
  have B9 : Below w.heap.size w (w8.drew.setRow w.heap.size cb) := below_setRow _ _ BW.drew (Nat.le_refl _)
  have hbel := below_setRow (w.heap.size + 1) cb B9 (by omega)
  have hld : (loadVar 33 ⟨w.heap.size + 1, 0, none⟩).run Tryd.prog ((w8.drew.setRow w.heap.size cb).setRow (w.heap.size + 1) cb) = .ok (.agg cb) ((w8.drew.setRow w.heap.size cb).setRow (w.heap.size + 1) cb) :=
    run_loadVar_row _ _ 33 33 _ (0, 0) _ (setRow_heap _ (w.heap.size + 1) _ _ 33 (0, 0) q2) Tryd.underlying33 rfl (by rw [hcs]; exact sizeState)
  clear c0 c1 c2 c3 c4 c5 c6 c7 har HP hv8 hal7 hv h0 h1 q8 hw7 hb8 R8 Z8 B8 BW B9 HST HSF HR htv hb hs hs8 hs7 hoM
  go_region_with (fail)
  go_wp2_with (first
    | (refine wpList_load8 33 _ Tryd.underlying33 sizeState rfl _ rfl w.heap.size _ rfl hcs q1 ?_)
    | (refine wpList_store8 33 sizeState rfl _ _ rfl (w.heap.size + 1) _ _ rfl rfl hcs rfl hone q2 ?_))
  refine bodyPost_ret (v := .agg cb) ?_ rfl ⟨rfl, hbel⟩
  simp [results, Tryd.results36, asAddr, Act.put, hld]
set_option maxHeartbeats 1600000 in
theorem mon10_2 (f : Nat → Int) (y N : Int) (hN : ∀ i, i < 6 → f (2 + i) = wd N i) (y0 : 0 ≤ y) (y1 : y < 18446744073709551616) (w : World) (ht : Cl.TabAt w) :
    Calls Tryd.prog 36 #[.agg (st f), .int .i64 2, .int .u64 y] w fun e w' => e = .returned (.agg (st (upS f 2 (pt N (y % 4294967296))))) ∧ Below w.heap.size w w' := by
  obtain ⟨v, hv, hb, hs, h0, h1⟩ := two_states w f
  have HR : Hid (v.rowIs w.heap.size 33 8 (fun i => .int .u64 (f i))) := row_st h0
  have c0 := HR.out.cell (show 0 < 8 by omega)
  have c1 := HR.out.cell (show 1 < 8 by omega)
  have c2 := HR.out.cell (show 2 < 8 by omega)
  have c3 := HR.out.cell (show 3 < 8 by omega)
  have c4 := HR.out.cell (show 4 < 8 by omega)
  have c5 := HR.out.cell (show 5 < 8 by omega)
  have c6 := HR.out.cell (show 6 < 8 by omega)
  have c7 := HR.out.cell (show 7 < 8 by omega)
  have har := arr_at w.heap.size 2 6
  have HP : Hid (∀ w, Cl.TabAt w → Calls Tryd.prog 6 #[.agg #[.int .u64 (f 2), .int .u64 (f 3), .int .u64 (f 4), .int .u64 (f 5), .int .u64 (f 6), .int .u64 (f 7)], .int .u32 (y % 4294967296)] w fun e w' => e = .returned (.agg (sm (pt N (y % 4294967296)))) ∧ Below w.heap.size w w') := by
    intro w ht
    have h := put_any N (y % 4294967296) (by omega) (by omega) w ht
    have e : sm N = #[.int .u64 (f 2), .int .u64 (f 3), .int .u64 (f 4), .int .u64 (f 5), .int .u64 (f 6), .int .u64 (f 7)] := by
      unfold sm
      rw [← hN 0 (by omega), ← hN 1 (by omega), ← hN 2 (by omega), ← hN 3 (by omega), ← hN 4 (by omega), ← hN 5 (by omega)]
    rwa [e] at h
  have htv : Cl.TabAt v := tab_kept ht hb
  generalize pt N (y % 4294967296) = M at *
  have hoM := sm_one M
  have HST : Hid (((st f).toList.take 2 ++ (sm M).toList ++ (st f).toList.drop (2 + 6)).toArray = st (upS f 2 M)) := by show _ = _; simp [st, sm, upS]
  have hone := st_one (upS f 2 M)
  have hcs : (st (upS f 2 M)).size = 8 := rfl
  have HSF : Hid ((st f).size = 8) := rfl
  generalize st (upS f 2 M) = cb at *
  clear hN ht
  generalize hsa : st f = ca at *
  go_enter Tryd.func36, Tryd.ntmps36
  go_wp2_with (first
    | (go_at_call 6; refine (HP.out _ htv).mono ?_; rintro e7 w7 ⟨rfl, hw7⟩; obtain ⟨w8, hv8, hb8, hs8, q8⟩ := fresh_sumM (W := w7) 26 M; have hal7 := heap_alloc_last w7 (.cells #[.int .u64 0, .int .u64 0, .int .u64 0, .int .u64 0, .int .u64 0, .int .u64 0] 26))
    | (refine wpList_store6 26 sizeSum rfl _ _ rfl w7.heap.size (sm M) _ rfl rfl rfl rfl hoM hal7 ?_; rw [hv8]))
  dsimp only [Act.put]
  have hs7 := hw7.size
  have B8 : Below v.heap.size v w8 := (hw7.trans (hb8.mono hs7))
  have R8 := (B8.block _ (by omega)).trans h0
  have Z8 := (B8.block _ (by omega)).trans h1
  have BW : Below w.heap.size w w8 := hb.trans (B8.mono (by omega))
  have hcp : (Builtin.copy_ #[66, 66] 3 #[.slice (some ⟨w.heap.size, 2, none⟩) 6 6, .slice (some ⟨w7.heap.size, 0, none⟩) 6 6]).run Tryd.prog w8.drew = .ok (.int .i64 6) (w8.drew.setRow w.heap.size cb) := by
    have h := run_copy_row (P := Tryd.prog) w8.drew 66 66 3 22 w.heap.size 2 6 6 ⟨w7.heap.size, 0, none⟩ 6 6 ca 33 (sm M).toList Tryd.underlying66 size64 R8 rfl (fun j v hj => by
      have hj6 : j < 6 := by
        rcases Nat.lt_or_ge j 6 with h | h
        · exact h
        · rw [List.getElem?_eq_none (show (sm M).toList.length ≤ j from h)] at hj; cases hj
      have hr := (row_sm q8).cell hj6
      rw [Array.getElem?_toList, sm_get M j hj6] at hj
      rw [show (⟨w7.heap.size, 0, none⟩ : Addr).add j = ⟨w7.heap.size, j, none⟩ by unfold Addr.add; split <;> simp_all]
      exact hr.trans hj) (by rw [HSF.out]; show 2 + 6 ≤ 8; omega) (fun v hv => by
      have := Array.all_eq_true_iff_forall_mem.mp hoM v (by simpa using hv)
      exact this)
    rw [show (sm M).toList.length = 6 from rfl, HST.out] at h
    exact h
  have q1 := setRow_heap w8.drew w.heap.size _ cb 33 (0, 0) R8
  have q2 : (w8.drew.setRow w.heap.size cb).heap[w.heap.size + 1]? = some (.cells (st fun _ => 0) 33 (0, 0)) := (setRow_other w8.drew _ _ cb (by omega)).trans Z8
  have B9 : Below w.heap.size w (w8.drew.setRow w.heap.size cb) := below_setRow _ _ BW.drew (Nat.le_refl _)
  have hbel := below_setRow (w.heap.size + 1) cb B9 (by omega)
  have hld : (loadVar 33 ⟨w.heap.size + 1, 0, none⟩).run Tryd.prog ((w8.drew.setRow w.heap.size cb).setRow (w.heap.size + 1) cb) = .ok (.agg cb) ((w8.drew.setRow w.heap.size cb).setRow (w.heap.size + 1) cb) :=
    run_loadVar_row _ _ 33 33 _ (0, 0) _ (setRow_heap _ (w.heap.size + 1) _ _ 33 (0, 0) q2) Tryd.underlying33 rfl (by rw [hcs]; exact sizeState)
  clear c0 c1 c2 c3 c4 c5 c6 c7 har HP hv8 hal7 hv h0 h1 q8 hw7 hb8 R8 Z8 B8 BW B9 HST HSF HR htv hb hs hs8 hs7 hoM
  go_region_with (fail)
  go_wp2_with (first
    | (refine wpList_load8 33 _ Tryd.underlying33 sizeState rfl _ rfl w.heap.size _ rfl hcs q1 ?_)
    | (refine wpList_store8 33 sizeState rfl _ _ rfl (w.heap.size + 1) _ _ rfl rfl hcs rfl hone q2 ?_))
  refine bodyPost_ret (v := .agg cb) ?_ rfl ⟨rfl, hbel⟩
  simp [results, Tryd.results36, asAddr, Act.put, hld]
end Ty
end Go.Proofs.YtbnmjmlcedkoaaaDoor
