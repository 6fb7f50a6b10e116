import Derived.Test.YtipnlcnikpngcaaDoorTyMe
namespace Go.Proofs.YtipnlcnikpngcaaDoor
namespace Ty
open Go.RowKit
set_option linter.unusedVariables false
set_option maxHeartbeats 1600000 in
theorem pmon_1 (f : Nat → Int) (k : Nat) (y : Int) (hk : k < 8) (h0 : ∀ i, 0 ≤ f i ∧ f i < 18446744073709551616) (y0 : 0 ≤ y) (y1 : y < 18446744073709551616) (w : World) :
    Calls Tryd.prog 24 #[.int .i64 1, .agg (st f), .int .i64 k, .int .u64 y] w fun e w' => e = .returned (.agg (st (up1 f k (min (f k) y)))) ∧ Below w.heap.size w w' := by
  obtain ⟨v, v2, hv, hal, hv2, hs, hb2, hs2, q0, q1, q2⟩ := mon_tab w f
  have t0 := tab_cell q2 2 (.int .i64 1) rfl
  have t1 := tab_cell q2 3 (.func (.func 35) #[] #[]) rfl
  have HP : Hid (∀ w, Calls Tryd.prog 35 #[.agg (st f), .int .i64 k, .int .u64 y] w fun e w' => e = .returned (.agg (st (up1 f k (min (f k) y)))) ∧ Below w.heap.size w w') := fun w => mon2 f k y hk h0 y0 y1 w
  obtain ⟨x0, x1, x2, x3, x4, x5, x6, x7, hxA⟩ := st_open f
  obtain ⟨z0, z1, z2, z3, z4, z5, z6, z7, hxB⟩ := st_open (up1 f k (min (f k) y))
  clear q2
  rw [hxB] at HP
  rw [hxA] at HP hv q0
  rw [hxB, hxA]
  obtain ⟨⟨c0, c1, c2, c3, c4, c5, c6, c7⟩, _⟩ := k8_of q0
  have HQ : Hid (v2.heap[w.heap.size + 1]? = some (.cells #[.int .u64 0, .int .u64 0, .int .u64 0, .int .u64 0, .int .u64 0, .int .u64 0, .int .u64 0, .int .u64 0] 41 (0, 0))) := q1
  have lR : w.heap.size + 1 < v2.heap.size := by omega
  have HB2 : Hid (Below w.heap.size w v2) := hb2
  have HD : Hid (Below v2.heap.size v2 v2.drew) := (Below.refl _ _).drew
  clear q0 q1 hb2 hxA hxB h0 y0 y1
  go_enter Tryd.func24, Tryd.ntmps24
  go_wp2_with (refine wpList_store20 104 sizeTab rfl _ _ rfl (w.heap.size + 1 + 1) _ _ rfl rfl rfl rfl tab_all hal ?_; rw [hv2])
  clear hal hv hv2
  go_region_with (go_at_call 35; refine (HP.out _ ).mono ?_; rintro e9 w9 ⟨rfl, hw9⟩; have hq9 := ((HD.out.trans hw9).block _ lR).trans HQ.out; obtain ⟨⟨d0, d1, d2, d3, d4, d5, d6, d7⟩, fz⟩ := k8_of hq9; have z0f := fz 0; have z1f := fz 1; have z2f := fz 2; have z3f := fz 3; have z4f := fz 4; have z5f := fz 5; have z6f := fz 6; have z7f := fz 7)
  all_goals
    have hq := eight_sets (x0 := z0) (x1 := z1) (x2 := z2) (x3 := z3) (x4 := z4) (x5 := z5) (x6 := z6) (x7 := z7) (row_st (f := fun _ => 0) hq9)
    have hbel := sets_below8 (g := w.heap.size + 1) (x0 := z0) (x1 := z1) (x2 := z2) (x3 := z3) (x4 := z4) (x5 := z5) (x6 := z6) (x7 := z7) (HB2.out.trans ((HD.out.trans hw9).mono (by omega))) (by omega)
    have hld := run_loadVar_row _ _ 41 41 _ (0, 0) _ hq Tryd.underlying41 rfl sizeState
    clear d0 d1 d2 d3 d4 d5 d6 d7 z0f z1f z2f z3f z4f z5f z6f z7f fz c0 c1 c2 c3 c4 c5 c6 c7 t0 t1 hq9 HP
    go_wp2
    refine bodyPost_ret (v := .agg #[.int .u64 z0, .int .u64 z1, .int .u64 z2, .int .u64 z3, .int .u64 z4, .int .u64 z5, .int .u64 z6, .int .u64 z7]) ?_ rfl ⟨rfl, hbel⟩
    simp [results, Tryd.results24, asAddr, hld]
end Ty
end Go.Proofs.YtipnlcnikpngcaaDoor
