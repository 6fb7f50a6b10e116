import Derived.Test.YtbnmjmlcedkoaaaDoorTyMd
namespace Go.Proofs.YtbnmjmlcedkoaaaDoor
namespace Ty
open Go.RowKit
set_option linter.unusedVariables false
set_option maxHeartbeats 1600000 in
theorem rmon_lo (f : Nat → Int) (m k y : Int) (hk : k < 0) (w : World) :
    Calls Tryd.prog 9 #[.int .i64 m, .agg (st f), .int .i64 k, .int .u64 y] w fun e w' => e = .returned (.agg (st f)) ∧ Below w.heap.size w w' := by
  obtain ⟨v, hv, hb, hs, h0, h1⟩ := two_states w f
  have hbel := below_setRow (w.heap.size + 1) (st f) hb (by omega)
  have hld : (loadVar 33 ⟨w.heap.size + 1, 0, none⟩).run Tryd.prog (v.setRow (w.heap.size + 1) (st f)) = .ok (.agg (st f)) (v.setRow (w.heap.size + 1) (st f)) :=
    run_loadVar_row _ _ 33 33 _ (0, 0) _ (setRow_heap v (w.heap.size + 1) _ _ 33 (0, 0) h1) Tryd.underlying33 rfl sizeState
  have hone := st_one f
  have hsz : (st f).size = 8 := rfl
  generalize hsa : st f = ca at *
  go_enter Tryd.func9, Tryd.ntmps9
  go_wp2_with (first
    | (refine wpList_load8 33 _ Tryd.underlying33 sizeState rfl _ rfl w.heap.size _ rfl hsz h0 ?_)
    | (refine wpList_store8 33 sizeState rfl _ _ rfl (w.heap.size + 1) _ _ rfl rfl hsz rfl hone h1 ?_))
  refine bodyPost_ret (v := .agg ca) ?_ rfl ⟨rfl, hbel⟩
  simp [results, Tryd.results9, asAddr, Act.put, hld]
set_option maxHeartbeats 1600000 in
theorem rmon_hi (f : Nat → Int) (m k y : Int) (hk : 7 < k) (w : World) :
    Calls Tryd.prog 9 #[.int .i64 m, .agg (st f), .int .i64 k, .int .u64 y] w fun e w' => e = .returned (.agg (st f)) ∧ Below w.heap.size w w' := by
  obtain ⟨v, hv, hb, hs, h0, h1⟩ := two_states w f
  have hbel := below_setRow (w.heap.size + 1) (st f) hb (by omega)
  have hld : (loadVar 33 ⟨w.heap.size + 1, 0, none⟩).run Tryd.prog (v.setRow (w.heap.size + 1) (st f)) = .ok (.agg (st f)) (v.setRow (w.heap.size + 1) (st f)) :=
    run_loadVar_row _ _ 33 33 _ (0, 0) _ (setRow_heap v (w.heap.size + 1) _ _ 33 (0, 0) h1) Tryd.underlying33 rfl sizeState
  have hone := st_one f
  have hsz : (st f).size = 8 := rfl
  generalize hsa : st f = ca at *
  go_enter Tryd.func9, Tryd.ntmps9
  go_wp2_with (first
    | (refine wpList_load8 33 _ Tryd.underlying33 sizeState rfl _ rfl w.heap.size _ rfl hsz h0 ?_)
    | (refine wpList_store8 33 sizeState rfl _ _ rfl (w.heap.size + 1) _ _ rfl rfl hsz rfl hone h1 ?_))
  refine bodyPost_ret (v := .agg ca) ?_ rfl ⟨rfl, hbel⟩
  simp [results, Tryd.results9, asAddr, Act.put, hld]
set_option maxHeartbeats 1600000 in
theorem rmon_below (f : Nat → Int) (m y : Int) (k : Nat) (hk : k < 8) (hm : m < 1) (w : World) :
    Calls Tryd.prog 9 #[.int .i64 m, .agg (st f), .int .i64 k, .int .u64 y] w fun e w' => e = .returned (.agg (st f)) ∧ Below w.heap.size w w' := by
  obtain ⟨v, hv, hb, hs, h0, h1⟩ := two_states w f
  have hbel := below_setRow (w.heap.size + 1) (st f) hb (by omega)
  have hld : (loadVar 33 ⟨w.heap.size + 1, 0, none⟩).run Tryd.prog (v.setRow (w.heap.size + 1) (st f)) = .ok (.agg (st f)) (v.setRow (w.heap.size + 1) (st f)) :=
    run_loadVar_row _ _ 33 33 _ (0, 0) _ (setRow_heap v (w.heap.size + 1) _ _ 33 (0, 0) h1) Tryd.underlying33 rfl sizeState
  have hone := st_one f
  have hsz : (st f).size = 8 := rfl
  have c0 := (row_st h0).cell hk
  generalize hsa : st f = ca at *
  go_enter Tryd.func9, Tryd.ntmps9
  go_wp2_with (first
    | (refine wpList_load8 33 _ Tryd.underlying33 sizeState rfl _ rfl w.heap.size _ rfl hsz h0 ?_)
    | (refine wpList_store8 33 sizeState rfl _ _ rfl (w.heap.size + 1) _ _ rfl rfl hsz rfl hone h1 ?_))
  refine bodyPost_ret (v := .agg ca) ?_ rfl ⟨rfl, hbel⟩
  simp [results, Tryd.results9, asAddr, Act.put, hld]
set_option maxHeartbeats 1600000 in
theorem rmon_above (f : Nat → Int) (m y : Int) (k : Nat) (hk : k < 8) (hm : 9 < m) (w : World) :
    Calls Tryd.prog 9 #[.int .i64 m, .agg (st f), .int .i64 k, .int .u64 y] w fun e w' => e = .returned (.agg (st f)) ∧ Below w.heap.size w w' := by
  obtain ⟨v, hv, hb, hs, h0, h1⟩ := two_states w f
  have hbel := below_setRow (w.heap.size + 1) (st f) hb (by omega)
  have hld : (loadVar 33 ⟨w.heap.size + 1, 0, none⟩).run Tryd.prog (v.setRow (w.heap.size + 1) (st f)) = .ok (.agg (st f)) (v.setRow (w.heap.size + 1) (st f)) :=
    run_loadVar_row _ _ 33 33 _ (0, 0) _ (setRow_heap v (w.heap.size + 1) _ _ 33 (0, 0) h1) Tryd.underlying33 rfl sizeState
  have hone := st_one f
  have hsz : (st f).size = 8 := rfl
  have c0 := (row_st h0).cell hk
  generalize hsa : st f = ca at *
  go_enter Tryd.func9, Tryd.ntmps9
  go_wp2_with (first
    | (refine wpList_load8 33 _ Tryd.underlying33 sizeState rfl _ rfl w.heap.size _ rfl hsz h0 ?_)
    | (refine wpList_store8 33 sizeState rfl _ _ rfl (w.heap.size + 1) _ _ rfl rfl hsz rfl hone h1 ?_))
  refine bodyPost_ret (v := .agg ca) ?_ rfl ⟨rfl, hbel⟩
  simp [results, Tryd.results9, asAddr, Act.put, hld]
set_option maxHeartbeats 1600000 in
theorem rmon_nine (f : Nat → Int) (y : Int) (k : Nat) (hk : k < 8) (hm : 2 < k) (w : World) :
    Calls Tryd.prog 9 #[.int .i64 9, .agg (st f), .int .i64 k, .int .u64 y] w fun e w' => e = .returned (.agg (st f)) ∧ Below w.heap.size w w' := by
  obtain ⟨v, hv, hb, hs, h0, h1⟩ := two_states w f
  have hbel := below_setRow (w.heap.size + 1) (st f) hb (by omega)
  have hld : (loadVar 33 ⟨w.heap.size + 1, 0, none⟩).run Tryd.prog (v.setRow (w.heap.size + 1) (st f)) = .ok (.agg (st f)) (v.setRow (w.heap.size + 1) (st f)) :=
    run_loadVar_row _ _ 33 33 _ (0, 0) _ (setRow_heap v (w.heap.size + 1) _ _ 33 (0, 0) h1) Tryd.underlying33 rfl sizeState
  have hone := st_one f
  have hsz : (st f).size = 8 := rfl
  have c0 := (row_st h0).cell hk
  generalize hsa : st f = ca at *
  go_enter Tryd.func9, Tryd.ntmps9
  go_wp2_with (first
    | (refine wpList_load8 33 _ Tryd.underlying33 sizeState rfl _ rfl w.heap.size _ rfl hsz h0 ?_)
    | (refine wpList_store8 33 sizeState rfl _ _ rfl (w.heap.size + 1) _ _ rfl rfl hsz rfl hone h1 ?_))
  refine bodyPost_ret (v := .agg ca) ?_ rfl ⟨rfl, hbel⟩
  simp [results, Tryd.results9, asAddr, Act.put, hld]
end Ty
end Go.Proofs.YtbnmjmlcedkoaaaDoor
