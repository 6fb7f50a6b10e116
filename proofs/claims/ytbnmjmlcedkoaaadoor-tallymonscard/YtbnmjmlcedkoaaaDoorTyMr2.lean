import Derived.Test.YtbnmjmlcedkoaaaDoorTyMd
namespace Go.Proofs.YtbnmjmlcedkoaaaDoor
namespace Ty
open Go.RowKit
set_option linter.unusedVariables false
set_option maxHeartbeats 1600000 in
theorem rmon_3 (f : Nat → Int) (k : Nat) (y : Int) (hk : k < 8) (h0 : ∀ i, 0 ≤ f i ∧ f i < 18446744073709551616) (y0 : 0 ≤ y) (y1 : y < 18446744073709551616) (w : World) :
    Calls Tryd.prog 9 #[.int .i64 3, .agg (st f), .int .i64 k, .int .u64 y] w fun e w' => e = .returned (.agg (st (up1 f k (if wrap64 y < wrap64 (f k) then y else f k)))) ∧ Below w.heap.size w w' := by
  obtain ⟨v, hv, c0, f0, HF0⟩ := mon_frame w f k hk
  have HF : Hid (∀ x, Fin w v f k x) := HF0
  obtain ⟨z0, z1⟩ := h0 k
  clear HF0 h0
  generalize hsa : st f = ca at *
  generalize hx : f k = x at *
  have hwx := wrap_back x z0 z1
  have hwy := wrap_back y y0 y1
  by_cases h : wrap64 y < wrap64 x
  · go_enter Tryd.func9, Tryd.ntmps9
    go_wp2_with (first
      | (refine wpList_load8 33 _ Tryd.underlying33 sizeState rfl _ rfl w.heap.size _ rfl rfl (HF.out (y)).q0 ?_)
      | (refine wpList_store8 33 sizeState rfl _ _ rfl (w.heap.size + 1) _ _ rfl rfl rfl rfl (st_one _) (HF.out (y)).q1 ?_))
    have hld := (HF.out (y)).ld
    refine bodyPost_ret (v := .agg (st (up1 f k (y)))) ?_ rfl ⟨by first | rfl | rw [if_pos (by omega)], (HF.out (y)).bel⟩
    simp [results, Tryd.results9, asAddr, hld]
  · go_enter Tryd.func9, Tryd.ntmps9
    go_wp2_with (first
      | (refine wpList_load8 33 _ Tryd.underlying33 sizeState rfl _ rfl w.heap.size _ rfl rfl (HF.out (x)).q0 ?_)
      | (refine wpList_store8 33 sizeState rfl _ _ rfl (w.heap.size + 1) _ _ rfl rfl rfl rfl (st_one _) (HF.out (x)).q1 ?_))
    have hld := (HF.out (x)).ld
    refine bodyPost_ret (v := .agg (st (up1 f k (x)))) ?_ rfl ⟨by first | rfl | rw [if_neg (by omega)], (HF.out (x)).bel⟩
    simp [results, Tryd.results9, asAddr, hld]
set_option maxHeartbeats 1600000 in
theorem rmon_4 (f : Nat → Int) (k : Nat) (y : Int) (hk : k < 8) (h0 : ∀ i, 0 ≤ f i ∧ f i < 18446744073709551616) (y0 : 0 ≤ y) (y1 : y < 18446744073709551616) (w : World) :
    Calls Tryd.prog 9 #[.int .i64 4, .agg (st f), .int .i64 k, .int .u64 y] w fun e w' => e = .returned (.agg (st (up1 f k (if wrap64 (f k) < wrap64 y then y else f k)))) ∧ Below w.heap.size w w' := by
  obtain ⟨v, hv, c0, f0, HF0⟩ := mon_frame w f k hk
  have HF : Hid (∀ x, Fin w v f k x) := HF0
  obtain ⟨z0, z1⟩ := h0 k
  clear HF0 h0
  generalize hsa : st f = ca at *
  generalize hx : f k = x at *
  have hwx := wrap_back x z0 z1
  have hwy := wrap_back y y0 y1
  by_cases h : wrap64 x < wrap64 y
  · go_enter Tryd.func9, Tryd.ntmps9
    go_wp2_with (first
      | (refine wpList_load8 33 _ Tryd.underlying33 sizeState rfl _ rfl w.heap.size _ rfl rfl (HF.out (y)).q0 ?_)
      | (refine wpList_store8 33 sizeState rfl _ _ rfl (w.heap.size + 1) _ _ rfl rfl rfl rfl (st_one _) (HF.out (y)).q1 ?_))
    have hld := (HF.out (y)).ld
    refine bodyPost_ret (v := .agg (st (up1 f k (y)))) ?_ rfl ⟨by first | rfl | rw [if_pos (by omega)], (HF.out (y)).bel⟩
    simp [results, Tryd.results9, asAddr, hld]
  · go_enter Tryd.func9, Tryd.ntmps9
    go_wp2_with (first
      | (refine wpList_load8 33 _ Tryd.underlying33 sizeState rfl _ rfl w.heap.size _ rfl rfl (HF.out (x)).q0 ?_)
      | (refine wpList_store8 33 sizeState rfl _ _ rfl (w.heap.size + 1) _ _ rfl rfl rfl rfl (st_one _) (HF.out (x)).q1 ?_))
    have hld := (HF.out (x)).ld
    refine bodyPost_ret (v := .agg (st (up1 f k (x)))) ?_ rfl ⟨by first | rfl | rw [if_neg (by omega)], (HF.out (x)).bel⟩
    simp [results, Tryd.results9, asAddr, hld]
end Ty
end Go.Proofs.YtbnmjmlcedkoaaaDoor
