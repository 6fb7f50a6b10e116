import Derived.Test.YtbnmjmlcedkoaaaDoorTyMd
namespace Go.Proofs.YtbnmjmlcedkoaaaDoor
namespace Ty
open Go.RowKit
set_option linter.unusedVariables false
set_option maxHeartbeats 1600000 in
theorem rmon_5 (f : Nat → Int) (k : Nat) (y : Int) (hk : k < 8) (h0 : ∀ i, 0 ≤ f i ∧ f i < 18446744073709551616) (y0 : 0 ≤ y) (y1 : y < 18446744073709551616) (w : World) :
    Calls Tryd.prog 9 #[.int .i64 5, .agg (st f), .int .i64 k, .int .u64 y] w fun e w' => e = .returned (.agg (st (up1 f k (IntKind.u64.wrap (f k + y))))) ∧ Below w.heap.size w w' := by
  obtain ⟨v, hv, c0, f0, HF0⟩ := mon_frame w f k hk
  have HF : Hid (∀ x, Fin w v f k x) := HF0
  obtain ⟨z0, z1⟩ := h0 k
  clear HF0 h0
  generalize hsa : st f = ca at *
  generalize hx : f k = x at *
  go_enter Tryd.func9, Tryd.ntmps9
  go_wp2_with (first
    | (refine wpList_load8 33 _ Tryd.underlying33 sizeState rfl _ rfl w.heap.size _ rfl rfl (HF.out (IntKind.u64.wrap (x + y))).q0 ?_)
    | (refine wpList_store8 33 sizeState rfl _ _ rfl (w.heap.size + 1) _ _ rfl rfl rfl rfl (st_one _) (HF.out (IntKind.u64.wrap (x + y))).q1 ?_))
  have hld := (HF.out (IntKind.u64.wrap (x + y))).ld
  refine bodyPost_ret (v := .agg (st (up1 f k (IntKind.u64.wrap (x + y))))) ?_ rfl ⟨rfl, (HF.out (IntKind.u64.wrap (x + y))).bel⟩
  simp [results, Tryd.results9, asAddr, Act.put, hld]
set_option maxHeartbeats 1600000 in
theorem rmon_6 (f : Nat → Int) (k : Nat) (y : Int) (hk : k < 8) (h0 : ∀ i, 0 ≤ f i ∧ f i < 18446744073709551616) (y0 : 0 ≤ y) (y1 : y < 18446744073709551616) (w : World) :
    Calls Tryd.prog 9 #[.int .i64 6, .agg (st f), .int .i64 k, .int .u64 y] w fun e w' => e = .returned (.agg (st (up1 f k (bits .and .u64 (f k) y)))) ∧ Below w.heap.size w w' := by
  obtain ⟨v, hv, c0, f0, HF0⟩ := mon_frame w f k hk
  have HF : Hid (∀ x, Fin w v f k x) := HF0
  obtain ⟨z0, z1⟩ := h0 k
  clear HF0 h0
  generalize hsa : st f = ca at *
  generalize hx : f k = x at *
  go_enter Tryd.func9, Tryd.ntmps9
  go_wp2_with (first
    | (refine wpList_load8 33 _ Tryd.underlying33 sizeState rfl _ rfl w.heap.size _ rfl rfl (HF.out (bits .and .u64 x y)).q0 ?_)
    | (refine wpList_store8 33 sizeState rfl _ _ rfl (w.heap.size + 1) _ _ rfl rfl rfl rfl (st_one _) (HF.out (bits .and .u64 x y)).q1 ?_))
  have hld := (HF.out (bits .and .u64 x y)).ld
  refine bodyPost_ret (v := .agg (st (up1 f k (bits .and .u64 x y)))) ?_ rfl ⟨rfl, (HF.out (bits .and .u64 x y)).bel⟩
  simp [results, Tryd.results9, asAddr, Act.put, hld]
set_option maxHeartbeats 1600000 in
theorem rmon_7 (f : Nat → Int) (k : Nat) (y : Int) (hk : k < 8) (h0 : ∀ i, 0 ≤ f i ∧ f i < 18446744073709551616) (y0 : 0 ≤ y) (y1 : y < 18446744073709551616) (w : World) :
    Calls Tryd.prog 9 #[.int .i64 7, .agg (st f), .int .i64 k, .int .u64 y] w fun e w' => e = .returned (.agg (st (up1 f k (bits .or .u64 (f k) y)))) ∧ Below w.heap.size w w' := by
  obtain ⟨v, hv, c0, f0, HF0⟩ := mon_frame w f k hk
  have HF : Hid (∀ x, Fin w v f k x) := HF0
  obtain ⟨z0, z1⟩ := h0 k
  clear HF0 h0
  generalize hsa : st f = ca at *
  generalize hx : f k = x at *
  go_enter Tryd.func9, Tryd.ntmps9
  go_wp2_with (first
    | (refine wpList_load8 33 _ Tryd.underlying33 sizeState rfl _ rfl w.heap.size _ rfl rfl (HF.out (bits .or .u64 x y)).q0 ?_)
    | (refine wpList_store8 33 sizeState rfl _ _ rfl (w.heap.size + 1) _ _ rfl rfl rfl rfl (st_one _) (HF.out (bits .or .u64 x y)).q1 ?_))
  have hld := (HF.out (bits .or .u64 x y)).ld
  refine bodyPost_ret (v := .agg (st (up1 f k (bits .or .u64 x y)))) ?_ rfl ⟨rfl, (HF.out (bits .or .u64 x y)).bel⟩
  simp [results, Tryd.results9, asAddr, Act.put, hld]
set_option maxHeartbeats 1600000 in
theorem rmon_8 (f : Nat → Int) (k x y : Nat) (hk : k < 8) (hx : f k = x) (hx1 : x < 18446744073709551616) (hy1 : y < 18446744073709551616) (w : World) :
    Calls Tryd.prog 9 #[.int .i64 8, .agg (st f), .int .i64 k, .int .u64 y] w fun e w' => e = .returned (.agg (st (up1 f k (Nb.nmax x y 16)))) ∧ Below w.heap.size w w' := by
  obtain ⟨v, hv, c0, f0, HF0⟩ := mon_frame w f k hk
  have HF : Hid (∀ x, Fin w v f k x) := HF0
  rw [hx] at c0
  clear HF0
  generalize hsa : st f = ca at *
  go_enter Tryd.func9, Tryd.ntmps9
  go_wp2_with (first
    | (go_at_call 37; refine (rnibbles_any x y hx1 hy1 _).mono ?_; rintro e9 w9 ⟨rfl, hw9⟩; subst w9)
    | (refine wpList_load8 33 _ Tryd.underlying33 sizeState rfl _ rfl w.heap.size _ rfl rfl (HF.out (Nb.nmax x y 16)).q0 ?_)
    | (refine wpList_store8 33 sizeState rfl _ _ rfl (w.heap.size + 1) _ _ rfl rfl rfl rfl (st_one _) (HF.out (Nb.nmax x y 16)).q1 ?_))
  have hld := (HF.out (Nb.nmax x y 16)).ld
  refine bodyPost_ret (v := .agg (st (up1 f k (Nb.nmax x y 16)))) ?_ rfl ⟨rfl, (HF.out (Nb.nmax x y 16)).bel⟩
  simp [results, Tryd.results9, asAddr, Act.put, hld]
end Ty
end Go.Proofs.YtbnmjmlcedkoaaaDoor
