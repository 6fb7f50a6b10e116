import Derived.Test.YtipnlcnikpngcaaDoorTyMb
namespace Go.Proofs.YtipnlcnikpngcaaDoor
namespace Ty
open Go.RowKit
set_option linter.unusedVariables false
theorem two_states (w : World) (f : Nat → Int) : ∃ v, (w.alloc (.cells (st f) 41)).alloc (.cells #[.int .u64 0, .int .u64 0, .int .u64 0, .int .u64 0, .int .u64 0, .int .u64 0, .int .u64 0, .int .u64 0] 41) = v ∧ Below w.heap.size w v ∧ v.heap.size = w.heap.size + 1 + 1 ∧ v.heap[w.heap.size]? = some (.cells (st f) 41 (0, 0)) ∧ v.heap[w.heap.size + 1]? = some (.cells (st (fun _ => 0)) 41 (0, 0)) := by
  obtain ⟨h1, h2⟩ := heap_two w (.cells (st f) 41) (.cells (st (fun _ => 0)) 41)
  exact ⟨_, rfl, ((Below.refl _ _).alloc (Nat.le_refl _) _).alloc (by simp) _, by simp, h1, h2⟩
set_option maxHeartbeats 800000 in
theorem mon1 (f : Nat → Int) (k y : Int) (w : World) :
    Calls Tryd.prog 34 #[.agg (st f), .int .i64 k, .int .u64 y] w fun e w' => e = .returned (.agg (st f)) ∧ Below w.heap.size w w' := by
  obtain ⟨v, hv, hb, hs, h0, h1⟩ := two_states w f
  have hbel := below_setRow (w.heap.size + 1) (st f) hb (by omega)
  have hld : (loadVar 41 ⟨w.heap.size + 1, 0, none⟩).run Tryd.prog (v.setRow (w.heap.size + 1) (st f)) = .ok (.agg (st f)) (v.setRow (w.heap.size + 1) (st f)) :=
    run_loadVar_row _ _ 41 41 _ (0, 0) _ (setRow_heap v (w.heap.size + 1) _ _ 41 (0, 0) h1) Tryd.underlying41 rfl sizeState
  have hone := st_one f
  have hsz : (st f).size = 8 := rfl
  generalize hsa : st f = ca at *
  go_enter Tryd.func34, Tryd.ntmps34
  go_wp2_with (first
    | (refine wpList_load8 41 _ Tryd.underlying41 sizeState rfl _ rfl w.heap.size _ rfl hsz h0 ?_)
    | (refine wpList_store8 41 sizeState rfl _ _ rfl (w.heap.size + 1) _ _ rfl rfl hsz rfl hone h1 ?_))
  refine bodyPost_ret (v := .agg ca) ?_ rfl ⟨rfl, hbel⟩
  simp [results, Tryd.results34, asAddr, Act.put, hld]
set_option maxHeartbeats 800000 in
theorem mon9 (f : Nat → Int) (k : Nat) (x y : Nat) (hk : k < 8) (hx : f k = x) (x1 : x < 18446744073709551616) (y1 : y < 18446744073709551616) (w : World) :
    Calls Tryd.prog 42 #[.agg (st f), .int .i64 k, .int .u64 y] w fun e w' => e = .returned (.agg (st (up1 f k (Nb.nmax x y 16)))) ∧ Below w.heap.size w w' := by
  obtain ⟨v, hv, c0, f0, HF0⟩ := mon_frame w f k hk
  have HF : Hid (∀ x, Fin w v f k x) := HF0
  rw [hx] at c0
  clear HF0
  generalize hsa : st f = ca at *
  go_enter Tryd.func42, Tryd.ntmps42
  go_wp2_with (first
    | (go_at_call 43; refine (nibbles_any x y x1 y1 _).mono ?_; rintro e9 w9 ⟨rfl, hw9⟩; subst w9)
    | (refine wpList_load8 41 _ Tryd.underlying41 sizeState rfl _ rfl w.heap.size _ rfl rfl (HF.out (Nb.nmax x y 16)).q0 ?_)
    | (refine wpList_store8 41 sizeState rfl _ _ rfl (w.heap.size + 1) _ _ rfl rfl rfl rfl (st_one _) (HF.out (Nb.nmax x y 16)).q1 ?_))
  have hld := (HF.out (Nb.nmax x y 16)).ld
  refine bodyPost_ret (v := .agg (st (up1 f k (Nb.nmax x y 16)))) ?_ rfl ⟨rfl, (HF.out (Nb.nmax x y 16)).bel⟩
  simp [results, Tryd.results42, asAddr, Act.put, hld]
end Ty
end Go.Proofs.YtipnlcnikpngcaaDoor
