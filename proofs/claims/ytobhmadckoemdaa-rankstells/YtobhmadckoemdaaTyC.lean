import Derived.Test.YtobhmadckoemdaaTyA
import Derived.Test.YtobhmadckoemdaaTyUp
namespace Go.Proofs.Ytobhmadckoemdaa
namespace Ty
open Go.RowKit
set_option linter.unusedVariables false
def UMid (w wr : World) (A : Int) (k j : Nat) : Prop :=
  Below w.heap.size w wr ∧ wr.rowIs w.heap.size 46 6 (fun i => .int .u64 (wd A i)) ∧ wr.rowIs (w.heap.size + 1) 46 6 (fun i => .int .u64 (wd 0 i)) ∧
  wr.rowIs (w.heap.size + 1 + 1) 46 6 (fun i => .int .u64 (if i < j + k / 64 then wd (A * 2 ^ k) i else 0))
theorem um_start (w : World) (A : Int) (k : Nat) : UMid w (((w.alloc (.cells (sm A) 46)).alloc (.cells (sm 0) 46)).alloc (.cells (sm 0) 46)) A k 0 := by
  obtain ⟨h1, h2, h3⟩ := heap_three w (.cells (sm A) 46) (.cells (sm 0) 46) (.cells (sm 0) 46)
  refine ⟨(((Below.refl _ _).alloc (Nat.le_refl _) _).alloc (by simp) _).alloc (by simp; omega) _, row_sm h1, row_sm h2, (row_sm h3).congr (fun i hi => ?_)⟩
  rw [zero_wd]
  by_cases h : i < 0 + k / 64
  · rw [if_pos h, up_low A k i (by omega)]
  · rw [if_neg h]
theorem um_step {w wr : World} {A : Int} {k j : Nat} (hm : UMid w wr A k j) (m : Nat) : UMid w ((wr.drewN m).setCell ⟨w.heap.size + 1 + 1, j + k / 64, none⟩ (.int .u64 (wd (A * 2 ^ k) (j + k / 64)))) A k (j + 1) := by
  obtain ⟨b1, r0', r1', r2'⟩ := hm
  have r0 : (wr.drewN m).rowIs w.heap.size 46 6 (fun i => .int .u64 (wd A i)) := r0'.of_block rfl
  have r1 : (wr.drewN m).rowIs (w.heap.size + 1) 46 6 (fun i => .int .u64 (wd 0 i)) := r1'.of_block rfl
  have r2 : (wr.drewN m).rowIs (w.heap.size + 1 + 1) 46 6 (fun i => .int .u64 (if i < j + k / 64 then wd (A * 2 ^ k) i else 0)) := r2'.of_block rfl
  refine ⟨(below_drewN b1 m).setCell (by show w.heap.size ≤ w.heap.size + 1 + 1; omega) _, r0.setOther (by show w.heap.size ≠ w.heap.size + 1 + 1; omega) _, r1.setOther (by show w.heap.size + 1 ≠ w.heap.size + 1 + 1; omega) _, (r2.set (j + k / 64) _).congr (fun i hi => ?_)⟩
  by_cases e : i = j + k / 64
  · rw [if_pos e, if_pos (by omega), e]
  · rw [if_neg e]
    by_cases h : i < j + k / 64
    · rw [if_pos h, if_pos (by omega)]
    · rw [if_neg h, if_neg (by omega)]
set_option maxHeartbeats 800000 in
theorem up_any (A : Int) (k : Nat) (hk : k < 384) (w : World) :
    Calls Try.prog 48 #[.agg (sm A), .int .i64 k] w fun e w' => e = .returned (.agg (sm (A * 2 ^ k))) ∧ Below w.heap.size w w' := by
  have h0 := um_start w A k
  rw [← zeros_sm] at h0
  have hone := sm_one (A * 2 ^ k)
  generalize hsa : sm A = ca at *
  go_enter Try.func48, Try.ntmps48
  go_wp2
  go_loopw [8, 16] (fun c i wr => ∃ j : Nat, j + k / 64 ≤ 6 ∧ i = .int .i64 j ∧ c = .int .u64 (lo A (k % 64) j) ∧ UMid w wr A k j) (fun _ i _ => 6 - (intOf i).toNat)
  case atStart => exact ⟨0, by omega, rfl, by rw [lo_zero], h0⟩
  case round =>
    clear h0 hsa
    obtain ⟨j, hj, rfl, rfl, hm⟩ := hrel
    by_cases hlt : j + k / 64 < 6
    · have HM : Hid (∀ m, UMid w ((wr.drewN m).setCell ⟨w.heap.size + 1 + 1, j + k / 64, none⟩ (.int .u64 (wd (A * 2 ^ k) (j + k / 64)))) A k (j + 1)) := um_step hm
      have HW : Hid (bits .or .u64 (IntKind.u64.wrap (wd A j * 2 ^ (k % 64))) (lo A (k % 64) j) = wd (A * 2 ^ k) (j + k / 64)) := by
        show _ = _
        rw [IntKind.wrap_u64, Nat.add_comm j]; exact up_word A (k % 64) j (k / 64) k (Nat.mod_lt _ (by omega)) (by omega)
      have HL : Hid (wd A j / 2 ^ (64 - k % 64) = lo A (k % 64) (j + 1)) := lo_succ A (k % 64) j (Nat.mod_lt _ (by omega))
      obtain ⟨b1, r0, r1, r2⟩ := hm
      have c0 := r0.cell (show j < 6 by omega)
      have c1 := r2.cell (show j + k / 64 < 6 by omega)
      have f1 := r2.frozen (j + k / 64)
      have hwb := wd_b A j
      clear r0 r1 r2 b1 hone
      have hlt' : (j : Int) < 6 - (k : Int) / 64 := by omega
      go_wp2
      rw [HW.out, HL.out]
      exact ⟨⟨j + 1, by omega, by go_num, rfl, HM.out 0⟩, by simp [intOf]; omega⟩
    · have hjj : j = 6 - k / 64 := by omega
      have hlt' : ¬ (j : Int) < 6 - (k : Int) / 64 := by omega
      obtain ⟨b1, r0, r1, r2⟩ := hm
      have q2 := sm_row (N := A * 2 ^ k) (r2.congr (fun i hi => by rw [if_pos (by omega)]))
      have q1 := sm_row (N := 0) r1
      have hbel := below_setRow (w.heap.size + 1) (sm (A * 2 ^ k)) b1 (by omega)
      have hld : (loadVar 46 ⟨w.heap.size + 1, 0, none⟩).run Try.prog (wr.setRow (w.heap.size + 1) (sm (A * 2 ^ k))) = .ok (.agg (sm (A * 2 ^ k))) (wr.setRow (w.heap.size + 1) (sm (A * 2 ^ k))) :=
        run_loadVar_row _ _ 46 46 _ (0, 0) _ (setRow_heap wr (w.heap.size + 1) _ _ 46 (0, 0) q1) Try.underlying46 rfl sizeSum
      clear r0 r1 r2 hlt hj
      clear hjj
      go_wp2_with (first
        | (refine wpList_load6 46 _ Try.underlying46 sizeSum rfl _ rfl (w.heap.size + 1 + 1) (sm (A * 2 ^ k)) rfl rfl q2 ?_)
        | (refine wpList_store6 46 sizeSum rfl _ _ rfl (w.heap.size + 1) (sm (A * 2 ^ k)) (sm 0) rfl rfl rfl rfl hone q1 ?_))
      refine bodyPost_ret (v := .agg (sm (A * 2 ^ k))) ?_ rfl ⟨rfl, hbel⟩
      simp [results, Try.results48, asAddr, hld]
end Ty
end Go.Proofs.Ytobhmadckoemdaa
