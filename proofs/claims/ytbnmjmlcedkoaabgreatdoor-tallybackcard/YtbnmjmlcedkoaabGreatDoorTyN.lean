import Derived.Test.YtbnmjmlcedkoaabGreatDoorTyGb
import Derived.Test.YtbnmjmlcedkoaabGreatDoorTyB
namespace Go.Proofs.YtbnmjmlcedkoaabGreatDoor
namespace Ty
open Go.RowKit
set_option linter.unusedVariables false
def SMid (w wr : World) (A y : Int) (k : Nat) : Prop :=
  Below w.heap.size w wr ∧ wr.rowIs w.heap.size 25 6 (fun i => .int .u64 (wd A i)) ∧ wr.rowIs (w.heap.size + 1) 25 6 (fun i => .int .u64 (if i < k then wd (A * y) i else 0))
theorem sm_start (w : World) (A y : Int) : SMid w ((w.alloc (.cells (sm A) 25)).alloc (.cells (sm 0) 25)) A y 0 := by
  obtain ⟨h1, h2⟩ := heap_two w (.cells (sm A) 25) (.cells (sm 0) 25)
  refine ⟨((Below.refl _ _).alloc (Nat.le_refl _) _).alloc (by simp) _, row_sm h1, (row_sm h2).congr (fun i hi => by rw [zero_wd]; simp)⟩
theorem sm_step {w wr : World} {A y : Int} {k : Nat} (hm : SMid w wr A y k) (m : Nat) : SMid w ((wr.drewN m).setCell ⟨w.heap.size + 1, k, none⟩ (.int .u64 (wd (A * y) k))) A y (k + 1) := by
  obtain ⟨b1, r0', r1'⟩ := hm
  have r0 : (wr.drewN m).rowIs w.heap.size 25 6 (fun i => .int .u64 (wd A i)) := r0'.of_block rfl
  have r1 : (wr.drewN m).rowIs (w.heap.size + 1) 25 6 (fun i => .int .u64 (if i < k then wd (A * y) i else 0)) := r1'.of_block rfl
  refine ⟨(below_drewN b1 m).setCell (by show w.heap.size ≤ w.heap.size + 1; omega) _, r0.setOther (by show w.heap.size ≠ w.heap.size + 1; omega) _, (r1.set k _).congr (fun i hi => ?_)⟩
  by_cases e : i = k
  · subst e; simp
  · simp only [e, if_false]
    by_cases h : i < k
    · rw [if_pos h, if_pos (by omega)]
    · rw [if_neg h, if_neg (by omega)]
set_option maxHeartbeats 800000 in
theorem scaled_any (A y : Int) (hy0 : 0 ≤ y) (hy : y < 18446744073709551616) (w : World) :
    Calls Tryz.prog 39 #[.agg (sm A), .int .u64 y] w fun e w' => e = .returned (.tuple #[.agg (sm (A * y)), .int .u64 (cm A y 6)]) ∧ Below w.heap.size w w' := by
  have h0 := sm_start w A y
  rw [← zeros_sm] at h0
  generalize hsa : sm A = ca at *
  go_enter Tryz.func39, Tryz.ntmps39
  go_wp2_with (fail)
  go_loopw [5, 10] (fun c i wr => ∃ k : Nat, k ≤ 6 ∧ i = .int .i64 k ∧ c = .int .u64 (cm A y k) ∧ SMid w wr A y k) (fun _ i _ => 6 - (intOf i).toNat)
  case atStart => exact ⟨0, by omega, rfl, by rw [cm_zero], h0⟩
  case round =>
    clear h0 hsa
    obtain ⟨k, hk, rfl, rfl, hm⟩ := hrel
    by_cases hlt : k < 6
    · have HM : Hid (∀ m, SMid w ((wr.drewN m).setCell ⟨w.heap.size + 1, k, none⟩ (.int .u64 (wd (A * y) k))) A y (k + 1)) := sm_step hm
      obtain ⟨b1, r0, r1⟩ := hm
      have c0 := r0.cell hlt
      have c1 := r1.cell hlt
      have f1 := r1.frozen k
      have hx := wd_b A k
      have hc := cm_b A y k hy0 hy
      have hS := mul_step A y k
      have hcn := cm_b A y (k + 1) hy0 hy
      clear r0 r1 b1
      generalize wd A k = x at *
      generalize cm A y k = c at *
      generalize wd (A * y) k = p at *
      generalize hd0 : cm A y (k + 1) = d at *
      have HD : Hid (cm A y (k + 1) = d) := hd0
      clear hd0
      have hA := fun w' => add64 (x * y % 18446744073709551616) c 0 (by omega) hc.1 (by omega) (by omega) w'
      have e1 : (x * y % 18446744073709551616 + c + 0) % 18446744073709551616 = p := by omega
      have e2 : x * y / 18446744073709551616 + (x * y % 18446744073709551616 + c + 0) / 18446744073709551616 = d := by omega
      have HE : Hid ((x * y % 18446744073709551616 + c + 0) % 18446744073709551616 = p ∧ x * y / 18446744073709551616 + (x * y % 18446744073709551616 + c + 0) / 18446744073709551616 = d) := ⟨e1, e2⟩
      clear e1 e2 hS
      go_wp2_with (fail)
      refine (mul64_any x y hx.1 hx.2 hy0 hy _).mono ?_
      rintro e9 w9 ⟨rfl, hw9⟩
      subst w9
      have p1 : 0 ≤ x * y / 18446744073709551616 := Int.ediv_nonneg (Int.mul_nonneg hx.1 hy0) (by omega)
      generalize x * y / 18446744073709551616 = hi at *
      generalize x * y % 18446744073709551616 = lo at *
      rw [HE.out.1] at hA
      generalize (lo + c + 0) / 18446744073709551616 = q at *
      have hd : hi + q = d := HE.out.2
      have hq : Hid (IntKind.u64.wrap (hi + q) = d) := by show _ = _; rw [IntKind.wrap_u64, hd]; omega
      clear hd HE
      go_wp2
      exact ⟨⟨k + 1, by omega, by go_num, by rw [hq.out, HD.out], HM.out 0⟩, by simp [intOf]; omega⟩
    · obtain rfl : k = 6 := by omega
      obtain ⟨b1, r0, r1⟩ := hm
      have q1 := sm_row (N := A * y) (r1.congr (fun i hi => by rw [if_pos hi]))
      clear r0 r1
      have hone := sm_one (A * y)
      have q2 := setRow_heap wr (w.heap.size + 1) _ (sm (A * y)) 25 (0, 0) q1
      have hbel := below_setRow (w.heap.size + 1) (sm (A * y)) b1 (by omega)
      have hld2 : (loadVar 25 ⟨w.heap.size + 1, 0, none⟩).run Tryz.prog (wr.setRow (w.heap.size + 1) (sm (A * y))) = .ok (.agg (sm (A * y))) (wr.setRow (w.heap.size + 1) (sm (A * y))) :=
        run_loadVar_row _ _ 25 25 _ (0, 0) _ q2 Tryz.underlying25 rfl sizeSum
      go_wp2_with (first
        | (refine wpList_load6 25 _ Tryz.underlying25 sizeSum rfl _ rfl (w.heap.size + 1) (sm (A * y)) rfl rfl q1 ?_)
        | (refine wpList_store6 25 sizeSum rfl _ _ rfl (w.heap.size + 1) (sm (A * y)) _ rfl rfl rfl rfl hone q1 ?_))
      refine bodyPost_ret (v := .tuple #[.agg (sm (A * y)), .int .u64 (cm A y 6)]) ?_ rfl ⟨rfl, hbel⟩
      simp [results, Tryz.results39, asAddr, hld2]
end Ty
end Go.Proofs.YtbnmjmlcedkoaabGreatDoor
