import Derived.Test.YtobhmadckoemdaaTyDx
import Derived.Test.YtobhmadckoemdaaTyCp
namespace Go.Proofs.Ytobhmadckoemdaa
namespace Ty
open Go.RowKit
set_option linter.unusedVariables false
theorem pt_step (N n : Int) (t : Nat) (h0 : 0 < n) :
    (N / 2 ^ (64 * (t + 1)) % n * 18446744073709551616 + wd N t) / n = wd (N / n) t ∧ (N / 2 ^ (64 * (t + 1)) % n * 18446744073709551616 + wd N t) % n = N / 2 ^ (64 * t) % n := by
  have hs := div_step N t
  have hw := wd_b N t
  obtain ⟨h1, h2⟩ := dv_two (N / 2 ^ (64 * (t + 1))) (wd N t) 18446744073709551616 n h0
  rw [← hs] at h1 h2
  have hm := Int.emod_nonneg (N / 2 ^ (64 * (t + 1))) (show n ≠ 0 by omega)
  have hm2 := Int.emod_lt_of_pos (N / 2 ^ (64 * (t + 1))) h0
  refine ⟨?_, h2.symm⟩
  obtain ⟨q1, q2, q3, q4⟩ := quo_b hm hm2 hw.1 hw.2
  have e : N / n / 2 ^ (64 * t) = N / 2 ^ (64 * t) / n := by
    rw [Int.ediv_ediv_of_nonneg (by omega), Int.ediv_ediv_of_nonneg (Int.le_of_lt (pw _)), Int.mul_comm]
  have e2 : wd (N / n) t = N / n / 2 ^ (64 * t) % 18446744073709551616 := rfl
  rw [e2, e, h1]
  omega
def QMid (w wr : World) (A n : Int) (i : Nat) : Prop :=
  Below w.heap.size w wr ∧ wr.rowIs w.heap.size 46 6 (fun j => .int .u64 (wd A j)) ∧ wr.rowIs (w.heap.size + 1) 46 6 (fun j => .int .u64 (if 6 ≤ j + i then wd (A / n) j else 0))
theorem qm_start (w : World) (A n : Int) : QMid w ((w.alloc (.cells (sm A) 46)).alloc (.cells (sm 0) 46)) A n 0 := by
  obtain ⟨h1, h2⟩ := heap_two w (.cells (sm A) 46) (.cells (sm 0) 46)
  refine ⟨((Below.refl _ _).alloc (Nat.le_refl _) _).alloc (by simp) _, row_sm h1, (row_sm h2).congr (fun i hi => ?_)⟩
  rw [zero_wd, if_neg (by omega)]
theorem qm_step {w wr : World} {A n : Int} {i : Nat} (hm : QMid w wr A n i) (hi : i < 6) (t : Nat) (ht : t = 5 - i) (m : Nat) : QMid w ((wr.drewN m).setCell ⟨w.heap.size + 1, t, none⟩ (.int .u64 (wd (A / n) t))) A n (i + 1) := by
  obtain ⟨b1, r0', r1'⟩ := hm
  have r0 : (wr.drewN m).rowIs w.heap.size 46 6 (fun j => .int .u64 (wd A j)) := r0'.of_block rfl
  have r1 : (wr.drewN m).rowIs (w.heap.size + 1) 46 6 (fun j => .int .u64 (if 6 ≤ j + i then wd (A / n) j else 0)) := r1'.of_block rfl
  refine ⟨(below_drewN b1 m).setCell (by show w.heap.size ≤ w.heap.size + 1; omega) _, r0.setOther (by show w.heap.size ≠ w.heap.size + 1; omega) _, (r1.set t _).congr (fun j hj => ?_)⟩
  by_cases e : j = t
  · rw [if_pos e, if_pos (by omega), e]
  · rw [if_neg e]
    by_cases h : 6 ≤ j + i
    · rw [if_pos h, if_pos (by omega)]
    · rw [if_neg h, if_neg (by omega)]
set_option maxHeartbeats 1600000 in
theorem parted_any (A n : Int) (h0 : 0 < n) (h1 : n < 18446744073709551616) (a0 : 0 ≤ A) (a1 : A < 2 ^ (64 * 6)) (w : World) :
    Calls Try.prog 36 #[.agg (sm A), .int .u64 n] w fun e w' => e = .returned (.tuple #[.agg (sm (A / n)), .int .u64 (A % n)]) ∧ Below w.heap.size w w' := by
  have hq := qm_start w A n
  rw [← zeros_sm] at hq
  generalize hsa : sm A = ca at *
  go_enter Try.func36, Try.ntmps36
  go_wp2
  go_loopw [5, 8] (fun c i wr => ∃ j : Nat, j ≤ 6 ∧ i = .int .i64 j ∧ c = .int .u64 (A / 2 ^ (64 * (6 - j)) % n) ∧ QMid w wr A n j) (fun _ i _ => 6 - (intOf i).toNat)
  case atStart => exact ⟨0, Nat.zero_le _, rfl, by rw [Int.ediv_eq_zero_of_lt a0 a1, Int.zero_emod], hq⟩
  case round =>
    clear hq hsa
    obtain ⟨j, hj, rfl, rfl, hm⟩ := hrel
    by_cases hlt : j < 6
    · obtain ⟨t, ht⟩ : ∃ t : Nat, t = 5 - j := ⟨_, rfl⟩
      have HM : Hid (∀ m, QMid w ((wr.drewN m).setCell ⟨w.heap.size + 1, t, none⟩ (.int .u64 (wd (A / n) t))) A n (j + 1)) := qm_step hm hlt t ht
      have hidx : (5 : Int) - (j : Int) = (t : Int) := by omega
      have e6 : 6 - j = t + 1 := by omega
      have e7 : 6 - (j + 1) = t := by omega
      rw [e6]
      obtain ⟨p1, p2⟩ := pt_step A n t h0
      have HN : Hid (A / 2 ^ (64 * (6 - (j + 1))) % n = A / 2 ^ (64 * t) % n) := by show _ = _; rw [e7]
      have hm0 := Int.emod_nonneg (A / 2 ^ (64 * (t + 1))) (show n ≠ 0 by omega)
      have hm1 := Int.emod_lt_of_pos (A / 2 ^ (64 * (t + 1))) h0
      obtain ⟨b1, r0, r1⟩ := hm
      have c0 := r0.cell (show t < 6 by omega)
      have c1 := r1.cell (show t < 6 by omega)
      have f1 := r1.frozen t
      have ht6 : (t : Int) < 6 := by omega
      have hwb := wd_b A t
      have HD : Hid (∀ w, Calls Try.prog 46 #[.int .u64 (A / 2 ^ (64 * (t + 1)) % n), .int .u64 (wd A t), .int .u64 n] w fun e w' => e = .returned (.tuple #[.int .u64 (wd (A / n) t), .int .u64 (A / 2 ^ (64 * t) % n)]) ∧ ∃ m, w' = w.drewN m) := fun w => by
        have h := div64_any (A / 2 ^ (64 * (t + 1)) % n) (wd A t) n hm0 hm1 h1 hwb.1 hwb.2 w
        rw [p1, p2] at h; exact h
      clear r0 r1 b1 e6 e7 ht p1 p2
      generalize A / 2 ^ (64 * (t + 1)) % n = l0 at *
      generalize A / 2 ^ (64 * t) % n = l1 at *
      generalize wd A t = x at *
      go_wp2_with (fail)
      refine (HD.out _).mono ?_
      rintro e9 w9 ⟨rfl, m, hw9⟩
      subst w9
      have c2 : (wr.drewN m).cell? ⟨w.heap.size + 1, t, none⟩ = _ := c1
      have f2 : (wr.drewN m).frozen? ⟨w.heap.size + 1, t, none⟩ = _ := f1
      clear c0 c1 f1
      go_wp2
      exact ⟨⟨j + 1, by omega, by go_num, by rw [HN.out], HM.out m⟩, by simp [intOf]; omega⟩
    · obtain rfl : j = 6 := by omega
      obtain ⟨b1, r0, r1⟩ := hm
      have q1 := sm_row (N := A / n) (r1.congr (fun i hi => by rw [if_pos (by omega)]))
      have hbel := below_setRow (w.heap.size + 1) (sm (A / n)) b1 (by omega)
      have hld : (loadVar 46 ⟨w.heap.size + 1, 0, none⟩).run Try.prog (wr.setRow (w.heap.size + 1) (sm (A / n))) = .ok (.agg (sm (A / n))) (wr.setRow (w.heap.size + 1) (sm (A / n))) :=
        run_loadVar_row _ _ 46 46 _ (0, 0) _ (setRow_heap wr (w.heap.size + 1) _ _ 46 (0, 0) q1) Try.underlying46 rfl sizeSum
      have e0 : A / 2 ^ (64 * (6 - 6)) % n = A % n := by simp
      rw [e0]
      clear e0 r0 r1
      go_wp2_with (first
        | (refine wpList_load6 46 _ Try.underlying46 sizeSum rfl _ rfl (w.heap.size + 1) (sm (A / n)) rfl rfl q1 ?_)
        | (refine wpList_store6 46 sizeSum rfl _ _ rfl (w.heap.size + 1) (sm (A / n)) (sm (A / n)) rfl rfl rfl rfl (sm_one (A / n)) q1 ?_))
      refine bodyPost_ret (v := .tuple #[.agg (sm (A / n)), .int .u64 (A % n)]) ?_ rfl ⟨rfl, hbel⟩
      simp [results, Try.results36, asAddr, hld]
end Ty
end Go.Proofs.Ytobhmadckoemdaa
