import Derived.Test.YtobhmadckoemdaaTyPd
import Derived.Test.YtobhmadckoemdaaTyRz
import Derived.Test.YtobhmadckoemdaaTyB
namespace Go.Proofs.Ytobhmadckoemdaa
namespace Ty
open Go.RowKit
set_option linter.unusedVariables false
theorem len_two (x : Int) (h0 : 0 < x) (h1 : x < 18446744073709551616) : ∃ l : Nat, Rd.len x = l ∧ 1 ≤ l ∧ l ≤ 64 ∧ (2 : Int) ^ (l - 1) ≤ x ∧ x < 2 ^ l := by
  obtain ⟨n, rfl⟩ : ∃ n : Nat, x = n := ⟨x.toNat, by omega⟩
  have hb := Rd.log2_b n (by omega)
  have hl : Rd.len (n : Int) = ((Nat.log2 n + 1 : Nat) : Int) := by
    unfold Rd.len Rd.lg
    rw [if_neg (by omega), Int.toNat_natCast]; omega
  have hl64 := Rd.len_b (n : Int) (by omega) h1
  refine ⟨Nat.log2 n + 1, hl, by omega, by omega, ?_, ?_⟩
  · have h2 : ((2 ^ Nat.log2 n : Nat) : Int) ≤ (n : Int) := by omega
    rw [Int.natCast_pow] at h2
    exact h2
  · have h2 : (n : Int) < ((2 ^ (Nat.log2 n + 1) : Nat) : Int) := by omega
    rw [Int.natCast_pow] at h2
    exact h2
theorem word_of (N : Int) (t : Nat) (h0 : 0 ≤ N) (h1 : N < 2 ^ (64 * (t + 1))) : wd N t = N / 2 ^ (64 * t) := by
  unfold wd
  have e : (2 : Int) ^ (64 * (t + 1)) = 2 ^ (64 * t) * 18446744073709551616 := by rw [← two64, ← Int.pow_add]; congr 1
  rw [Int.emod_eq_of_lt (Int.ediv_nonneg h0 (Int.le_of_lt (pw _))) (Int.ediv_lt_of_lt_mul (pw _) (by rw [Int.mul_comm, ← e]; exact h1))]
theorem isLen_word (N : Int) (t : Nat) (h0 : 0 ≤ N) (h1 : N < 2 ^ (64 * (t + 1))) (hx : wd N t ≠ 0) : ∃ l : Nat, Rd.len (wd N t) = l ∧ 1 ≤ l ∧ l ≤ 64 ∧ IsLen N (t * 64 + l) := by
  have hb := wd_b N t
  obtain ⟨l, e1, e2, e3, e4, e5⟩ := len_two (wd N t) (by omega) hb.2
  refine ⟨l, e1, e2, e3, ?_, fun _ => ?_⟩
  · have hw := word_of N t h0 h1
    rw [hw] at e5
    have hP := pw (64 * t)
    rw [show t * 64 + l = 64 * t + l from by omega, Int.pow_add]
    have h := Int.lt_ediv_add_one_mul_self N hP
    have h2 : (N / 2 ^ (64 * t) + 1) * 2 ^ (64 * t) ≤ 2 ^ l * 2 ^ (64 * t) := Int.mul_le_mul_of_nonneg_right (by omega) (by omega)
    rw [Int.mul_comm (2 ^ (64 * t))]
    omega
  · have hw := word_of N t h0 h1
    rw [hw] at e4 e5
    unfold bit
    rw [show t * 64 + l - 1 = 64 * t + (l - 1) from by omega, Int.pow_add, ← Int.ediv_ediv_of_nonneg (Int.le_of_lt (pw _))]
    have e6 : (2 : Int) ^ l = 2 ^ (l - 1) * 2 := by rw [← Int.pow_succ]; congr 1; omega
    have hP := pw (l - 1)
    rw [e6] at e5
    generalize N / 2 ^ (64 * t) = x at *
    generalize (2 : Int) ^ (l - 1) = P at *
    have : x / P = 1 := by
      have h1 := Int.mul_ediv_add_emod x P
      have h2 := Int.emod_nonneg x (show P ≠ 0 by omega)
      have h3 := Int.emod_lt_of_pos x hP
      have h4 : x / P < 2 := Int.ediv_lt_of_lt_mul hP (by omega)
      have h5 : 1 ≤ x / P := Int.le_ediv_of_mul_le hP (by omega)
      omega
    rw [this]; rfl
theorem isLen_less (N : Int) (t : Nat) (h0 : 0 ≤ N) (h1 : N < 2 ^ (64 * (t + 1))) (hx : wd N t = 0) : N < 2 ^ (64 * t) := by
  rw [word_of N t h0 h1] at hx
  have hP := pw (64 * t)
  have h := Int.lt_ediv_add_one_mul_self N hP
  rw [hx] at h; omega
set_option maxHeartbeats 800000 in
theorem length_any (N : Int) (h0 : 0 ≤ N) (h1 : N < 2 ^ (64 * 6)) (w : World) :
    Calls Try.prog 37 #[.agg (sm N)] w fun e w' => (∃ n : Nat, e = .returned (.int .i64 n) ∧ n ≤ 384 ∧ IsLen N n) ∧ Below w.heap.size w w' := by
  obtain ⟨v, hv, hvb, r0⟩ : ∃ v, w.alloc (.cells (sm N) 46) = v ∧ Below w.heap.size w v ∧ v.rowIs w.heap.size 46 6 (fun i => .int .u64 (wd N i)) := ⟨_, rfl, (Below.refl _ _).alloc (Nat.le_refl _) _, row_sm (heap_alloc_last w _)⟩
  have HR : Hid (v.rowIs w.heap.size 46 6 (fun i => .int .u64 (wd N i))) := r0
  have HN : Hid (N < 2 ^ (64 * 6)) := h1
  clear r0 h1
  generalize sm N = ca at *
  go_enter Try.func37, Try.ntmps37
  go_wp2
  go_loop [5] (fun i => ∃ j : Nat, j ≤ 6 ∧ i = .int .i64 j ∧ N < 2 ^ (64 * (6 - j))) (fun i => 6 - (intOf i).toNat)
  case atStart => exact ⟨0, by omega, rfl, HN.out⟩
  case round =>
    clear HN hv
    obtain ⟨j, hj, rfl, hlt9⟩ := hrel
    have HT : Hid (N < 2 ^ (64 * (6 - j))) := hlt9
    clear hlt9
    by_cases hlt : j < 6
    · obtain ⟨t, ht⟩ : ∃ t : Nat, t = 5 - j := ⟨_, rfl⟩
      have hidx : (5 : Int) - (j : Int) = (t : Int) := by omega
      have c0 := HR.out.cell (show t < 6 by omega)
      have ht6 : (t : Int) < 6 := by omega
      have e6 : 6 - j = t + 1 := by omega
      have e7 : 6 - (j + 1) = t := by omega
      rw [e6] at HT
      have hxb := wd_b N t
      by_cases hx : wd N t = 0
      · have HN : Hid (N < 2 ^ (64 * (6 - (j + 1)))) := by show _ < _; rw [e7]; exact isLen_less N t h0 HT.out hx
        rw [hx] at c0
        clear hx hxb e6 e7 ht
        go_wp2
        exact ⟨⟨j + 1, by omega, by go_num, HN.out⟩, by simp [intOf]; omega⟩
      · obtain ⟨l, e1, e2, e3, e4⟩ := isLen_word N t h0 HT.out hx
        have HI : Hid (IsLen N (t * 64 + l)) := e4
        have HL : Hid (∀ w, Calls Try.prog 47 #[.int .u64 (wd N t)] w fun e w' => e = .returned (.int .i64 (l : Int)) ∧ w' = w) := fun w => by
          have h := Rd.len_any (wd N t) hxb.1 hxb.2 w
          rw [e1] at h; exact h
        clear e1 e4
        generalize wd N t = x at *
        clear e6 e7 ht
        go_wp2_with (fail)
        refine (HL.out _).mono ?_
        rintro e9 w9 ⟨rfl, hw9⟩
        subst w9
        go_wp2
        go_ret
        exact ⟨⟨t * 64 + l, ret_int (by first | rfl | omega), by omega, HI.out⟩, hvb⟩
    · obtain rfl : j = 6 := by omega
      have HI : Hid (IsLen N 0) := ⟨by have h := HT.out; simpa using h, fun h => by omega⟩
      go_wp2
      go_ret
      exact ⟨⟨0, rfl, by omega, HI.out⟩, hvb⟩
set_option maxHeartbeats 800000 in
set_option maxRecDepth 8000 in
theorem sizeof_any (A : Int) (h : Sg A) (w : World) :
    Calls Try.prog 35 #[.agg (sm A)] w fun e w' => e = .returned (.agg (sm (ab A))) ∧ Below w.heap.size w w' := by
  obtain ⟨v, hv, hvb, hvs, hv0, hv1⟩ : ∃ v, (w.alloc (.cells (sm A) 46)).alloc (.cells #[.int .u64 0, .int .u64 0, .int .u64 0, .int .u64 0, .int .u64 0, .int .u64 0] 46) = v ∧ Below w.heap.size w v ∧ v.heap.size = w.heap.size + 1 + 1 ∧ v.heap[w.heap.size]? = some (.cells (sm A) 46 (0, 0)) ∧ v.heap[w.heap.size + 1]? = some (.cells (sm 0) 46 (0, 0)) := by
    rw [zeros_sm]
    obtain ⟨h1, h2⟩ := heap_two w (.cells (sm A) 46) (.cells (sm 0) 46)
    exact ⟨_, rfl, ((Below.refl _ _).alloc (Nat.le_refl _) _).alloc (by simp) _, by simp, h1, h2⟩
  have HS : Hid (∀ w, Calls Try.prog 25 #[.agg (sm A)] w fun e w' => e = .returned (.int .i64 (sgn A)) ∧ Below w.heap.size w w') := fun w => sign_any A h w
  have HG : Hid (∀ w, Calls Try.prog 45 #[.agg (sm A)] w fun e w' => e = .returned (.agg (sm (-A))) ∧ Below w.heap.size w w') := fun w => neg_any A w
  have hsa : (sm A).size = 6 := rfl
  have hone := sm_one A
  generalize hca : sm A = ca at *
  have HCA : Hid (sm A = ca) := hca
  clear hca
  go_enter Try.func35, Try.ntmps35
  go_wp2_with (refine wpList_load6 46 _ Try.underlying46 sizeSum rfl _ rfl w.heap.size ca rfl hsa hv0 ?_)
  clear hv
  refine (HS.out _).mono ?_
  rintro e1 w1 ⟨rfl, hw1⟩
  have b1 := below_chain hvb hw1 (Nat.le_refl _)
  have q0 := (hw1.block _ (by omega)).trans hv0
  have q1 := (hw1.block _ (by omega)).trans hv1
  have s1 : w.heap.size + 1 + 1 ≤ w1.heap.size := by have := hw1.size; omega
  clear hv0 hv1 hvb hw1 HS hvs
  by_cases hneg : A < 0
  · have HAB : Hid (ab A = -A) := by show _ = _; unfold ab; rw [if_pos hneg]
    have hs1 : sgn A = -1 := by unfold sgn; rw [if_pos hneg]
    rw [hs1]
    clear hs1 h hneg
    go_wp2_with (refine wpList_load6 46 _ Try.underlying46 sizeSum rfl _ rfl w.heap.size ca rfl hsa q0 ?_)
    refine (HG.out _).mono ?_
    rintro e2 w2 ⟨rfl, hw2⟩
    have b2 := below_chain b1 hw2 (Nat.le_refl _)
    have p1 := (hw2.block _ (by omega)).trans q1
    have hbel := below_setRow (w.heap.size + 1) (sm (-A)) b2 (by omega)
    have hone2 := sm_one (-A)
    have hld : (loadVar 46 ⟨w.heap.size + 1, 0, none⟩).run Try.prog (w2.setRow (w.heap.size + 1) (sm (-A))) = .ok (.agg (sm (-A))) (w2.setRow (w.heap.size + 1) (sm (-A))) :=
      run_loadVar_row _ _ 46 46 _ (0, 0) _ (setRow_heap w2 (w.heap.size + 1) _ _ 46 (0, 0) p1) Try.underlying46 rfl sizeSum
    clear hw2 b1 q0 q1 b2
    go_wp2_with (refine wpList_store6 46 sizeSum rfl _ _ rfl (w.heap.size + 1) (sm (-A)) (sm 0) rfl rfl rfl rfl hone2 p1 ?_)
    refine bodyPost_ret (v := .agg (sm (-A))) ?_ rfl ⟨by rw [HAB.out], hbel⟩
    simp [results, Try.results35, asAddr, Act.put, hld]
  · have HAB : Hid (ab A = A) := by show _ = _; unfold ab; rw [if_neg hneg]
    have hs1 : ¬ sgn A < 0 := by unfold sgn; rw [if_neg hneg]; split <;> omega
    clear h hneg HG
    generalize sgn A = sa at *
    have hbel := below_setRow (w.heap.size + 1) ca b1 (by omega)
    have hld : (loadVar 46 ⟨w.heap.size + 1, 0, none⟩).run Try.prog (w1.setRow (w.heap.size + 1) ca) = .ok (.agg ca) (w1.setRow (w.heap.size + 1) ca) :=
      run_loadVar_row _ _ 46 46 _ (0, 0) _ (setRow_heap w1 (w.heap.size + 1) _ _ 46 (0, 0) q1) Try.underlying46 rfl (by rw [hsa]; exact sizeSum)
    clear b1
    go_wp2_with (first
      | (refine wpList_load6 46 _ Try.underlying46 sizeSum rfl _ rfl w.heap.size ca rfl hsa q0 ?_)
      | (refine wpList_store6 46 sizeSum rfl _ _ rfl (w.heap.size + 1) ca (sm 0) rfl rfl hsa rfl hone q1 ?_))
    refine bodyPost_ret (v := .agg ca) ?_ rfl ⟨by rw [HAB.out, HCA.out], hbel⟩
    simp [results, Try.results35, asAddr, Act.put, hld]
end Ty
end Go.Proofs.Ytobhmadckoemdaa
