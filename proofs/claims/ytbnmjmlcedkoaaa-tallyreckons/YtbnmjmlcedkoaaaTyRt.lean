import Derived.Test.YtbnmjmlcedkoaaaTyRm
namespace Go.Proofs.Ytbnmjmlcedkoaaa
namespace Ty
open Go.RowKit
set_option linter.unusedVariables false
def TMid (w wr : World) (A N : Int) : Prop :=
  Below w.heap.size w wr ∧ wr.heap[w.heap.size]? = some (.cells (sm A) 29 (0, 0)) ∧ wr.heap[w.heap.size + 1]? = some (.cells (sm 0) 29 (0, 0)) ∧ wr.heap[w.heap.size + 1 + 1]? = some (.cells (sm N) 29 (0, 0))
theorem tm_start (w : World) (A : Int) : TMid w (((w.alloc (.cells (sm A) 29)).alloc (.cells #[.int .u64 0, .int .u64 0, .int .u64 0, .int .u64 0, .int .u64 0, .int .u64 0] 29)).alloc (.cells #[.int .u64 0, .int .u64 0, .int .u64 0, .int .u64 0, .int .u64 0, .int .u64 0] 29)) A 0 := by
  rw [zeros_sm]
  obtain ⟨h1, h2, h3⟩ := heap_three w (.cells (sm A) 29) (.cells (sm 0) 29) (.cells (sm 0) 29)
  exact ⟨(((Below.refl _ _).alloc (Nat.le_refl _) _).alloc (by simp) _).alloc (by simp; omega) _, h1, h2, h3⟩
theorem half_step (y : Int) (i : Nat) (h : i < 64) : y / 2 ^ (63 - i) = 2 * (y / 2 ^ (64 - i)) + y / 2 ^ (63 - i) % 2 := by
  have e : (2 : Int) ^ (64 - i) = 2 ^ (63 - i) * 2 := by rw [← Int.pow_succ]; congr 1; omega
  rw [e, ← Int.ediv_ediv_of_nonneg (Int.le_of_lt (pw _))]
  generalize y / 2 ^ (63 - i) = q
  omega
set_option maxHeartbeats 1600000 in
set_option maxRecDepth 8000 in
theorem rtimes_any (A n : Int) (hn0 : -9223372036854775808 ≤ n) (hn1 : n ≤ 9223372036854775807) (w : World) :
    Calls Try.prog 21 #[.agg (sm A), .int .i64 n] w fun e w' => e = .returned (.agg (sm (A * n))) ∧ Below w.heap.size w w' := by
  obtain ⟨y, hy⟩ : ∃ y : Int, y = if n < 0 then -n else n := ⟨_, rfl⟩
  have hy0 : 0 ≤ y ∧ y < 18446744073709551616 := by rw [hy]; split <;> omega
  have HM := tm_start w A
  have HM0 : Hid (TMid w (((w.alloc (.cells (sm A) 29)).alloc (.cells #[.int .u64 0, .int .u64 0, .int .u64 0, .int .u64 0, .int .u64 0, .int .u64 0] 29)).alloc (.cells #[.int .u64 0, .int .u64 0, .int .u64 0, .int .u64 0, .int .u64 0, .int .u64 0] 29)) A 0) := HM
  have HZ : Hid (A * (y / 2 ^ (64 - 0)) = 0) := by
    show _ = _
    rw [Nat.sub_zero, two64, Int.ediv_eq_zero_of_lt hy0.1 hy0.2, Int.mul_zero]
  clear HM
  generalize hca : sm A = ca at *
  have HCA : Hid (sm A = ca) := hca
  clear hca
  by_cases hneg : n < 0
  · have hyn : IntKind.u64.wrap (-IntKind.u64.wrap n) = y := by rw [hy, if_pos hneg, IntKind.wrap_u64, IntKind.wrap_u64]; omega
    have HYN : Hid (y = -n) := by show _ = _; rw [hy, if_pos hneg]
    clear hy
    go_enter Try.func21, Try.ntmps21
    go_wp2
    go_loopw [7] (fun i wr => ∃ j : Nat, j ≤ 64 ∧ i = .int .i64 (63 - (j : Int)) ∧ TMid w wr A (A * (y / 2 ^ (64 - j)))) (fun i _ => (intOf i + 1).toNat)
    case atStart => exact ⟨0, Nat.zero_le _, rfl, by rw [HZ.out]; exact HM0.out⟩
    case round =>
      clear HM0 HZ
      obtain ⟨j, hj, rfl, hm⟩ := hrel
      by_cases hlt : j < 64
      · obtain ⟨t, ht⟩ : ∃ t : Nat, t = 63 - j := ⟨_, rfl⟩
        have hidx : (63 : Int) - (j : Int) = (t : Int) := by omega
        have HI : Hid ((63 : Int) - ((j + 1 : Nat) : Int) = (t : Int) - 1) := by show _ = _; omega
        have ht64 : (t : Int) < 64 := by omega
        have HH : Hid (y / 2 ^ t = 2 * (y / 2 ^ (64 - j)) + y / 2 ^ t % 2) := by
          show _ = _
          have h := half_step y j hlt
          rw [← ht] at h; exact h
        have e64 : 64 - (j + 1) = t := by omega
        have hq0 : 0 ≤ y / 2 ^ t := Int.ediv_nonneg hy0.1 (Int.le_of_lt (pw t))
        have hq1 : y / 2 ^ t < 18446744073709551616 := Int.lt_of_le_of_lt (Int.ediv_le_self _ hy0.1) hy0.2
        obtain ⟨b1, p0, p1, p2⟩ := hm
        rw [HCA.out] at p0
        obtain ⟨N, hN⟩ : ∃ N, N = A * (y / 2 ^ (64 - j)) := ⟨_, rfl⟩
        rw [← hN] at p2
        have l2 : w.heap.size + 1 + 1 < wr.heap.size := (Array.getElem?_eq_some_iff.1 p2).1
        have HN : Hid (N = A * (y / 2 ^ (64 - j))) := hN
        clear hN ht
        rw [hidx]
        clear hidx
        have h2 : y / 2 ^ t % 2 = 0 ∨ y / 2 ^ t % 2 = 1 := by omega
        go_wp2_with (refine wpList_load6 29 _ Try.underlying29 sizeRSum rfl _ rfl (w.heap.size + 1 + 1) (sm N) rfl rfl p2 ?_)
        refine (rmerge_any N N _).mono ?_
        rintro e1 w1 ⟨rfl, hw1⟩
        have s1 := hw1.size
        have q2 := (hw1.block _ l2).trans p2
        have hone1 := sm_one (N + N)
        obtain ⟨w2, hw2, b2, s2, r0, r1, r2⟩ : ∃ w2, w1.setRow (w.heap.size + 1 + 1) (sm (N + N)) = w2 ∧ Below w.heap.size w w2 ∧ w2.heap.size = w1.heap.size ∧ w2.heap[w.heap.size]? = some (.cells ca 29 (0, 0)) ∧ w2.heap[w.heap.size + 1]? = some (.cells (sm 0) 29 (0, 0)) ∧ w2.heap[w.heap.size + 1 + 1]? = some (.cells (sm (N + N)) 29 (0, 0)) := by
          refine ⟨_, rfl, below_setRow _ _ (below_chain b1 hw1 (Nat.le_refl _)) (by omega), by simp, ?_, ?_, setRow_heap _ (w.heap.size + 1 + 1) _ _ 29 (0, 0) q2⟩
          · rw [setRow_other _ _ _ _ (by omega), hw1.block _ (by omega)]; exact p0
          · rw [setRow_other _ _ _ _ (by omega), hw1.block _ (by omega)]; exact p1
        clear hw1 b1 p0 p1 p2
        rcases h2 with hb | hb
        · have hbe : (y / 2 ^ t % 2 == 1) = false := by rw [hb]; rfl
          have HF : Hid (TMid w w2 A (A * (y / 2 ^ (64 - (j + 1))))) := by
            refine ⟨b2, by rw [HCA.out]; exact r0, r1, ?_⟩
            rw [e64, HH.out, hb, Int.add_zero, show A * (2 * (y / 2 ^ (64 - j))) = N + N from by rw [HN.out]; grind]; exact r2
          clear b2 r0 r1 r2 hb HH e64
          go_wp2_with (refine wpList_store6 29 sizeRSum rfl _ _ rfl (w.heap.size + 1 + 1) (sm (N + N)) _ rfl rfl rfl rfl hone1 q2 ?_; rw [hw2])
          exact ⟨⟨j + 1, by omega, by rw [HI.out], HF.out⟩, by simp [intOf]⟩
        · have hbe : (y / 2 ^ t % 2 == 1) = true := by rw [hb]; rfl
          have HMG : Hid (∀ w, Calls Try.prog 17 #[.agg (sm (N + N)), .agg ca] w fun e w' => e = .returned (.agg (sm (N + N + A))) ∧ Below w.heap.size w w') := fun w => by rw [← HCA.out]; exact rmerge_any (N + N) A w
          have hsz : ca.size = 6 := by rw [← HCA.out]; rfl
          have l22 : w.heap.size + 1 + 1 < w2.heap.size := by omega
          go_wp2_with (first
            | (refine wpList_store6 29 sizeRSum rfl _ _ rfl (w.heap.size + 1 + 1) (sm (N + N)) _ rfl rfl rfl rfl hone1 q2 ?_; rw [hw2])
            | (refine wpList_load6 29 _ Try.underlying29 sizeRSum rfl _ rfl (w.heap.size + 1 + 1) (sm (N + N)) rfl rfl r2 ?_)
            | (refine wpList_load6 29 _ Try.underlying29 sizeRSum rfl _ rfl w.heap.size ca rfl hsz r0 ?_))
          refine (HMG.out _).mono ?_
          rintro e3 w3 ⟨rfl, hw3⟩
          have q3 := (hw3.block _ l22).trans r2
          have hone3 := sm_one (N + N + A)
          have HF : Hid (TMid w (w3.setRow (w.heap.size + 1 + 1) (sm (N + N + A))) A (A * (y / 2 ^ (64 - (j + 1))))) := by
            refine ⟨below_setRow _ _ (below_chain b2 hw3 (Nat.le_refl _)) (by omega), ?_, ?_, ?_⟩
            · rw [setRow_other _ _ _ _ (by omega), hw3.block _ (by omega), HCA.out]; exact r0
            · rw [setRow_other _ _ _ _ (by omega), hw3.block _ (by omega)]; exact r1
            · rw [e64, HH.out, hb, show A * (2 * (y / 2 ^ (64 - j)) + 1) = N + N + A from by rw [HN.out]; grind]
              exact setRow_heap _ (w.heap.size + 1 + 1) _ _ 29 (0, 0) q3
          clear hw3 b2 r0 r1 r2 hb HH e64 HMG hw2 q2
          go_wp2_with (refine wpList_store6 29 sizeRSum rfl _ _ rfl (w.heap.size + 1 + 1) (sm (N + N + A)) _ rfl rfl rfl rfl hone3 q3 ?_)
          exact ⟨⟨j + 1, by omega, by rw [HI.out], HF.out⟩, by simp [intOf]⟩
      · obtain rfl : j = 64 := by omega
        obtain ⟨b1, p0, p1, p2⟩ := hm
        rw [show A * (y / 2 ^ (64 - 64)) = A * y from by rw [Nat.sub_self, Int.pow_zero, Int.ediv_one]] at p2
        have l2 : w.heap.size + 1 + 1 < wr.heap.size := (Array.getElem?_eq_some_iff.1 p2).1
        have hone := sm_one (A * n)
        go_wp2_with (refine wpList_load6 29 _ Try.underlying29 sizeRSum rfl _ rfl (w.heap.size + 1 + 1) (sm (A * y)) rfl rfl p2 ?_)
        refine (rneg_any (A * y) _).mono ?_
        rintro e9 w9 ⟨rfl, hw9⟩
        rw [show -(A * y) = A * n from by rw [HYN.out, Int.mul_neg, Int.neg_neg]]
        have q1 := (hw9.block _ (by omega)).trans p1
        have hbel := below_setRow (w.heap.size + 1) (sm (A * n)) (below_chain b1 hw9 (Nat.le_refl _)) (by omega)
        have hld : (loadVar 29 ⟨w.heap.size + 1, 0, none⟩).run Try.prog (w9.setRow (w.heap.size + 1) (sm (A * n))) = .ok (.agg (sm (A * n))) (w9.setRow (w.heap.size + 1) (sm (A * n))) :=
          run_loadVar_row _ _ 29 29 _ (0, 0) _ (setRow_heap w9 (w.heap.size + 1) _ _ 29 (0, 0) q1) Try.underlying29 rfl sizeRSum
        clear hw9 b1 p0 p1 p2
        go_wp2_with (refine wpList_store6 29 sizeRSum rfl _ _ rfl (w.heap.size + 1) (sm (A * n)) _ rfl rfl rfl rfl hone q1 ?_)
        refine bodyPost_ret (v := .agg (sm (A * n))) ?_ rfl ⟨rfl, hbel⟩
        simp [results, Try.results21, asAddr, Act.put, hld]
  · have hyn : IntKind.u64.wrap n = y := by rw [hy, if_neg hneg, IntKind.wrap_u64]; omega
    have HYN : Hid (y = n) := by show _ = _; rw [hy, if_neg hneg]
    clear hy
    go_enter Try.func21, Try.ntmps21
    go_wp2
    go_loopw [7] (fun i wr => ∃ j : Nat, j ≤ 64 ∧ i = .int .i64 (63 - (j : Int)) ∧ TMid w wr A (A * (y / 2 ^ (64 - j)))) (fun i _ => (intOf i + 1).toNat)
    case atStart => exact ⟨0, Nat.zero_le _, rfl, by rw [HZ.out]; exact HM0.out⟩
    case round =>
      clear HM0 HZ
      obtain ⟨j, hj, rfl, hm⟩ := hrel
      by_cases hlt : j < 64
      · obtain ⟨t, ht⟩ : ∃ t : Nat, t = 63 - j := ⟨_, rfl⟩
        have hidx : (63 : Int) - (j : Int) = (t : Int) := by omega
        have HI : Hid ((63 : Int) - ((j + 1 : Nat) : Int) = (t : Int) - 1) := by show _ = _; omega
        have ht64 : (t : Int) < 64 := by omega
        have HH : Hid (y / 2 ^ t = 2 * (y / 2 ^ (64 - j)) + y / 2 ^ t % 2) := by
          show _ = _
          have h := half_step y j hlt
          rw [← ht] at h; exact h
        have e64 : 64 - (j + 1) = t := by omega
        have hq0 : 0 ≤ y / 2 ^ t := Int.ediv_nonneg hy0.1 (Int.le_of_lt (pw t))
        have hq1 : y / 2 ^ t < 18446744073709551616 := Int.lt_of_le_of_lt (Int.ediv_le_self _ hy0.1) hy0.2
        obtain ⟨b1, p0, p1, p2⟩ := hm
        rw [HCA.out] at p0
        obtain ⟨N, hN⟩ : ∃ N, N = A * (y / 2 ^ (64 - j)) := ⟨_, rfl⟩
        rw [← hN] at p2
        have l2 : w.heap.size + 1 + 1 < wr.heap.size := (Array.getElem?_eq_some_iff.1 p2).1
        have HN : Hid (N = A * (y / 2 ^ (64 - j))) := hN
        clear hN ht
        rw [hidx]
        clear hidx
        have h2 : y / 2 ^ t % 2 = 0 ∨ y / 2 ^ t % 2 = 1 := by omega
        go_wp2_with (refine wpList_load6 29 _ Try.underlying29 sizeRSum rfl _ rfl (w.heap.size + 1 + 1) (sm N) rfl rfl p2 ?_)
        refine (rmerge_any N N _).mono ?_
        rintro e1 w1 ⟨rfl, hw1⟩
        have s1 := hw1.size
        have q2 := (hw1.block _ l2).trans p2
        have hone1 := sm_one (N + N)
        obtain ⟨w2, hw2, b2, s2, r0, r1, r2⟩ : ∃ w2, w1.setRow (w.heap.size + 1 + 1) (sm (N + N)) = w2 ∧ Below w.heap.size w w2 ∧ w2.heap.size = w1.heap.size ∧ w2.heap[w.heap.size]? = some (.cells ca 29 (0, 0)) ∧ w2.heap[w.heap.size + 1]? = some (.cells (sm 0) 29 (0, 0)) ∧ w2.heap[w.heap.size + 1 + 1]? = some (.cells (sm (N + N)) 29 (0, 0)) := by
          refine ⟨_, rfl, below_setRow _ _ (below_chain b1 hw1 (Nat.le_refl _)) (by omega), by simp, ?_, ?_, setRow_heap _ (w.heap.size + 1 + 1) _ _ 29 (0, 0) q2⟩
          · rw [setRow_other _ _ _ _ (by omega), hw1.block _ (by omega)]; exact p0
          · rw [setRow_other _ _ _ _ (by omega), hw1.block _ (by omega)]; exact p1
        clear hw1 b1 p0 p1 p2
        rcases h2 with hb | hb
        · have hbe : (y / 2 ^ t % 2 == 1) = false := by rw [hb]; rfl
          have HF : Hid (TMid w w2 A (A * (y / 2 ^ (64 - (j + 1))))) := by
            refine ⟨b2, by rw [HCA.out]; exact r0, r1, ?_⟩
            rw [e64, HH.out, hb, Int.add_zero, show A * (2 * (y / 2 ^ (64 - j))) = N + N from by rw [HN.out]; grind]; exact r2
          clear b2 r0 r1 r2 hb HH e64
          go_wp2_with (refine wpList_store6 29 sizeRSum rfl _ _ rfl (w.heap.size + 1 + 1) (sm (N + N)) _ rfl rfl rfl rfl hone1 q2 ?_; rw [hw2])
          exact ⟨⟨j + 1, by omega, by rw [HI.out], HF.out⟩, by simp [intOf]⟩
        · have hbe : (y / 2 ^ t % 2 == 1) = true := by rw [hb]; rfl
          have HMG : Hid (∀ w, Calls Try.prog 17 #[.agg (sm (N + N)), .agg ca] w fun e w' => e = .returned (.agg (sm (N + N + A))) ∧ Below w.heap.size w w') := fun w => by rw [← HCA.out]; exact rmerge_any (N + N) A w
          have hsz : ca.size = 6 := by rw [← HCA.out]; rfl
          have l22 : w.heap.size + 1 + 1 < w2.heap.size := by omega
          go_wp2_with (first
            | (refine wpList_store6 29 sizeRSum rfl _ _ rfl (w.heap.size + 1 + 1) (sm (N + N)) _ rfl rfl rfl rfl hone1 q2 ?_; rw [hw2])
            | (refine wpList_load6 29 _ Try.underlying29 sizeRSum rfl _ rfl (w.heap.size + 1 + 1) (sm (N + N)) rfl rfl r2 ?_)
            | (refine wpList_load6 29 _ Try.underlying29 sizeRSum rfl _ rfl w.heap.size ca rfl hsz r0 ?_))
          refine (HMG.out _).mono ?_
          rintro e3 w3 ⟨rfl, hw3⟩
          have q3 := (hw3.block _ l22).trans r2
          have hone3 := sm_one (N + N + A)
          have HF : Hid (TMid w (w3.setRow (w.heap.size + 1 + 1) (sm (N + N + A))) A (A * (y / 2 ^ (64 - (j + 1))))) := by
            refine ⟨below_setRow _ _ (below_chain b2 hw3 (Nat.le_refl _)) (by omega), ?_, ?_, ?_⟩
            · rw [setRow_other _ _ _ _ (by omega), hw3.block _ (by omega), HCA.out]; exact r0
            · rw [setRow_other _ _ _ _ (by omega), hw3.block _ (by omega)]; exact r1
            · rw [e64, HH.out, hb, show A * (2 * (y / 2 ^ (64 - j)) + 1) = N + N + A from by rw [HN.out]; grind]
              exact setRow_heap _ (w.heap.size + 1 + 1) _ _ 29 (0, 0) q3
          clear hw3 b2 r0 r1 r2 hb HH e64 HMG hw2 q2
          go_wp2_with (refine wpList_store6 29 sizeRSum rfl _ _ rfl (w.heap.size + 1 + 1) (sm (N + N + A)) _ rfl rfl rfl rfl hone3 q3 ?_)
          exact ⟨⟨j + 1, by omega, by rw [HI.out], HF.out⟩, by simp [intOf]⟩
      · obtain rfl : j = 64 := by omega
        obtain ⟨b1, p0, p1, p2⟩ := hm
        rw [show A * (y / 2 ^ (64 - 64)) = A * y from by rw [Nat.sub_self, Int.pow_zero, Int.ediv_one]] at p2
        have l2 : w.heap.size + 1 + 1 < wr.heap.size := (Array.getElem?_eq_some_iff.1 p2).1
        rw [HYN.out] at p2
        have hone := sm_one (A * n)
        have hbel := below_setRow (w.heap.size + 1) (sm (A * n)) b1 (by omega)
        have hld : (loadVar 29 ⟨w.heap.size + 1, 0, none⟩).run Try.prog (wr.setRow (w.heap.size + 1) (sm (A * n))) = .ok (.agg (sm (A * n))) (wr.setRow (w.heap.size + 1) (sm (A * n))) :=
          run_loadVar_row _ _ 29 29 _ (0, 0) _ (setRow_heap wr (w.heap.size + 1) _ _ 29 (0, 0) p1) Try.underlying29 rfl sizeRSum
        go_wp2_with (first
          | (refine wpList_load6 29 _ Try.underlying29 sizeRSum rfl _ rfl (w.heap.size + 1 + 1) (sm (A * n)) rfl rfl p2 ?_)
          | (refine wpList_store6 29 sizeRSum rfl _ _ rfl (w.heap.size + 1) (sm (A * n)) _ rfl rfl rfl rfl hone p1 ?_))
        refine bodyPost_ret (v := .agg (sm (A * n))) ?_ rfl ⟨rfl, hbel⟩
        simp [results, Try.results21, asAddr, Act.put, hld]
end Ty
end Go.Proofs.Ytbnmjmlcedkoaaa
