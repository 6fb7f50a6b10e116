import Derived.Test.YtbnmjmlcedkoaabGreatDoorTyN
namespace Go.Proofs.YtbnmjmlcedkoaabGreatDoor
namespace Ty
open Go.RowKit
set_option linter.unusedVariables false
theorem two_sums (w : World) (t : TypeId) (A : Int) : ∃ v : World, (w.alloc (.cells (sm A) t)).alloc (.cells #[.int .u64 0, .int .u64 0, .int .u64 0, .int .u64 0, .int .u64 0, .int .u64 0] t) = v ∧ Below w.heap.size w v ∧ v.heap.size = w.heap.size + 1 + 1 ∧ v.heap[w.heap.size]? = some (.cells (sm A) t (0, 0)) ∧ v.heap[w.heap.size + 1]? = some (.cells (sm 0) t (0, 0)) := by
  rw [zeros_sm]
  obtain ⟨h1, h2⟩ := heap_two w (.cells (sm A) t) (.cells (sm 0) t)
  exact ⟨_, rfl, ((Below.refl _ _).alloc (Nat.le_refl _) _).alloc (by simp) _, by simp, h1, h2⟩
theorem below_chain {B : Nat} {w w1 w2 : World} (h : Below B w w1) (h2 : Below w1.heap.size w1 w2) (hB : B ≤ w.heap.size) : Below B w w2 := h.trans (h2.mono (Nat.le_trans hB h.size))
theorem new_sum {W : World} (t : TypeId) (N : Int) : ∃ V, (W.alloc (.cells #[.int .u64 0, .int .u64 0, .int .u64 0, .int .u64 0, .int .u64 0, .int .u64 0] t)).setRow W.heap.size (sm N) = V ∧ Below W.heap.size W V ∧ V.heap.size = W.heap.size + 1 ∧ V.heap[W.heap.size]? = some (.cells (sm N) t (0, 0)) := by
  refine ⟨_, rfl, below_setRow _ _ ((Below.refl _ _).alloc (Nat.le_refl _) _) (Nat.le_refl _), by simp, ?_⟩
  exact setRow_heap _ W.heap.size _ _ t (0, 0) (heap_alloc_last W _)
set_option maxHeartbeats 800000 in
theorem times_any (A n : Int) (hn0 : -9223372036854775808 ≤ n) (hn1 : n ≤ 9223372036854775807) (w : World) :
    Calls Tryz.prog 13 #[.agg (sm A), .int .i64 n] w fun e w' => e = .returned (.agg (sm (A * n))) ∧ Below w.heap.size w w' := by
  obtain ⟨v, hv, hvb, hvs, hv0, hv1⟩ := two_sums w 25 A
  by_cases hneg : n < 0
  · have HN : Hid (∀ w, Calls Tryz.prog 12 #[.agg (sm A)] w fun e w' => e = .returned (.agg (sm (-A))) ∧ Below w.heap.size w w') := neg_any A
    have hsz : (sm A).size = 6 := rfl
    generalize sm A = ca at *
    go_enter Tryz.func13, Tryz.ntmps13
    go_wp2_with (refine wpList_load6 25 _ Tryz.underlying25 sizeSum rfl _ rfl w.heap.size ca rfl hsz hv0 ?_)
    refine (HN.out _).mono ?_
    rintro e1 w1 ⟨rfl, hw1⟩
    have b1 := below_chain hvb hw1 (Nat.le_refl _)
    have s1 := hw1.size
    have q0 := (hw1.block _ (by omega)).trans hv0
    have q1 := (hw1.block _ (by omega)).trans hv1
    have honeN := sm_one (-A)
    obtain ⟨w2, hw2, b2, s2, p0, p1⟩ : ∃ w2, w1.setRow w.heap.size (sm (-A)) = w2 ∧ Below w.heap.size w w2 ∧ w2.heap.size = w1.heap.size ∧ w2.heap[w.heap.size]? = some (.cells (sm (-A)) 25 (0, 0)) ∧ w2.heap[w.heap.size + 1]? = some (.cells (sm 0) 25 (0, 0)) := by
      refine ⟨_, rfl, below_setRow _ _ b1 (Nat.le_refl _), by simp, setRow_heap _ w.heap.size _ _ 25 (0, 0) q0, ?_⟩
      rw [setRow_other _ _ _ _ (by omega)]; exact q1
    have HP : Hid (-A * -n = A * n) := by show _ = _; rw [Int.neg_mul_neg]
    have HY : IntKind.u64.wrap (wrap64 (-n)) = -n := by
      rw [IntKind.wrap_u64]; unfold wrap64; omega
    clear hw1 hvb hv0 hv1 hv b1 q1 HN
    go_wp2_with (first
      | (refine wpList_store6 25 sizeSum rfl _ _ rfl w.heap.size (sm (-A)) _ rfl rfl rfl hsz honeN q0 ?_; rw [hw2])
      | (refine wpList_load6 25 _ Tryz.underlying25 sizeSum rfl _ rfl w.heap.size (sm (-A)) rfl rfl p0 ?_))
    refine (scaled_any (-A) (-n) (by omega) (by omega) _).mono ?_
    rintro e3 w3 ⟨rfl, hw3⟩
    rw [HP.out]
    have b3 := below_chain b2 hw3 (Nat.le_refl _)
    have s3 := hw3.size
    have q3 := (hw3.block _ (by omega)).trans p1
    have hone := sm_one (A * n)
    have hal := heap_alloc_last w3 (.cells #[.int .u64 0, .int .u64 0, .int .u64 0, .int .u64 0, .int .u64 0, .int .u64 0] 25)
    obtain ⟨w4, hw4, b34, s4, q4⟩ := new_sum (W := w3) 25 (A * n)
    have b4 := below_chain b3 b34 (Nat.le_refl _)
    have q5 := (b34.block _ (by omega)).trans q3
    have hbel := below_setRow (w.heap.size + 1) (sm (A * n)) b4 (by omega)
    have hld : (loadVar 25 ⟨w.heap.size + 1, 0, none⟩).run Tryz.prog (w4.setRow (w.heap.size + 1) (sm (A * n))) = .ok (.agg (sm (A * n))) (w4.setRow (w.heap.size + 1) (sm (A * n))) :=
      run_loadVar_row _ _ 25 25 _ (0, 0) _ (setRow_heap w4 (w.heap.size + 1) _ _ 25 (0, 0) q5) Tryz.underlying25 rfl sizeSum
    clear hw3 b3 b34 b4 q3 b2 p0 p1 q0 hw2
    go_wp2_with (first
      | (refine wpList_store6 25 sizeSum rfl _ _ rfl w3.heap.size (sm (A * n)) _ rfl rfl rfl rfl hone hal ?_; rw [hw4])
      | (refine wpList_load6 25 _ Tryz.underlying25 sizeSum rfl _ rfl w3.heap.size (sm (A * n)) rfl rfl q4 ?_)
      | (refine wpList_store6 25 sizeSum rfl _ _ rfl (w.heap.size + 1) (sm (A * n)) _ rfl rfl rfl rfl hone q5 ?_))
    refine bodyPost_ret (v := .agg (sm (A * n))) ?_ rfl ⟨rfl, hbel⟩
    simp [results, Tryz.results13, asAddr, Act.put, hld]
  · have hn : IntKind.u64.wrap n = n := by rw [IntKind.wrap_u64]; omega
    have HSC : Hid (∀ w, Calls Tryz.prog 39 #[.agg (sm A), .int .u64 n] w fun e w' => e = .returned (.tuple #[.agg (sm (A * n)), .int .u64 (cm A n 6)]) ∧ Below w.heap.size w w') := fun w => scaled_any A n (by omega) (by omega) w
    have hsz : (sm A).size = 6 := rfl
    generalize sm A = ca at *
    go_enter Tryz.func13, Tryz.ntmps13
    go_wp2_with (refine wpList_load6 25 _ Tryz.underlying25 sizeSum rfl _ rfl w.heap.size ca rfl hsz hv0 ?_)
    refine (HSC.out _).mono ?_
    rintro e3 w3 ⟨rfl, hw3⟩
    have b3 := below_chain hvb hw3 (Nat.le_refl _)
    have s3 := hw3.size
    have q3 := (hw3.block _ (by omega)).trans hv1
    have hone := sm_one (A * n)
    have hal := heap_alloc_last w3 (.cells #[.int .u64 0, .int .u64 0, .int .u64 0, .int .u64 0, .int .u64 0, .int .u64 0] 25)
    obtain ⟨w4, hw4, b34, s4, q4⟩ := new_sum (W := w3) 25 (A * n)
    have b4 := below_chain b3 b34 (Nat.le_refl _)
    have q5 := (b34.block _ (by omega)).trans q3
    have hbel := below_setRow (w.heap.size + 1) (sm (A * n)) b4 (by omega)
    have hld : (loadVar 25 ⟨w.heap.size + 1, 0, none⟩).run Tryz.prog (w4.setRow (w.heap.size + 1) (sm (A * n))) = .ok (.agg (sm (A * n))) (w4.setRow (w.heap.size + 1) (sm (A * n))) :=
      run_loadVar_row _ _ 25 25 _ (0, 0) _ (setRow_heap w4 (w.heap.size + 1) _ _ 25 (0, 0) q5) Tryz.underlying25 rfl sizeSum
    clear hw3 b3 b34 b4 q3 hvb hv0 hv1 hv HSC
    go_wp2_with (first
      | (refine wpList_store6 25 sizeSum rfl _ _ rfl w3.heap.size (sm (A * n)) _ rfl rfl rfl rfl hone hal ?_; rw [hw4])
      | (refine wpList_load6 25 _ Tryz.underlying25 sizeSum rfl _ rfl w3.heap.size (sm (A * n)) rfl rfl q4 ?_)
      | (refine wpList_store6 25 sizeSum rfl _ _ rfl (w.heap.size + 1) (sm (A * n)) _ rfl rfl rfl rfl hone q5 ?_))
    refine bodyPost_ret (v := .agg (sm (A * n))) ?_ rfl ⟨rfl, hbel⟩
    simp [results, Tryz.results13, asAddr, Act.put, hld]
end Ty
end Go.Proofs.YtbnmjmlcedkoaabGreatDoor
