import Derived.Test.YtbnmjmlcedkoaaaDoorTyF
namespace Go.Proofs.YtbnmjmlcedkoaaaDoor
namespace Ty
open Go.RowKit
set_option linter.unusedVariables false
theorem Bits.on {w w' : World} {g : Nat} {N : Int} (h : Bits w g N) (hb : Below w.heap.size w w') : Bits w' g N := h.kept hb (World.rowIs.lt h)
theorem below_chain {B : Nat} {w w1 w2 : World} (h : Below B w w1) (h2 : Below w1.heap.size w1 w2) (hB : B ≤ w.heap.size) : Below B w w2 := h.trans (h2.mono (Nat.le_trans hB h.size))
/-- A sum with a float32 added, if it is finite. -/
def pt (A u : Int) : Int := if u % 2147483648 < 2139095040 then A + un u else A
theorem rfinite_any (u : Int) (h0 : 0 ≤ u) (h1 : u < 4294967296) (w : World) :
    Calls Tryd.prog 21 #[.int .u32 u] w fun e w' => e = .returned (.bool (decide (u % 2147483648 < 2139095040))) ∧ w' = w := by
  by_cases h : u % 2147483648 < 2139095040
  · have h2 : ¬ u / 8388608 % 256 = 255 := by omega
    have h3 : (u / 8388608 % 256 != 255) = true := by simpa using h2
    rw [decide_eq_true h]
    go_enter Tryd.func21, Tryd.ntmps21
    go_wp2
    go_ret
    exact ⟨rfl, rfl⟩
  · have h2 : u / 8388608 % 256 = 255 := by omega
    rw [decide_eq_false h]
    go_enter Tryd.func21, Tryd.ntmps21
    go_wp2
    go_ret
    exact ⟨rfl, rfl⟩
theorem two_sums (w : World) (t : TypeId) (A : Int) : ∃ v : World, (w.alloc (.cells (sm A) t)).alloc (.cells #[.int .u64 0, .int .u64 0, .int .u64 0, .int .u64 0, .int .u64 0, .int .u64 0] t) = v ∧ Below w.heap.size w v ∧ v.heap.size = w.heap.size + 1 + 1 ∧ v.heap[w.heap.size]? = some (.cells (sm A) t (0, 0)) ∧ v.heap[w.heap.size + 1]? = some (.cells (sm 0) t (0, 0)) := by
  rw [zeros_sm]
  obtain ⟨h1, h2⟩ := heap_two w (.cells (sm A) t) (.cells (sm 0) t)
  exact ⟨_, rfl, ((Below.refl _ _).alloc (Nat.le_refl _) _).alloc (by simp) _, by simp, h1, h2⟩
set_option maxHeartbeats 800000 in
set_option maxRecDepth 8000 in
theorem rput_any (A u : Int) (h0 : 0 ≤ u) (h1 : u < 4294967296) (w : World) :
    Calls Tryd.prog 7 #[.agg (sm A), .int .u32 u] w fun e w' => e = .returned (.agg (sm (pt A u))) ∧ Below w.heap.size w w' := by
  obtain ⟨v, hv, hvb, hvs, hv0, hv1⟩ := two_sums w 27 A
  have hone := sm_one (pt A u)
  have honeA := sm_one A
  by_cases hf : u % 2147483648 < 2139095040
  · have HU : Hid (pt A u = A + un u) := by show _ = _; unfold pt; rw [if_pos hf]
    have HB : Hid (∀ w, Calls Tryd.prog 24 #[.agg (sm A)] w fun e w' => ∃ g, e = .returned (.slice (some ⟨g, 0, none⟩) 384 384) ∧ w.heap.size ≤ g ∧ Bits w' g A ∧ Below w.heap.size w w') := rbits_any A
    have hsz : (sm A).size = 6 := rfl
    generalize sm A = ca at *
    go_enter Tryd.func7, Tryd.ntmps7
    go_wp2_with (fail)
    clear hv
    refine (rfinite_any u h0 h1 _).mono ?_
    rintro e9 w9 ⟨rfl, hw9⟩
    subst w9
    rw [decide_eq_true hf]
    go_wp2_with (refine wpList_load6 27 _ Tryd.underlying27 sizeRSum rfl _ rfl w.heap.size ca rfl hsz hv0 ?_)
    refine (HB.out _).mono ?_
    rintro e1 w1 ⟨g1, rfl, hg1, hb1, hw1⟩
    go_wp2_with (fail)
    refine (rfloat_any u h0 h1 hf _).mono ?_
    rintro e2 w2 ⟨g2, rfl, hg2, hb2, hw2⟩
    replace hb1 := hb1.on hw2
    go_wp2_with (fail)
    refine (rplus_any A (un u) _ _ _ hb1 hb2).mono ?_
    rintro e3 w3 ⟨g3, rfl, hg3, hb3, hw3⟩
    rw [← HU.out] at hb3
    go_wp2_with (fail)
    refine (rwords_any (pt A u) _ 384 384 _ (by omega) hb3.br (fun i h1 h2 => by omega)).mono ?_
    rintro e4 w4 ⟨rfl, hw4⟩
    have s1 := hw1.size
    have s2 := hw2.size
    have s3 := hw3.size
    have q1 : w4.heap[w.heap.size + 1]? = some (.cells (sm 0) 27 (0, 0)) := by
      rw [hw4.block _ (by omega), hw3.block _ (by omega), hw2.block _ (by omega), hw1.block _ (by omega)]; exact hv1
    have hB4 : Below w.heap.size w w4 := below_chain (below_chain (below_chain (below_chain hvb hw1 (Nat.le_refl _)) hw2 (Nat.le_refl _)) hw3 (Nat.le_refl _)) hw4 (Nat.le_refl _)
    have hbel := below_setRow (w.heap.size + 1) (sm (pt A u)) hB4 (by omega)
    have hld : (loadVar 27 ⟨w.heap.size + 1, 0, none⟩).run Tryd.prog (w4.setRow (w.heap.size + 1) (sm (pt A u))) = .ok (.agg (sm (pt A u))) (w4.setRow (w.heap.size + 1) (sm (pt A u))) :=
      run_loadVar_row _ _ 27 27 _ (0, 0) _ (setRow_heap w4 (w.heap.size + 1) _ _ 27 (0, 0) q1) Tryd.underlying27 rfl sizeRSum
    clear hb1 hb2 hb3 hw1 hw2 hw3 hw4 hB4 hv0 hv1 hvb HB
    go_wp2_with (refine wpList_store6 27 sizeRSum rfl _ _ rfl (w.heap.size + 1) (sm (pt A u)) (sm 0) rfl rfl rfl rfl hone q1 ?_)
    refine bodyPost_ret (v := .agg (sm (pt A u))) ?_ rfl ⟨rfl, hbel⟩
    simp [results, Tryd.results7, asAddr, Act.put, hld]
  · have HU : pt A u = A := by unfold pt; rw [if_neg hf]
    rw [HU] at hone ⊢
    have hsz : (sm A).size = 6 := rfl
    have hbel := below_setRow (w.heap.size + 1) (sm A) hvb (by omega)
    have hld : (loadVar 27 ⟨w.heap.size + 1, 0, none⟩).run Tryd.prog (v.setRow (w.heap.size + 1) (sm A)) = .ok (.agg (sm A)) (v.setRow (w.heap.size + 1) (sm A)) :=
      run_loadVar_row _ _ 27 27 _ (0, 0) _ (setRow_heap v (w.heap.size + 1) _ _ 27 (0, 0) hv1) Tryd.underlying27 rfl sizeRSum
    generalize sm A = ca at *
    go_enter Tryd.func7, Tryd.ntmps7
    go_wp2_with (fail)
    clear hv
    refine (rfinite_any u h0 h1 _).mono ?_
    rintro e9 w9 ⟨rfl, hw9⟩
    subst w9
    rw [decide_eq_false (Int.not_lt.mpr hf)]
    go_wp2_with (first
      | (refine wpList_load6 27 _ Tryd.underlying27 sizeRSum rfl _ rfl w.heap.size ca rfl hsz hv0 ?_)
      | (refine wpList_store6 27 sizeRSum rfl _ _ rfl (w.heap.size + 1) ca (sm 0) rfl rfl hsz rfl hone hv1 ?_))
    refine bodyPost_ret (v := .agg ca) ?_ rfl ⟨rfl, hbel⟩
    simp [results, Tryd.results7, asAddr, Act.put, hld]
end Ty
end Go.Proofs.YtbnmjmlcedkoaaaDoor
