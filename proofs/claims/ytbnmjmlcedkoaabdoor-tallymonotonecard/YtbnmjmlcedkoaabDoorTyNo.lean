import Derived.Test.YtbnmjmlcedkoaabDoorTyNs
namespace Go.Proofs.YtbnmjmlcedkoaabDoor
namespace Ty
open Go.RowKit
set_option linter.unusedVariables false
set_option maxHeartbeats 800000 in
theorem of_one (u : Int) (h0 : 0 ≤ u) (h1 : u < 4294967296) (hf : u % 2147483648 < 2139095040) (w : World) (ht : Cl.TabAt w) :
    Calls Tryd.prog 16 #[.float .f32 u.toNat] w fun e w' => e = .returned (.agg (sm (un u))) ∧ Below w.heap.size w w' := by
  have HO : Hid (∀ W t, Below w.heap.size w W → Calls Tryd.prog 7 #[.slice (some ⟨W.heap.size, 0, none⟩) 1 1] (W.alloc (.cells #[.float .f32 u.toNat] t)) fun e w' => e = .returned (.tuple #[.agg (sm (un u)), .int .i64 0]) ∧ Below W.heap.size W w') := fun W t hW => by
    have hb : Below W.heap.size W (W.alloc (.cells #[.float .f32 u.toNat] t)) := (Below.refl _ _).alloc (Nat.le_refl _) _
    have hfl : FinL [u] := fun x hx => by
      rw [List.mem_singleton] at hx; subst hx
      exact ⟨hf, h0, h1⟩
    have h := of_any (some ⟨W.heap.size, 0, none⟩) 1 1 [u] (W.alloc (.cells #[.float .f32 u.toNat] t)) (tab_on ht (hW.alloc hW.size _)) ⟨⟨by simp, by omega⟩, fun _ => ⟨_, rfl, by simp, fun i hi => by
      match i, hi with
      | 0, _ => simp [Addr.add]⟩, fun i hi => by
      match i, hi with
      | 0, _ => exact ⟨h0, h1⟩⟩
    have ha := add_sum [u] hfl
    have hl : ([u] : List Int).length = 1 := rfl
    rw [hl] at ha
    rw [ha.1, ha.2] at h
    have e : sumU [u] = un u := by simp [sumU]
    rw [e] at h
    exact h.mono fun e w' ⟨h1, h2⟩ => ⟨h1, below_chain hb h2 (by simp)⟩
  obtain ⟨v, hv, hvb, hvs, hv0⟩ : ∃ v, w.alloc (.cells #[.int .u64 0, .int .u64 0, .int .u64 0, .int .u64 0, .int .u64 0, .int .u64 0] 27) = v ∧ Below w.heap.size w v ∧ v.heap.size = w.heap.size + 1 ∧ v.heap[w.heap.size]? = some (.cells (sm 0) 27 (0, 0)) := by
    refine ⟨_, rfl, (Below.refl _ _).alloc (Nat.le_refl _) _, by simp, ?_⟩
    rw [zeros_sm]; exact heap_alloc_last w _
  generalize hun : un u = X at *
  generalize u.toNat = b at *
  go_enter Tryd.func16, Tryd.ntmps16
  go_wp2_with (fail)
  have HE : Hid (v.heap.size = w.heap.size + 1) := hvs
  have HC := HO.out v 43 hvb
  rw [hvs] at HC
  clear hv
  refine HC.mono ?_
  rintro e1 w1 ⟨rfl, hw1⟩
  rw [← hvs] at hw1
  have b1 := below_chain hvb hw1 (Nat.le_refl _)
  have q1 := (hw1.block _ (by omega)).trans hv0
  have hone := sm_one X
  have hal1 := heap_alloc_last w1 (.cells #[.int .u64 0, .int .u64 0, .int .u64 0, .int .u64 0, .int .u64 0, .int .u64 0] 27)
  have s1 := b1.size
  have l1 : w.heap.size < w1.heap.size := (Array.getElem?_eq_some_iff.1 q1).1
  obtain ⟨V, hV, hVb, hVs, hV0, hV1⟩ : ∃ V, (w1.alloc (.cells #[.int .u64 0, .int .u64 0, .int .u64 0, .int .u64 0, .int .u64 0, .int .u64 0] 27)).setRow w1.heap.size (sm X) = V ∧ Below w.heap.size w V ∧ V.heap.size = w1.heap.size + 1 ∧ V.heap[w1.heap.size]? = some (.cells (sm X) 27 (0, 0)) ∧ V.heap[w.heap.size]? = some (.cells (sm 0) 27 (0, 0)) := by
    refine ⟨_, rfl, below_setRow _ _ (b1.alloc (by omega) _) (by omega), by simp, setRow_heap _ w1.heap.size _ _ 27 (0, 0) hal1, ?_⟩
    rw [setRow_other _ _ _ _ (by omega), blk_alloc _ _ _ l1]; exact q1
  have hbel := below_setRow w.heap.size (sm X) hVb (Nat.le_refl _)
  have hld : (loadVar 27 ⟨w.heap.size, 0, none⟩).run Tryd.prog (V.setRow w.heap.size (sm X)) = .ok (.agg (sm X)) (V.setRow w.heap.size (sm X)) :=
    run_loadVar_row _ _ 27 27 _ (0, 0) _ (setRow_heap V w.heap.size _ _ 27 (0, 0) hV1) Tryd.underlying27 rfl sizeSum
  clear b1 q1 hw1 HC HO hvb hv0 hvs HE
  go_wp2_with (first
    | (refine wpList_store6 27 sizeSum rfl _ _ rfl w1.heap.size (sm X) _ rfl rfl rfl rfl hone hal1 ?_; rw [hV])
    | (refine wpList_load6 27 _ Tryd.underlying27 sizeSum rfl _ rfl w1.heap.size (sm X) rfl rfl hV0 ?_)
    | (refine wpList_store6 27 sizeSum rfl _ _ rfl w.heap.size (sm X) _ rfl rfl rfl rfl hone hV1 ?_))
  refine bodyPost_ret (v := .agg (sm X)) ?_ rfl ⟨rfl, hbel⟩
  simp [results, Tryd.results16, asAddr, Act.put, hld]
set_option maxHeartbeats 800000 in
theorem rank_any (u : Int) (h0 : 0 ≤ u) (h1 : u < 4294967296) (w : World) : Calls Tryd.prog 18 #[.int .u32 u] w fun e w' => e = .returned (.int .i64 (if u < 2147483648 then u else 2147483647 - u)) ∧ w' = w := by
  by_cases c : u < 2147483648
  · rw [if_pos c]
    go_enter Tryd.func18, Tryd.ntmps18
    go_wp2
    go_ret
    exact ⟨rfl, rfl⟩
  · rw [if_neg c]
    go_enter Tryd.func18, Tryd.ntmps18
    go_wp2
    go_ret
    exact ⟨ret_int (by omega), rfl⟩
set_option maxHeartbeats 800000 in
theorem ofRank_any (r : Int) (h0 : -2147483648 ≤ r) (h1 : r ≤ 2147483647) (w : World) : Calls Tryd.prog 17 #[.int .i64 r] w fun e w' => e = .returned (.tuple #[.int .u32 (if r < 0 then 2147483647 - r else r), .int .i64 0]) ∧ w' = w := by
  by_cases c : r < 0
  · rw [if_pos c]
    go_enter Tryd.func17, Tryd.ntmps17
    go_wp2
    go_ret2
    refine ⟨ret_two ?_ rfl, rfl⟩
    first | omega | (simp only [IntKind.wrap_u32]; omega)
  · rw [if_neg c]
    go_enter Tryd.func17, Tryd.ntmps17
    go_wp2
    go_ret2
    exact ⟨by first | rfl | (congr; omega), rfl⟩
end Ty
end Go.Proofs.YtbnmjmlcedkoaabDoor
