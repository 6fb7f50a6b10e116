import Derived.Test.YtbnmjmlcedkoaabGreatDoorTySa
import Derived.Test.YtbnmjmlcedkoaabGreatDoorTyPs1
import Derived.Test.YtbnmjmlcedkoaabGreatDoorTyPs2
import Derived.Test.YtbnmjmlcedkoaabGreatDoorTyLy
namespace Go.Proofs.YtbnmjmlcedkoaabGreatDoor
namespace Ty
open Go.RowKit
set_option linter.unusedVariables false
theorem beq_ne (a b : List UInt8) (h : a ≠ b) : ((bs a).toList == (bs b).toList) = false := by rw [bs_toList, bs_toList]; simpa using h
theorem beq_eq (a : List UInt8) : ((bs a).toList == (bs a).toList) = true := by simp
theorem tU_ascii (T : List UInt8) (h : Dg T) : ∀ b ∈ tU T, b.toNat < 128 := fun b hb => by
  rcases tU_in T h b hb with e | e
  · subst e; decide
  · omega
theorem parse_any (neg : Bool) (T : List UInt8) (hT : T.length = 220) (hd : Dg T) (w : World) :
    Calls Tryz.prog 22 #[.string (bs (if neg then 45 :: tU T else tU T))] w fun e w' => e = .returned (.tuple #[.agg #[.bool neg, .string (bs (tA T ++ tB T)), .int .i64 (tA T).length, .int .i64 0], .bool true]) ∧ Below w.heap.size w w' := by
  have lA := tA_len T hT
  have lB := tB_len T hT
  have lU := tU_len T hT
  have H3 : ∀ w, Calls Tryz.prog 49 #[.string (bs (tU T)), .string ⟨#[101, 69]⟩] w fun e w' => e = .returned (.int .i64 (-1)) ∧ Below w.heap.size w w' := fun w => by
    have h := anyE (tU T) (by omega) (tU_ascii T hd) w
    rw [tU_any T hd] at h; exact h
  have H4 := cutU T hT hd
  have H5 : ∀ w, Calls Tryz.prog 52 #[.string (bs (tA T))] w fun e w' => e = .returned (.bool true) ∧ Below w.heap.size w w' := fun w => by
    have h := are_digits (tA T) (by omega) (tA_dg T hd) w
    rw [show decide (tA T ≠ []) = true from by
      have : tA T ≠ [] := fun e => by rw [e] at lA; simp at lA
      simpa using this] at h
    exact h
  have H6 : ∀ w, Calls Tryz.prog 52 #[.string (bs (tB T))] w fun e w' => e = .returned (.bool (decide (tB T ≠ []))) ∧ Below w.heap.size w w' := fun w => are_digits (tB T) (by omega) (tB_dg T hd) w
  have zA : (bs (tA T)).size ≤ 71 := by rw [bs_size]; omega
  have zB : (bs (tB T)).size ≤ 149 := by rw [bs_size]; omega
  have hsz : ((bs (tA T)).size : Int) = ((tA T).length : Int) := by rw [bs_size]
  have hab : bs (tA T) ++ bs (tB T) = bs (tA T ++ tB T) := cat_bs _ _
  rw [← hsz]
  have N1 : ∀ w, Calls Tryz.prog 48 #[.string (bs (45 :: tU T)), .string ⟨#[45]⟩] w fun e w' => e = .returned (.string (bs (tU T))) ∧ w' = w := fun w => by
    have h := trimP (45 :: tU T) 45 w
    rw [minus_head] at h; exact h
  have U1 : ∀ w, Calls Tryz.prog 48 #[.string (bs (tU T)), .string ⟨#[45]⟩] w fun e w' => e = .returned (.string (bs (tU T))) ∧ w' = w := fun w => by
    have h := trimP (tU T) 45 w
    rw [tU_head T hT hd 45 (by decide)] at h; exact h
  have U2 : ∀ w, Calls Tryz.prog 48 #[.string (bs (tU T)), .string ⟨#[43]⟩] w fun e w' => e = .returned (.string (bs (tU T))) ∧ w' = w := fun w => by
    have h := trimP (tU T) 43 w
    rw [tU_head T hT hd 43 (by decide)] at h; exact h
  have ne : tU T ≠ 45 :: tU T := fun e => by
    have := congrArg List.length e
    simp at this
  by_cases hb : tB T = []
  · rw [show decide (tB T ≠ []) = false from by simp [hb]] at H6 H4
    cases neg
    · exact parse_uw _ _ _ _ _ hab zA zB (beq_eq _) U1 U2 H3 H4 H5 H6 w
    · exact parse_nw _ _ _ _ _ hab zA zB (beq_ne _ _ ne) N1 H3 H4 H5 H6 w
  · rw [show decide (tB T ≠ []) = true from by simp [hb]] at H6 H4
    cases neg
    · exact parse_up _ _ _ _ _ hab zA zB (beq_eq _) U1 U2 H3 H4 H5 H6 w
    · exact parse_np _ _ _ _ _ hab zA zB (beq_ne _ _ ne) N1 H3 H4 H5 H6 w
theorem tS_len (S : Int) : (tS S).length ≤ 222 := by
  have h := tU_len (dL (ab S)) (dL_len _)
  unfold tS
  split
  · simp; omega
  · omega
set_option maxRecDepth 8000 in
set_option maxHeartbeats 1600000 in
/-- A sum's text is read back. -/
theorem fromtext_any (S : Int) (h : Sg S) (w : World) : Calls Tryz.prog 5 #[.string (bs (tS S))] w fun e w' => e = .returned (.tuple #[.agg (sm S), .int .i64 0]) ∧ Below w.heap.size w w' := by
  obtain ⟨neg, hneg⟩ : ∃ neg, neg = decide (S < 0) := ⟨_, rfl⟩
  have hlen := tS_len S
  have hz : ((bs (tS S)).size : Int) ≤ 222 := by rw [bs_size]; omega
  obtain ⟨m, hm⟩ : ∃ m : Int, m = ((tA (dL (ab S))).length : Int) := ⟨_, rfl⟩
  obtain ⟨al, hal⟩ : ∃ al, al = bs (tA (dL (ab S)) ++ tB (dL (ab S))) := ⟨_, rfl⟩
  have HP : Hid (∀ w, Calls Tryz.prog 22 #[.string (bs (tS S))] w fun e w' => e = .returned (.tuple #[.agg #[.bool neg, .string al, .int .i64 m, .int .i64 0], .bool true]) ∧ Below w.heap.size w w') := fun w => by
    have h := parse_any neg (dL (ab S)) (dL_len _) (dL_dg _) w
    rw [hm, hal]
    have e : (if neg then 45 :: tU (dL (ab S)) else tU (dL (ab S))) = tS S := by
      unfold tS; rw [hneg]
      by_cases hs : S < 0 <;> simp [hs]
    rw [e] at h; exact h
  have HL : Hid (∀ w, Calls Tryz.prog 23 #[.agg #[.bool neg, .string al, .int .i64 m, .int .i64 0]] w fun e w' => e = .returned (.tuple #[.agg (dgs (ab S)), .bool true]) ∧ Below w.heap.size w w') := fun w => by
    rw [hm, hal, ← dv_dL]; exact lay_any neg (dL (ab S)) (dL_len _) w
  have HS : Hid (∀ w, Calls Tryz.prog 24 #[.agg (dgs (ab S)), .bool neg] w fun e w' => e = .returned (.tuple #[.agg (sm S), .int .i64 0]) ∧ Below w.heap.size w w') := fun w => by
    rw [hneg]; exact sum_any S h w
  have hds := dgs_size (ab S)
  have hdo := dgs_one (ab S)
  obtain ⟨v, hv, hvb, hvs, hv0⟩ : ∃ v, w.alloc (.cells #[.int .u64 0, .int .u64 0, .int .u64 0, .int .u64 0, .int .u64 0, .int .u64 0] 25) = v ∧ Below w.heap.size w v ∧ v.heap.size = w.heap.size + 1 ∧ v.heap[w.heap.size]? = some (.cells (sm 0) 25 (0, 0)) := by
    refine ⟨_, rfl, (Below.refl _ _).alloc (Nat.le_refl _) _, by simp, ?_⟩
    rw [zeros_sm]; exact heap_alloc_last w _
  generalize dgs (ab S) = ds at *
  generalize bs (tS S) = st9 at *
  clear hm hal hneg h hlen
  go_enter Tryz.func5, Tryz.ntmps5
  go_wp2_with (fail)
  clear hv
  refine (HP.out _).mono ?_
  rintro e1 w1 ⟨rfl, hw1⟩
  have b1 := below_chain hvb hw1 (Nat.le_refl _)
  have s1 := hw1.size
  have p0 := (hw1.block _ (by omega)).trans hv0
  obtain ⟨V1, hV1, bV1, sV1, q4, pV⟩ : ∃ V1, w1.alloc (.cells #[.bool neg, .string al, .int .i64 m, .int .i64 0] 52) = V1 ∧ Below w.heap.size w V1 ∧ V1.heap.size = w1.heap.size + 1 ∧ V1.heap[w1.heap.size]? = some (.cells #[.bool neg, .string al, .int .i64 m, .int .i64 0] 52 (0, 0)) ∧ V1.heap[w.heap.size]? = some (.cells (sm 0) 25 (0, 0)) :=
    ⟨_, rfl, b1.alloc b1.size _, by simp, heap_alloc_last w1 _, (blk_alloc _ _ _ (by omega)).trans p0⟩
  have HV1 : Hid (w1.alloc (.cells #[.bool neg, .string al, .int .i64 m, .int .i64 0] 52) = V1) := hV1
  obtain ⟨c0, -⟩ := cell_of4 q4 0 (.bool neg) rfl
  clear hV1 b1 hw1 p0 hvb hv0 HP
  go_wp2_with (fail)
  rw [HV1.out]
  refine (HL.out _).mono ?_
  rintro e2 w2 ⟨rfl, hw2⟩
  have b2 := below_chain bV1 hw2 (Nat.le_refl _)
  have s2 := hw2.size
  have p0 := (hw2.block _ (by omega)).trans pV
  have c0 := (hw2.cell (p := ⟨w1.heap.size, 0, none⟩) (by show w1.heap.size < V1.heap.size; omega)).trans c0
  have hz0 : (w2.alloc (.cells Tryz.zeroCells56 56)).heap[w2.heap.size]? = some (.cells z220 56 (0, 0)) := by rw [z220_eq]; exact heap_alloc_last w2 _
  obtain ⟨V2, hV2, bV2, sV2, q6, pV2, cV2⟩ : ∃ V, (w2.alloc (.cells Tryz.zeroCells56 56)).setRow w2.heap.size ds = V ∧ Below w.heap.size w V ∧ V.heap.size = w2.heap.size + 1 ∧ V.heap[w2.heap.size]? = some (.cells ds 56 (0, 0)) ∧ V.heap[w.heap.size]? = some (.cells (sm 0) 25 (0, 0)) ∧ V.cell? ⟨w1.heap.size, 0, none⟩ = some (.bool neg) := by
    have bx : Below w2.heap.size w2 ((w2.alloc (.cells Tryz.zeroCells56 56)).setRow w2.heap.size ds) := below_setRow _ _ ((Below.refl _ _).alloc (Nat.le_refl _) _) (Nat.le_refl _)
    exact ⟨_, rfl, below_setRow _ _ (b2.alloc b2.size _) b2.size, by simp, setRow_heap _ w2.heap.size _ _ 56 (0, 0) hz0, (bx.block _ (by omega)).trans p0, (bx.cell (p := ⟨w1.heap.size, 0, none⟩) (by show w1.heap.size < w2.heap.size; omega)).trans c0⟩
  have hzs : z220.size = 220 := by simp [z220]
  generalize z220 = zz9 at *
  clear HV1 bV1 hw2 b2 pV p0 c0 HL q4
  go_wp2_with (first
    | (refine wpList_store220 rfl _ _ rfl w2.heap.size ds zz9 rfl rfl hds hzs hdo hz0 ?_; rw [hV2])
    | (refine wpList_load220 rfl _ rfl w2.heap.size ds rfl hds q6 ?_))
  refine (HS.out _).mono ?_
  rintro e3 w3 ⟨rfl, hw3⟩
  have b3 := below_chain bV2 hw3 (Nat.le_refl _)
  have p0 := (hw3.block _ (by omega)).trans pV2
  have hone := sm_one S
  have hbel := below_setRow w.heap.size (sm S) b3 (Nat.le_refl _)
  have hld : (loadVar 25 ⟨w.heap.size, 0, none⟩).run Tryz.prog (w3.setRow w.heap.size (sm S)) = .ok (.agg (sm S)) (w3.setRow w.heap.size (sm S)) :=
    run_loadVar_row _ _ 25 25 _ (0, 0) _ (setRow_heap w3 w.heap.size _ _ 25 (0, 0) p0) Tryz.underlying25 rfl sizeSum
  clear hV2 hz0 bV2 hw3 HS pV2 cV2 q6
  go_wp2_with (refine wpList_store6 25 sizeSum rfl _ _ rfl w.heap.size (sm S) (sm 0) rfl rfl rfl rfl hone p0 ?_)
  refine bodyPost_ret (v := .tuple #[.agg (sm S), .int .i64 0]) ?_ rfl ⟨rfl, hbel⟩
  simp [results, Tryz.results5, asAddr, hld]
end Ty
end Go.Proofs.YtbnmjmlcedkoaabGreatDoor
