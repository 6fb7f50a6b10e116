import Derived.Test.YtbnmjmlcedkoaabGreatDoorTyFt
import Derived.Test.YtbnmjmlcedkoaabGreatDoorTyBk
import Derived.Test.YtbnmjmlcedkoaabGreatDoorTyBe
import Derived.Test.YtbnmjmlcedkoaabGreatDoorTyWk
namespace Go.Proofs.YtbnmjmlcedkoaabGreatDoor
namespace Ty
open Go.RowKit
set_option linter.unusedVariables false
theorem sizeWords : (Tryz.prog.info? 24).map (·.size) = some 6 := by kernel_rfl
theorem sm_letters (N : Int) : ∃ x0 x1 x2 x3 x4 x5 : Int, sm N = #[.int .u64 x0, .int .u64 x1, .int .u64 x2, .int .u64 x3, .int .u64 x4, .int .u64 x5] := ⟨_, _, _, _, _, _, rfl⟩
abbrev K6 (W : World) (g : Nat) (x0 x1 x2 x3 x4 x5 : Int) : Prop := (W.cell? ⟨g, 0, none⟩ = some (.int .u64 x0) ∧ W.cell? ⟨g, 1, none⟩ = some (.int .u64 x1) ∧ W.cell? ⟨g, 2, none⟩ = some (.int .u64 x2) ∧ W.cell? ⟨g, 3, none⟩ = some (.int .u64 x3) ∧ W.cell? ⟨g, 4, none⟩ = some (.int .u64 x4) ∧ W.cell? ⟨g, 5, none⟩ = some (.int .u64 x5))
theorem k6_on {W W' : World} {g : Nat} {x0 x1 x2 x3 x4 x5 : Int} (h : K6 W g x0 x1 x2 x3 x4 x5) (hb : Below W.heap.size W W') : K6 W' g x0 x1 x2 x3 x4 x5 := by
  have l : g < W.heap.size := World.block_lt_of_cell? W ⟨g, 0, none⟩ h.1
  exact ⟨(hb.cell (p := ⟨g, 0, none⟩) l).trans h.1, (hb.cell (p := ⟨g, 1, none⟩) l).trans h.2.1, (hb.cell (p := ⟨g, 2, none⟩) l).trans h.2.2.1, (hb.cell (p := ⟨g, 3, none⟩) l).trans h.2.2.2.1, (hb.cell (p := ⟨g, 4, none⟩) l).trans h.2.2.2.2.1, (hb.cell (p := ⟨g, 5, none⟩) l).trans h.2.2.2.2.2⟩
theorem k6_of {W : World} {g : Nat} {t : TypeId} {x0 x1 x2 x3 x4 x5 : Int} (h : W.heap[g]? = some (.cells #[.int .u64 x0, .int .u64 x1, .int .u64 x2, .int .u64 x3, .int .u64 x4, .int .u64 x5] t (0, 0))) : K6 W g x0 x1 x2 x3 x4 x5 :=
  ⟨(cell_of4 h 0 _ rfl).1, (cell_of4 h 1 _ rfl).1, (cell_of4 h 2 _ rfl).1, (cell_of4 h 3 _ rfl).1, (cell_of4 h 4 _ rfl).1, (cell_of4 h 5 _ rfl).1⟩
theorem eq_self (a b c d e f : Int) (w : World) : (Op.equalIn 10000 25 (.agg #[.int .u64 a, .int .u64 b, .int .u64 c, .int .u64 d, .int .u64 e, .int .u64 f]) (.agg #[.int .u64 a, .int .u64 b, .int .u64 c, .int .u64 d, .int .u64 e, .int .u64 f])).run Tryz.prog w = .ok true w := by
  rw [eq6 25 Tryz.underlying25 a b c d e f a b c d e f w]; simp
set_option maxRecDepth 8000 in
set_option maxHeartbeats 3200000 in
theorem back_walk (A u : Int) (hA : Sg A) (h0 : 0 ≤ u) (h1 : u < 4294967296) (w : World) (ht : Cl.TabAt w) :
    Calls Tryz.prog 4 #[.agg (sm A), .int .u32 u] w fun e w' => e = .returned (.bool true) ∧ Below w.heap.size w w' := by
  obtain ⟨x0, x1, x2, x3, x4, x5, hxA⟩ := sm_letters A
  obtain ⟨n0, n1, n2, n3, n4, n5, hxN⟩ := sm_letters (-A)
  obtain ⟨t0, t1, t2, t3, t4, t5, hxT⟩ := sm_letters (A + A)
  obtain ⟨u0, u1, u2, u3, u4, u5, hxU⟩ := sm_letters (A * 3)
  have HT : Hid (Cl.TabAt w) := ht
  have HN : Hid (∀ w, Calls Tryz.prog 12 #[.agg #[.int .u64 x0, .int .u64 x1, .int .u64 x2, .int .u64 x3, .int .u64 x4, .int .u64 x5]] w fun e w' => e = .returned (.agg #[.int .u64 n0, .int .u64 n1, .int .u64 n2, .int .u64 n3, .int .u64 n4, .int .u64 n5]) ∧ Below w.heap.size w w') := fun w => by have h := neg_any A w; rwa [hxN, hxA] at h
  have HM0 : Hid (∀ w, Calls Tryz.prog 11 #[.agg #[.int .u64 x0, .int .u64 x1, .int .u64 x2, .int .u64 x3, .int .u64 x4, .int .u64 x5], .agg #[.int .u64 n0, .int .u64 n1, .int .u64 n2, .int .u64 n3, .int .u64 n4, .int .u64 n5]] w fun e w' => e = .returned (.agg #[.int .u64 0, .int .u64 0, .int .u64 0, .int .u64 0, .int .u64 0, .int .u64 0]) ∧ Below w.heap.size w w') := fun w => by have h := merge_any A (-A) w; rwa [show A + -A = 0 from by omega, ← zeros_sm, hxN, hxA] at h
  have HM1 : Hid (∀ w, Calls Tryz.prog 13 #[.agg #[.int .u64 x0, .int .u64 x1, .int .u64 x2, .int .u64 x3, .int .u64 x4, .int .u64 x5], .int .i64 (-1)] w fun e w' => e = .returned (.agg #[.int .u64 n0, .int .u64 n1, .int .u64 n2, .int .u64 n3, .int .u64 n4, .int .u64 n5]) ∧ Below w.heap.size w w') := fun w => by have h := times_any A (-1) (by omega) (by omega) w; rwa [show A * -1 = -A from by omega, hxN, hxA] at h
  have HM3 : Hid (∀ w, Calls Tryz.prog 13 #[.agg #[.int .u64 x0, .int .u64 x1, .int .u64 x2, .int .u64 x3, .int .u64 x4, .int .u64 x5], .int .i64 3] w fun e w' => e = .returned (.agg #[.int .u64 u0, .int .u64 u1, .int .u64 u2, .int .u64 u3, .int .u64 u4, .int .u64 u5]) ∧ Below w.heap.size w w') := fun w => by have h := times_any A 3 (by omega) (by omega) w; rwa [hxU, hxA] at h
  have HAA : Hid (∀ w, Calls Tryz.prog 11 #[.agg #[.int .u64 x0, .int .u64 x1, .int .u64 x2, .int .u64 x3, .int .u64 x4, .int .u64 x5], .agg #[.int .u64 x0, .int .u64 x1, .int .u64 x2, .int .u64 x3, .int .u64 x4, .int .u64 x5]] w fun e w' => e = .returned (.agg #[.int .u64 t0, .int .u64 t1, .int .u64 t2, .int .u64 t3, .int .u64 t4, .int .u64 t5]) ∧ Below w.heap.size w w') := fun w => by have h := merge_any A A w; rwa [hxT, hxA] at h
  have HTA : Hid (∀ w, Calls Tryz.prog 11 #[.agg #[.int .u64 t0, .int .u64 t1, .int .u64 t2, .int .u64 t3, .int .u64 t4, .int .u64 t5], .agg #[.int .u64 x0, .int .u64 x1, .int .u64 x2, .int .u64 x3, .int .u64 x4, .int .u64 x5]] w fun e w' => e = .returned (.agg #[.int .u64 u0, .int .u64 u1, .int .u64 u2, .int .u64 u3, .int .u64 u4, .int .u64 u5]) ∧ Below w.heap.size w w') := fun w => by have h := merge_any (A + A) A w; rwa [show A + A + A = A * 3 from by omega, hxU, hxT, hxA] at h
  have E0 := eq_self 0 0 0 0 0 0
  have E1 := eq_self n0 n1 n2 n3 n4 n5
  have E2 := eq_self u0 u1 u2 u3 u4 u5
  have E3 := eq_self x0 x1 x2 x3 x4 x5
  have HTX : Hid (∀ w, Calls Tryz.prog 7 #[.agg #[.int .u64 x0, .int .u64 x1, .int .u64 x2, .int .u64 x3, .int .u64 x4, .int .u64 x5]] w fun e w' => e = .returned (.string (bs (tS A))) ∧ Below w.heap.size w w') := fun w => by have h := text_any A hA w; rwa [hxA] at h
  have HFT : Hid (∀ w, Calls Tryz.prog 5 #[.string (bs (tS A))] w fun e w' => e = .returned (.tuple #[.agg #[.int .u64 x0, .int .u64 x1, .int .u64 x2, .int .u64 x3, .int .u64 x4, .int .u64 x5], .int .i64 0]) ∧ Below w.heap.size w w') := fun w => by have h := fromtext_any A hA w; rwa [hxA] at h
  have HBY : Hid (∀ w, Calls Tryz.prog 15 #[.agg #[.int .u64 x0, .int .u64 x1, .int .u64 x2, .int .u64 x3, .int .u64 x4, .int .u64 x5]] w fun e w' => e = .returned (.string (strOfNums (by48s A))) ∧ Below w.heap.size w w') := fun w => by have h := bytes_any A w; rwa [hxA] at h
  have HFB : Hid (∀ w, Calls Tryz.prog 14 #[.string (strOfNums (by48s A))] w fun e w' => e = .returned (.tuple #[.agg #[.int .u64 x0, .int .u64 x1, .int .u64 x2, .int .u64 x3, .int .u64 x4, .int .u64 x5], .int .i64 0]) ∧ Below w.heap.size w w') := fun w => by have h := frombytes_back A w; rwa [hxA] at h
  have hbl : ((strOfNums (by48s A)).size : Int) = 48 := by rw [bytes_len]; rfl
  have HPU : Hid (∀ w, Cl.TabAt w → Calls Tryz.prog 19 #[.agg #[.int .u64 x0, .int .u64 x1, .int .u64 x2, .int .u64 x3, .int .u64 x4, .int .u64 x5], .int .u32 u] w fun e w' => e = .returned (.agg (sm (pt A u))) ∧ Below w.heap.size w w') := fun w ht => by
    have h := put_any A u h0 h1 w ht; rwa [hxA] at h
  have HXA : Hid (sm A = #[.int .u64 x0, .int .u64 x1, .int .u64 x2, .int .u64 x3, .int .u64 x4, .int .u64 x5]) := hxA
  have hW0 : (w.alloc (.cells (sm A) 24)).heap[w.heap.size]? = some (.cells (sm A) 24 (0, 0)) := heap_alloc_last w _
  have hal : ((w.alloc (.cells (sm A) 24)).alloc (.cells #[.int .u64 0, .int .u64 0, .int .u64 0, .int .u64 0, .int .u64 0, .int .u64 0] 25)).heap[w.heap.size + 1]? = some (.cells #[.int .u64 0, .int .u64 0, .int .u64 0, .int .u64 0, .int .u64 0, .int .u64 0] 25 (0, 0)) := by
    have h := heap_alloc_last (w.alloc (.cells (sm A) 24)) (.cells #[.int .u64 0, .int .u64 0, .int .u64 0, .int .u64 0, .int .u64 0, .int .u64 0] 25)
    have e : (w.alloc (.cells (sm A) 24)).heap.size = w.heap.size + 1 := by simp
    rw [e] at h; exact h
  obtain ⟨v, hv, hvb, hvs, hv1⟩ : ∃ v, ((w.alloc (.cells (sm A) 24)).alloc (.cells #[.int .u64 0, .int .u64 0, .int .u64 0, .int .u64 0, .int .u64 0, .int .u64 0] 25)).setRow (w.heap.size + 1) (sm A) = v ∧ Below w.heap.size w v ∧ v.heap.size = w.heap.size + 1 + 1 ∧ v.heap[w.heap.size + 1]? = some (.cells (sm A) 25 (0, 0)) :=
    ⟨_, rfl, below_setRow _ _ (((Below.refl _ _).alloc (Nat.le_refl _) _).alloc (by simp) _) (by omega), by simp, setRow_heap _ (w.heap.size + 1) _ _ 25 (0, 0) hal⟩
  have hone := sm_one A
  clear hxA hxN hxT hxU ht
  have hsA : (sm A).size = 6 := rfl
  go_enter Tryz.func4, Tryz.ntmps4
  go_wp2_with (first
    | (refine wpList_load6 24 _ Tryz.underlying24 sizeWords rfl _ rfl w.heap.size (sm A) rfl hsA hW0 ?_)
    | (refine wpList_load6 24 _ Tryz.underlying24 sizeWords rfl _ rfl w.heap.size (sm A) rfl hsA hW0 ?_)
    | (refine wpList_store6 25 sizeSum rfl _ _ rfl (w.heap.size + 1) (sm A) _ rfl rfl hsA rfl hone hal ?_; rw [hv]))
  clear hv hal hW0
  rw [HXA.out] at hv1 hone ⊢
  have HV : Hid (Below w.heap.size w v ∧ v.heap[w.heap.size + 1]? = some (.cells #[.int .u64 x0, .int .u64 x1, .int .u64 x2, .int .u64 x3, .int .u64 x4, .int .u64 x5] 25 (0, 0))) := ⟨hvb, hv1⟩
  have hS0 : Hid (K6 v.drew (w.heap.size + 1) x0 x1 x2 x3 x4 x5) := k6_of (W := v) hv1
  have ht0 : Cl.TabAt v.drew := tab_on HT.out hvb.drew
  clear hv1 hvb hsA hone
  go_region_held3 (fun W => K6 W (w.heap.size + 1) x0 x1 x2 x3 x4 x5) ((first | with_reducible exact hS0.out  | with_reducible exact hS1.out | with_reducible exact hS2.out | with_reducible exact hS3.out | with_reducible exact hS4.out | with_reducible exact hS5.out | with_reducible exact hS6.out | with_reducible exact hS7.out | with_reducible exact hS8.out))
    ((first
      | (go_at_call 10; refine (awake_any _ ht0).mono ?_; rintro e1 w1 ⟨rfl, hw1⟩; have hS1 : Hid (K6 w1 (w.heap.size + 1) x0 x1 x2 x3 x4 x5) := k6_on hS0.out hw1; have b1 := below_chain (Below.refl _ v.drew) hw1 (Nat.le_refl _))
      | (go_at_call 11; have hg := hS7.out; clear hg; refine (HTA.out _).mono ?_; rintro e8 w8 ⟨rfl, hw8⟩; have hS8 : Hid (K6 w8 (w.heap.size + 1) x0 x1 x2 x3 x4 x5) := k6_on hS7.out hw8; have b8 := below_chain b7 hw8 (Nat.le_refl _))
      | (go_at_call 11; have hg := hS6.out; clear hg; refine (HAA.out _).mono ?_; rintro e7 w7 ⟨rfl, hw7⟩; have hS7 : Hid (K6 w7 (w.heap.size + 1) x0 x1 x2 x3 x4 x5) := k6_on hS6.out hw7; have b7 := below_chain b6 hw7 (Nat.le_refl _))
      | (go_at_call 13; have hg := hS5.out; clear hg; refine (HM3.out _).mono ?_; rintro e6 w6 ⟨rfl, hw6⟩; have hS6 : Hid (K6 w6 (w.heap.size + 1) x0 x1 x2 x3 x4 x5) := k6_on hS5.out hw6; have b6 := below_chain b5 hw6 (Nat.le_refl _))
      | (go_at_call 12; have hg := hS4.out; clear hg; refine (HN.out _).mono ?_; rintro e5 w5 ⟨rfl, hw5⟩; have hS5 : Hid (K6 w5 (w.heap.size + 1) x0 x1 x2 x3 x4 x5) := k6_on hS4.out hw5; have b5 := below_chain b4 hw5 (Nat.le_refl _))
      | (go_at_call 13; have hg := hS3.out; clear hg; refine (HM1.out _).mono ?_; rintro e4 w4 ⟨rfl, hw4⟩; have hS4 : Hid (K6 w4 (w.heap.size + 1) x0 x1 x2 x3 x4 x5) := k6_on hS3.out hw4; have b4 := below_chain b3 hw4 (Nat.le_refl _))
      | (go_at_call 11; have hg := hS2.out; clear hg; refine (HM0.out _).mono ?_; rintro e3 w3 ⟨rfl, hw3⟩; have hS3 : Hid (K6 w3 (w.heap.size + 1) x0 x1 x2 x3 x4 x5) := k6_on hS2.out hw3; have b3 := below_chain b2 hw3 (Nat.le_refl _))
      | (go_at_call 12; have hg := hS1.out; clear hg; refine (HN.out _).mono ?_; rintro e2 w2 ⟨rfl, hw2⟩; have hS2 : Hid (K6 w2 (w.heap.size + 1) x0 x1 x2 x3 x4 x5) := k6_on hS1.out hw2; have b2 := below_chain b1 hw2 (Nat.le_refl _))))
  have B8 : Below w.heap.size w w8 := below_chain HV.out.1.drew b8 (Nat.le_refl _)
  have q8 : w8.heap[w.heap.size + 1]? = some (.cells #[.int .u64 x0, .int .u64 x1, .int .u64 x2, .int .u64 x3, .int .u64 x4, .int .u64 x5] 25 (0, 0)) := (b8.block _ (Array.getElem?_eq_some_iff.1 HV.out.2).1).trans HV.out.2
  have l8 : w.heap.size + 1 < w8.heap.size := (Array.getElem?_eq_some_iff.1 q8).1
  clear HN HM0 HM1 HM3 HAA HTA E0 E1 E2 hS0 hS1 hS2 hS3 hS4 hS5 hS6 hS7 hS8 b1 b2 b3 b4 b5 b6 b7 b8 hw1 hw2 hw3 hw4 hw5 hw6 hw7 hw8 HV ht0 hvs
  go_wp2_with (refine wpList_load6 25 _ Tryz.underlying25 sizeSum rfl _ rfl (w.heap.size + 1) #[.int .u64 x0, .int .u64 x1, .int .u64 x2, .int .u64 x3, .int .u64 x4, .int .u64 x5] rfl rfl q8 ?_)
  refine (HTX.out _).mono ?_
  rintro e9 w9 ⟨rfl, hw9⟩
  go_wp2_with (fail)
  refine (HFT.out _).mono ?_
  rintro e10 w10 ⟨rfl, hw10⟩
  have B10 : Below w.heap.size w w10 := below_chain (below_chain B8 hw9 (Nat.le_refl _)) hw10 (Nat.le_refl _)
  have s9 := hw9.size
  have s10 := hw10.size
  have q10 := (hw10.block _ (by omega)).trans ((hw9.block _ l8).trans q8)
  obtain ⟨V11, hV11, bV11, sV11, g6q, on11⟩ := var_new B10 A
  have hal11 := heap_alloc_last w10 (.cells #[.int .u64 0, .int .u64 0, .int .u64 0, .int .u64 0, .int .u64 0, .int .u64 0] 25)
  have hone11 := sm_one A
  rw [HXA.out] at hV11 g6q hone11
  have q11 := (on11 (w.heap.size + 1) (by omega)).trans q10
  clear hw9 hw10 HTX HFT B8 B10 q8 q10 on11
  go_wp2_with (first
    | (refine wpList_store6 25 sizeSum rfl _ _ rfl w10.heap.size #[.int .u64 x0, .int .u64 x1, .int .u64 x2, .int .u64 x3, .int .u64 x4, .int .u64 x5] _ rfl rfl rfl rfl hone11 hal11 ?_; rw [hV11])
    | (refine wpList_load6 25 _ Tryz.underlying25 sizeSum rfl _ rfl (w.heap.size + 1) #[.int .u64 x0, .int .u64 x1, .int .u64 x2, .int .u64 x3, .int .u64 x4, .int .u64 x5] rfl rfl q11 ?_))
  refine (HBY.out _).mono ?_
  rintro e12 w12 ⟨rfl, hw12⟩
  go_wp2_with (fail)
  refine (HFB.out _).mono ?_
  rintro e13 w13 ⟨rfl, hw13⟩
  have B13 : Below w.heap.size w w13 := below_chain (below_chain bV11 hw12 (Nat.le_refl _)) hw13 (Nat.le_refl _)
  have s12 := hw12.size
  have s13 := hw13.size
  have q13 := (hw13.block _ (by omega)).trans ((hw12.block _ (by omega)).trans q11)
  have g13 := (hw13.block _ (by omega)).trans ((hw12.block _ (by omega)).trans g6q)
  obtain ⟨V14, hV14, bV14, sV14, g8q, on14⟩ := var_new B13 A
  have hal14 := heap_alloc_last w13 (.cells #[.int .u64 0, .int .u64 0, .int .u64 0, .int .u64 0, .int .u64 0, .int .u64 0] 25)
  rw [HXA.out] at hV14 g8q
  have q14 := (on14 (w.heap.size + 1) (by omega)).trans q13
  have g14 := (on14 w10.heap.size (by omega)).trans g13
  clear hw12 hw13 HFB bV11 B13 q11 g6q q13 g13 on14 hV11 hal11
  obtain ⟨ca0, ca1, ca2, ca3, ca4, ca5⟩ := k6_of q14
  obtain ⟨cb0, cb1, cb2, cb3, cb4, cb5⟩ := k6_of g14
  obtain ⟨cc0, cc1, cc2, cc3, cc4, cc5⟩ := k6_of g8q
  go_wp2_with (first
    | (refine wpList_store6 25 sizeSum rfl _ _ rfl w13.heap.size #[.int .u64 x0, .int .u64 x1, .int .u64 x2, .int .u64 x3, .int .u64 x4, .int .u64 x5] _ rfl rfl rfl rfl hone11 hal14 ?_; rw [hV14])
    | (go_at_call 9; refine (Cl.num_any _ _).mono ?_; rintro e90 w90 ⟨rfl, hw90⟩; subst w90))
  refine (HBY.out _).mono ?_
  rintro e15 w15 ⟨rfl, hw15⟩
  have B15 : Below w.heap.size w w15 := below_chain bV14 hw15 (Nat.le_refl _)
  have s15 := hw15.size
  have q15 := (hw15.block _ (by omega)).trans q14
  clear ca0 ca1 ca2 ca3 ca4 ca5 cb0 cb1 cb2 cb3 cb4 cb5 cc0 cc1 cc2 cc3 cc4 cc5 hw15 HBY hV14 hal14 bV14 q14 g14 g8q
  go_wp2_with (fail)
  refine (finite_one u h0 h1 w15 _).mono ?_
  rintro e16 w16 ⟨⟨fa, fn, fc, rfl, hfn⟩, hw16⟩
  have B16 : Below w.heap.size w w16 := below_chain B15 hw16 (Nat.le_refl _)
  have s16 := hw16.size
  have q16 := (hw16.block _ (by omega)).trans q15
  have ht16 := tab_on HT.out B16
  clear hw16 B15 q15
  by_cases hf : u % 2147483648 < 2139095040
  · have hn2 : ((fn : Int) == 0) = false := by
      have : ¬ fn = 0 := fun e => hfn.1 e hf
      simp; omega
    have HOF : Hid (∀ t, Calls Tryz.prog 17 #[.slice (some ⟨w16.heap.size, 0, none⟩) 1 1] (w16.alloc (.cells #[.float .f32 u.toNat] t)) fun e w' => e = .returned (.tuple #[.agg (sm (un u)), .int .i64 0]) ∧ Below w16.heap.size w16 w') := fun t => by
      have h := of_one' u h0 h1 w16 t ht16
      rwa [(of_fin u hf).1, (of_fin u hf).2] at h
    obtain ⟨Xn, hXn, HR⟩ : ∃ Xn : Nat, (Xn : Int) = (if u = 2147483648 then 0 else u) ∧ Hid (∀ k : Int, 0 ≤ k → k ≤ 3 → ∀ w, Calls Tryz.prog 20 #[.agg (sm (un u)), .int .i64 k] w fun e w' => e = .returned (.tuple #[.float .f32 Xn, .int .i64 0]) ∧ Below w.heap.size w w') := by
      refine ⟨(if u = 2147483648 then 0 else u).toNat, ?_, fun k k0 k1 w => one_round u k h0 h1 hf k0 k1 w⟩
      by_cases e : u = 2147483648
      · rw [if_pos e]; rfl
      · rw [if_neg e]; omega
    generalize un u = X at *
    clear hfn hf HPU hbl HXA E3 ht16 hone11
    go_wp2_with (go_at_call 18; refine (float_any u _).mono ?_; rintro e91 w91 ⟨rfl, hw91⟩; subst w91)
    refine (HOF.out _).mono ?_
    rintro e17 w17 ⟨rfl, hw17⟩
    have B17 : Below w.heap.size w w17 := below_chain B16 hw17 (Nat.le_refl _)
    obtain ⟨V18, hV18, bV18, sV18, g12, on18⟩ := var_new B17 X
    have hal18 := heap_alloc_last w17 (.cells #[.int .u64 0, .int .u64 0, .int .u64 0, .int .u64 0, .int .u64 0, .int .u64 0] 25)
    have hone18 := sm_one X
    clear hw17 HOF B16 B17 on18 q16
    go_wp2_with (first
      | (refine wpList_store6 25 sizeSum rfl _ _ rfl w17.heap.size (sm X) _ rfl rfl rfl rfl hone18 hal18 ?_; rw [hV18])
      | (go_at_call 9; refine (Cl.num_any _ _).mono ?_; rintro e92 w92 ⟨rfl, hw92⟩; subst w92))
    clear hV18 hal18 hone18
    go_loopw [14, 15, 16, 17] (fun m _ _ _ wr => ∃ k : Nat, k ≤ 4 ∧ m = .int .i64 k ∧ Below w.heap.size w wr ∧ wr.heap[w17.heap.size]? = some (.cells (sm X) 25 (0, 0))) (fun m _ _ _ _ => 4 - (intOf m).toNat)
    case atStart => exact ⟨0, by omega, rfl, bV18, g12⟩
    case round =>
      clear bV18 g12
      obtain ⟨k, hk, rfl, bR, qR⟩ := hrel
      by_cases hlt : k < 4
      · have HRK : Hid (∀ w, Calls Tryz.prog 20 #[.agg (sm X), .int .i64 k] w fun e w' => e = .returned (.tuple #[.float .f32 Xn, .int .i64 0]) ∧ Below w.heap.size w w') := HR.out k (by omega) (by omega)
        go_wp2_with (refine wpList_load6 25 _ Tryz.underlying25 sizeSum rfl _ rfl w17.heap.size (sm X) rfl rfl qR ?_)
        refine (HRK.out _).mono ?_
        rintro e19 w19 ⟨rfl, hw19⟩
        have b19 : Below w.heap.size w w19 := below_chain bR hw19 (Nat.le_refl _)
        have q19 := (hw19.block _ (Array.getElem?_eq_some_iff.1 qR).1).trans qR
        clear hw19 HRK bR qR HR
        by_cases hu : u = 2147483648
        · rw [if_pos hu] at hXn
          have hub : (u == 2147483648) = true := by simp [hu]
          clear hu
          go_wp2_with (first
            | (go_at_call 9; refine (Cl.num_any _ _).mono ?_; rintro e93 w93 ⟨rfl, hw93⟩; subst w93)
            | (go_at_call 21; refine (fbits_any _ _).mono ?_; rintro e94 w94 ⟨rfl, hw94⟩; subst w94))
          exact ⟨⟨k + 1, by omega, by go_num, b19, q19⟩, by simp [intOf]; omega⟩
        · rw [if_neg hu] at hXn
          have hub : (u == 2147483648) = false := by simp [hu]
          clear hu
          go_wp2_with (first
            | (go_at_call 9; refine (Cl.num_any _ _).mono ?_; rintro e93 w93 ⟨rfl, hw93⟩; subst w93)
            | (go_at_call 21; refine (fbits_any _ _).mono ?_; rintro e94 w94 ⟨rfl, hw94⟩; subst w94))
          exact ⟨⟨k + 1, by omega, by go_num, b19, q19⟩, by simp [intOf]; omega⟩
      · obtain rfl : k = 4 := by omega
        go_wp2
        go_ret
        exact ⟨rfl, bR⟩
  · have hn0 : fn = 0 := hfn.2 hf
    subst hn0
    have HOF : Hid (∀ t, Calls Tryz.prog 17 #[.slice (some ⟨w16.heap.size, 0, none⟩) 1 1] (w16.alloc (.cells #[.float .f32 u.toNat] t)) fun e w' => e = .returned (.tuple #[.agg (sm 0), .int .i64 16]) ∧ Below w16.heap.size w16 w') := fun t => by
      have h := of_one' u h0 h1 w16 t ht16
      rwa [(of_bad u hf).1, (of_bad u hf).2] at h
    have HPA : Hid (∀ w, Cl.TabAt w → Calls Tryz.prog 19 #[.agg #[.int .u64 x0, .int .u64 x1, .int .u64 x2, .int .u64 x3, .int .u64 x4, .int .u64 x5], .int .u32 u] w fun e w' => e = .returned (.agg #[.int .u64 x0, .int .u64 x1, .int .u64 x2, .int .u64 x3, .int .u64 x4, .int .u64 x5]) ∧ Below w.heap.size w w') := fun w ht => by
      have h := HPU.out w ht
      have e : pt A u = A := by unfold pt; exact if_neg hf
      rwa [e, HXA.out] at h
    clear hfn hf HPU hbl ht16 hone11
    go_wp2_with (go_at_call 18; refine (float_any u _).mono ?_; rintro e91 w91 ⟨rfl, hw91⟩; subst w91)
    refine (HOF.out _).mono ?_
    rintro e17 w17 ⟨rfl, hw17⟩
    have B17 : Below w.heap.size w w17 := below_chain B16 hw17 (Nat.le_refl _)
    have s17 := hw17.size
    have q17 := (hw17.block _ (by omega)).trans q16
    obtain ⟨V18, hV18, bV18, sV18, g12, on18⟩ := var_new B17 0
    have hal18 := heap_alloc_last w17 (.cells #[.int .u64 0, .int .u64 0, .int .u64 0, .int .u64 0, .int .u64 0, .int .u64 0] 25)
    have hone18 := sm_one 0
    have q18 := (on18 (w.heap.size + 1) (by omega)).trans q17
    clear hw17 HOF B16 B17 on18 q16 q17 g12
    go_wp2_with (refine wpList_store6 25 sizeSum rfl _ _ rfl w17.heap.size (sm 0) _ rfl rfl rfl rfl hone18 hal18 ?_; rw [hV18])
    clear hV18 hal18 hone18
    have hS0 : Hid (K6 V18.drew (w.heap.size + 1) x0 x1 x2 x3 x4 x5) := k6_of (W := V18) q18
    have ht18 : Cl.TabAt V18.drew := tab_on HT.out bV18.drew
    clear q18 sV18
    go_region_held3 (fun W => K6 W (w.heap.size + 1) x0 x1 x2 x3 x4 x5) ((first | with_reducible exact hS0.out | with_reducible exact hS1.out))
      ((first
        | (go_at_call 9; refine (Cl.num_any _ _).mono ?_; rintro e95 w95 ⟨rfl, hw95⟩; subst w95)
        | (go_at_call 19; refine (HPA.out _ ht18).mono ?_; rintro e1 w1 ⟨rfl, hw1⟩; have hS1 : Hid (K6 w1 (w.heap.size + 1) x0 x1 x2 x3 x4 x5) := k6_on hS0.out hw1)))
    all_goals
      have bF : Below w.heap.size w w1 := below_chain bV18.drew hw1 (Nat.le_refl _)
      clear hS0 hS1 hw1 HPA
      go_wp2
      go_ret
      exact ⟨rfl, bF⟩
end Ty
end Go.Proofs.YtbnmjmlcedkoaabGreatDoor
