import Derived.Test.YtbnmjmlcedkoaabDoorTyMn
import Derived.Test.YtbnmjmlcedkoaabDoorTyLawS
import Derived.Deep.DeepCutAuto
namespace Go.Proofs.YtbnmjmlcedkoaabDoor
namespace Ty
open Go.RowKit
set_option linter.unusedVariables false
theorem fne_fin (u v : Int) (hu : 0 ≤ u ∧ u < 4294967296 ∧ u % 2147483648 < 2139095040) (hv : 0 ≤ v ∧ v < 4294967296 ∧ v % 2147483648 < 2139095040) (w : World) : (binOp .neq 43 (.float .f32 u.toNat) (.float .f32 v.toNat)).run Tryd.prog w = .ok (.bool (!decide (un u = un v))) w := by
  have h := order_fin u.toNat v.toNat (by omega) (by omega) (by omega) (by omega)
  rw [Int.toNat_of_nonneg hu.1, Int.toNat_of_nonneg hv.1] at h
  have h2 : (FloatKind.f32.format.order u.toNat v.toNat != some .eq) = !decide (un u = un v) := by
    rw [h]
    by_cases e : un u = un v
    · rw [decide_eq_true e, e]; simp
    · rw [decide_eq_false e]
      have : compare (un u) (un v) ≠ .eq := fun hh => e (Int.compare_eq_eq.1 hh)
      simp [this]
  simp [binOp, Op.floatCmp, h2]
theorem fgt_fin (u v : Int) (hu : 0 ≤ u ∧ u < 4294967296 ∧ u % 2147483648 < 2139095040) (hv : 0 ≤ v ∧ v < 4294967296 ∧ v % 2147483648 < 2139095040) (hl : un u ≤ un v) (w : World) : (binOp .gtr 43 (.float .f32 u.toNat) (.float .f32 v.toNat)).run Tryd.prog w = .ok (.bool false) w := by
  have h := order_fin u.toNat v.toNat (by omega) (by omega) (by omega) (by omega)
  rw [Int.toNat_of_nonneg hu.1, Int.toNat_of_nonneg hv.1] at h
  have h2 : (FloatKind.f32.format.order u.toNat v.toNat == some .gt) = false := by
    rw [h]
    have : compare (un u) (un v) ≠ .gt := fun hh => by have := Int.compare_eq_gt.1 hh; omega
    simp [this]
  simp [binOp, Op.floatCmp, h2]
/-- Everything that the walk asks of the lesser and the greater sum. -/
structure Pair (S T M : Int) (LS LT : Nat) : Prop where
  hS : Sg S
  hT : Sg T
  le : S ≤ T
  iS : IsLen (ab S / 1) LS
  iT : IsLen (ab T / 1) LT
  rS : ∀ mode, 0 ≤ mode → mode ≤ 3 → ∀ w, Calls Tryd.prog 15 #[.agg (sm S), .int .i64 mode] w fun e w' => e = .returned (.tuple #[.float .f32 (rU (decide (S < 0)) (sz S 1 mode LS)).toNat, .int .i64 (rE (sz S 1 mode LS))]) ∧ Below w.heap.size w w'
  rT : ∀ mode, 0 ≤ mode → mode ≤ 3 → ∀ w, Calls Tryd.prog 15 #[.agg (sm T), .int .i64 mode] w fun e w' => e = .returned (.tuple #[.float .f32 (rU (decide (T < 0)) (sz T 1 mode LT)).toNat, .int .i64 (rE (sz T 1 mode LT))]) ∧ Below w.heap.size w w'
theorem pair_of (S T M : Int) (hS : Sg S) (hT : Sg T) (le : S ≤ T) : ∃ LS LT, Pair S T M LS LT := by
  obtain ⟨LS, iS, HOS⟩ := over_ex S 1 0 hS (by omega) (by omega) (by omega) (by omega)
  obtain ⟨LT, iT, HOT⟩ := over_ex T 1 0 hT (by omega) (by omega) (by omega) (by omega)
  exact ⟨LS, LT, hS, hT, le, iS, iT, fun mode m0 m1 w => round_any S mode _ _ w (HOS mode m0 m1), fun mode m0 m1 w => round_any T mode _ _ w (HOT mode m0 m1)⟩
set_option maxRecDepth 8000 in
set_option maxHeartbeats 800000 in
theorem mono_walk (A B md : Int) (hA : Sg A) (hB : Sg B) (d0 : -9223372036854775808 ≤ md) (d1 : md < 9223372036854775808) (w : World) (ht : Cl.TabAt w) :
    Calls Tryd.prog 4 #[.agg (sm A), .agg (sm B), .int .i64 md] w fun e w' => e = .returned (.bool true) ∧ Below w.heap.size w w' := by
  obtain ⟨M, hM, M0, M1⟩ : ∃ M : Int, wrap64 ((IntKind.u64.wrap md).tmod 4) = M ∧ 0 ≤ M ∧ M ≤ 3 := by
    have h0 : 0 ≤ IntKind.u64.wrap md := wrap_u64_nonneg md
    have h1 : (IntKind.u64.wrap md).tmod 4 = IntKind.u64.wrap md % 4 := Int.tmod_eq_emod_of_nonneg h0
    refine ⟨_, rfl, ?_⟩
    rw [h1]
    unfold wrap64
    omega
  have HT : Hid (Cl.TabAt w) := ht
  have HCP : Hid (∀ w, Calls Tryd.prog 14 #[.agg (sm A), .agg (sm B)] w fun e w' => e = .returned (.int .i64 (cp A B)) ∧ Below w.heap.size w w') := fun w => compare_any A B hA hB w
  have oneA := sm_one A
  have oneB := sm_one B
  have hsa : (sm A).size = 6 := rfl
  have hsb : (sm B).size = 6 := rfl
  obtain ⟨v0, hv0, b0, s0, pA0, pB0⟩ : ∃ v0, (w.alloc (.cells (sm A) 41)).alloc (.cells (sm B) 41) = v0 ∧ Below w.heap.size w v0 ∧ v0.heap.size = w.heap.size + 1 + 1 ∧ v0.heap[w.heap.size]? = some (.cells (sm A) 41 (0, 0)) ∧ v0.heap[w.heap.size + 1]? = some (.cells (sm B) 41 (0, 0)) := by
    obtain ⟨h1, h2⟩ := heap_two w (.cells (sm A) 41) (.cells (sm B) 41)
    exact ⟨_, rfl, ((Below.refl _ _).alloc (Nat.le_refl _) _).alloc (by simp) _, by simp, h1, h2⟩
  have hal1 := heap_alloc_last v0 (.cells #[.int .u64 0, .int .u64 0, .int .u64 0, .int .u64 0, .int .u64 0, .int .u64 0] 27)
  rw [s0] at hal1
  obtain ⟨v1, hv1, b1, s1, pA1, pB1, qA1⟩ : ∃ v1, (v0.alloc (.cells #[.int .u64 0, .int .u64 0, .int .u64 0, .int .u64 0, .int .u64 0, .int .u64 0] 27)).setRow (w.heap.size + 1 + 1) (sm A) = v1 ∧ Below w.heap.size w v1 ∧ v1.heap.size = w.heap.size + 1 + 1 + 1 ∧ v1.heap[w.heap.size]? = some (.cells (sm A) 41 (0, 0)) ∧ v1.heap[w.heap.size + 1]? = some (.cells (sm B) 41 (0, 0)) ∧ v1.heap[w.heap.size + 1 + 1]? = some (.cells (sm A) 27 (0, 0)) := by
    refine ⟨_, rfl, below_setRow _ _ (b0.alloc (by omega) _) (by omega), by simp [s0], ?_, ?_, setRow_heap _ (w.heap.size + 1 + 1) _ _ 27 (0, 0) hal1⟩
    · rw [setRow_other _ _ _ _ (by omega), blk_alloc _ _ _ (by omega)]; exact pA0
    · rw [setRow_other _ _ _ _ (by omega), blk_alloc _ _ _ (by omega)]; exact pB0
  have hal2 := heap_alloc_last v1 (.cells #[.int .u64 0, .int .u64 0, .int .u64 0, .int .u64 0, .int .u64 0, .int .u64 0] 27)
  rw [s1] at hal2
  obtain ⟨v2, hv2, b2, s2, pA2, pB2, qA2, qB2⟩ : ∃ v2, (v1.alloc (.cells #[.int .u64 0, .int .u64 0, .int .u64 0, .int .u64 0, .int .u64 0, .int .u64 0] 27)).setRow (w.heap.size + 1 + 1 + 1) (sm B) = v2 ∧ Below w.heap.size w v2 ∧ v2.heap.size = w.heap.size + 1 + 1 + 1 + 1 ∧ v2.heap[w.heap.size]? = some (.cells (sm A) 41 (0, 0)) ∧ v2.heap[w.heap.size + 1]? = some (.cells (sm B) 41 (0, 0)) ∧ v2.heap[w.heap.size + 1 + 1]? = some (.cells (sm A) 27 (0, 0)) ∧ v2.heap[w.heap.size + 1 + 1 + 1]? = some (.cells (sm B) 27 (0, 0)) := by
    refine ⟨_, rfl, below_setRow _ _ (b1.alloc (by omega) _) (by omega), by simp [s1], ?_, ?_, ?_, setRow_heap _ (w.heap.size + 1 + 1 + 1) _ _ 27 (0, 0) hal2⟩
    · rw [setRow_other _ _ _ _ (by omega), blk_alloc _ _ _ (by omega)]; exact pA1
    · rw [setRow_other _ _ _ _ (by omega), blk_alloc _ _ _ (by omega)]; exact pB1
    · rw [setRow_other _ _ _ _ (by omega), blk_alloc _ _ _ (by omega)]; exact qA1
  go_enter Tryd.func4, Tryd.ntmps4
  go_upto_if 27 with (first
    | (refine wpList_load6 41 _ Tryd.underlying41 sizeWords rfl _ rfl w.heap.size (sm A) rfl hsa pA0 ?_)
    | (refine wpList_load6 41 _ Tryd.underlying41 sizeWords rfl _ rfl (w.heap.size + 1) (sm B) rfl hsb pB1 ?_)
    | (refine wpList_store6 27 sizeSum rfl _ _ rfl (w.heap.size + 1 + 1) (sm A) _ rfl rfl hsa rfl oneA hal1 ?_; rw [hv1])
    | (refine wpList_store6 27 sizeSum rfl _ _ rfl (w.heap.size + 1 + 1 + 1) (sm B) _ rfl rfl hsb rfl oneB hal2 ?_; rw [hv2])
    | (refine wpList_load6 27 _ Tryd.underlying27 sizeSum rfl _ rfl (w.heap.size + 1 + 1) (sm A) rfl hsa qA2 ?_)
    | (refine wpList_load6 27 _ Tryd.underlying27 sizeSum rfl _ rfl (w.heap.size + 1 + 1 + 1) (sm B) rfl hsb qB2 ?_)
    | (go_at_call 14; refine (HCP.out _).mono ?_; rintro e3 w3 ⟨rfl, hw3⟩))
  clear hv0 hv1 hv2 hal1 hal2 pA0 pB0 pA1 pB1 qA1 b0 b1 s0 s1
  have b3 := below_chain b2 hw3 (Nat.le_refl _)
  have pA3 := (hw3.block _ (by omega)).trans pA2
  have pB3 := (hw3.block _ (by omega)).trans pB2
  have qA3 := (hw3.block _ (by omega)).trans qA2
  have qB3 := (hw3.block _ (by omega)).trans qB2
  have l3 : w.heap.size + 1 + 1 + 1 < w3.heap.size := (Array.getElem?_eq_some_iff.1 qB3).1
  clear hw3 pA2 pB2 qA2 qB2 b2 s2 HCP
  go_cut [27] (fun _ wx => ∃ S T LS LT, Pair S T M LS LT ∧ Below w.heap.size w wx ∧ wx.heap[w.heap.size + 1 + 1]? = some (.cells (sm S) 27 (0, 0)) ∧ wx.heap[w.heap.size + 1 + 1 + 1]? = some (.cells (sm T) 27 (0, 0)))
  case first =>
    by_cases hAB : A ≤ B
    · have hcp : ¬ 0 < cp A B := by unfold cp; split <;> (try split) <;> omega
      obtain ⟨LS, LT, PR⟩ := pair_of A B M hA hB hAB
      have HPR : Hid (∃ S T LS LT, Pair S T M LS LT ∧ Below w.heap.size w w3 ∧ w3.heap[w.heap.size + 1 + 1]? = some (.cells (sm S) 27 (0, 0)) ∧ w3.heap[w.heap.size + 1 + 1 + 1]? = some (.cells (sm T) 27 (0, 0))) := ⟨A, B, LS, LT, PR, b3, qA3, qB3⟩
      clear PR
      generalize cp A B = c at *
      go_wp2
      go_meet
      exact HPR.out
    · have hcp : 0 < cp A B := by unfold cp; rw [if_neg (by omega), if_pos (by omega)]; omega
      obtain ⟨LS, LT, PR⟩ := pair_of B A M hB hA (by omega)
      obtain ⟨v4, hv4, b4, s4, pA4, q4⟩ : ∃ v4, w3.setRow (w.heap.size + 1 + 1) (sm B) = v4 ∧ Below w.heap.size w v4 ∧ v4.heap.size = w3.heap.size ∧ v4.heap[w.heap.size]? = some (.cells (sm A) 41 (0, 0)) ∧ v4.heap[w.heap.size + 1 + 1 + 1]? = some (.cells (sm B) 27 (0, 0)) := by
        refine ⟨_, rfl, below_setRow _ _ b3 (by omega), by simp, ?_, ?_⟩
        · rw [setRow_other _ _ _ _ (by omega)]; exact pA3
        · rw [setRow_other _ _ _ _ (by omega)]; exact qB3
      have q4S : v4.heap[w.heap.size + 1 + 1]? = some (.cells (sm B) 27 (0, 0)) := by rw [← hv4]; exact setRow_heap w3 (w.heap.size + 1 + 1) _ _ 27 (0, 0) qA3
      obtain ⟨v5, hv5, bS, qS, qT⟩ : ∃ v5, v4.setRow (w.heap.size + 1 + 1 + 1) (sm A) = v5 ∧ Below w.heap.size w v5 ∧ v5.heap[w.heap.size + 1 + 1]? = some (.cells (sm B) 27 (0, 0)) ∧ v5.heap[w.heap.size + 1 + 1 + 1]? = some (.cells (sm A) 27 (0, 0)) := by
        refine ⟨_, rfl, below_setRow _ _ b4 (by omega), ?_, setRow_heap v4 (w.heap.size + 1 + 1 + 1) _ _ 27 (0, 0) q4⟩
        rw [setRow_other _ _ _ _ (by omega)]; exact q4S
      have HPR : Hid (∃ S T LS LT, Pair S T M LS LT ∧ Below w.heap.size w v5 ∧ v5.heap[w.heap.size + 1 + 1]? = some (.cells (sm S) 27 (0, 0)) ∧ v5.heap[w.heap.size + 1 + 1 + 1]? = some (.cells (sm T) 27 (0, 0))) := ⟨B, A, LS, LT, PR, bS, qS, qT⟩
      clear PR bS qS qT
      generalize cp A B = c at *
      go_wp2_with (first
        | (refine wpList_load6 41 _ Tryd.underlying41 sizeWords rfl _ rfl (w.heap.size + 1) (sm B) rfl hsb pB3 ?_)
        | (refine wpList_load6 41 _ Tryd.underlying41 sizeWords rfl _ rfl w.heap.size (sm A) rfl hsa pA4 ?_)
        | (refine wpList_store6 27 sizeSum rfl _ _ rfl (w.heap.size + 1 + 1) (sm B) _ rfl rfl hsb rfl oneB qA3 ?_; rw [hv4])
        | (refine wpList_store6 27 sizeSum rfl _ _ rfl (w.heap.size + 1 + 1 + 1) (sm A) _ rfl rfl hsa rfl oneA q4 ?_; rw [hv5]))
      go_meet
      exact HPR.out
  case rest =>
    obtain ⟨S, T, LS, LT, PR, bS, qS, qT⟩ := hcut
    have lS : w.heap.size + 1 + 1 + 1 < wc.heap.size := (Array.getElem?_eq_some_iff.1 qT).1
    clear hA hB b3 pA3 pB3 qA3 qB3 l3 oneA oneB
    have hsS : (sm S).size = 6 := rfl
    have hsT : (sm T).size = 6 := rfl
    have HPR : Hid (Pair S T M LS LT) := PR
    have HRS : Hid (∀ mode, 0 ≤ mode → mode ≤ 3 → ∀ w, Calls Tryd.prog 15 #[.agg (sm S), .int .i64 mode] w fun e w' => e = .returned (.tuple #[.float .f32 (rU (decide (S < 0)) (sz S 1 mode LS)).toNat, .int .i64 (rE (sz S 1 mode LS))]) ∧ Below w.heap.size w w') := PR.rS
    have HRT : Hid (∀ w, Calls Tryd.prog 15 #[.agg (sm T), .int .i64 M] w fun e w' => e = .returned (.tuple #[.float .f32 (rU (decide (T < 0)) (sz T 1 M LT)).toNat, .int .i64 (rE (sz T 1 M LT))]) ∧ Below w.heap.size w w') := PR.rT M M0 M1
    clear PR
    go_wp2_with (refine wpList_load6 27 _ Tryd.underlying27 sizeSum rfl _ rfl (w.heap.size + 1 + 1) (sm S) rfl hsS qS ?_)
    refine (HRS.out M M0 M1 _).mono ?_
    rintro e4 w4 ⟨rfl, hw4⟩
    have b4 := below_chain bS hw4 (Nat.le_refl _)
    have q4 := (hw4.block _ (by omega)).trans qS
    have r4 := (hw4.block _ lS).trans qT
    have l4 : w.heap.size + 1 + 1 + 1 < w4.heap.size := (Array.getElem?_eq_some_iff.1 r4).1
    clear hw4 qS qT lS bS
    go_wp2_with (refine wpList_load6 27 _ Tryd.underlying27 sizeSum rfl _ rfl (w.heap.size + 1 + 1 + 1) (sm T) rfl hsT r4 ?_)
    refine (HRT.out _).mono ?_
    rintro e5 w5 ⟨rfl, hw5⟩
    have b5 := below_chain b4 hw5 (Nat.le_refl _)
    have q5 := (hw5.block _ (by omega)).trans q4
    have l5 : w.heap.size + 1 + 1 < w5.heap.size := (Array.getElem?_eq_some_iff.1 q5).1
    clear hw5 q4 r4 l4 b4 HRT
    go_upto_region 9 with fail
    obtain ⟨uS, huS⟩ : ∃ uS, rU (decide (S < 0)) (sz S 1 M LS) = uS := ⟨_, rfl⟩
    obtain ⟨uT, huT⟩ : ∃ uT, rU (decide (T < 0)) (sz T 1 M LT) = uT := ⟨_, rfl⟩
    have hE : (rE (sz S 1 M LS) = 20 ∨ rE (sz S 1 M LS) = 0 ∧ rE (sz T 1 M LT) = 20) ∨ (rE (sz S 1 M LS) = 0 ∧ rE (sz T 1 M LT) = 0 ∧ ∀ w, (binOp .gtr 43 (.float .f32 uS.toNat) (.float .f32 uT.toNat)).run Tryd.prog w = .ok (.bool false) w) := by
      have PR := HPR.out
      by_cases cS : 2139095040 ≤ sz S 1 M LS
      · left; left; unfold rE; rw [if_pos cS]
      · by_cases cT : 2139095040 ≤ sz T 1 M LT
        · left; right; unfold rE; rw [if_neg cS, if_pos cT]; exact ⟨rfl, rfl⟩
        · right
          refine ⟨by unfold rE; rw [if_neg cS], by unfold rE; rw [if_neg cT], fun w => ?_⟩
          have h1 := round_mono S T M LS LT PR.hS PR.hT PR.le PR.iS PR.iT (by omega) (by omega)
          have h2 := rU_b (decide (S < 0)) _ (sz_nn S 1 M LS PR.hS (by omega)) (show sz S 1 M LS < 2139095040 by omega)
          have h3 := rU_b (decide (T < 0)) _ (sz_nn T 1 M LT PR.hT (by omega)) (show sz T 1 M LT < 2139095040 by omega)
          rw [huS] at h1 h2
          rw [huT] at h1 h3
          exact fgt_fin uS uT h2 h3 h1 w
    rw [huS, huT]
    clear huS huT
    generalize rE (sz S 1 M LS) = ES at *
    generalize rE (sz T 1 M LT) = ET at *
    go_cut [62] (fun c wx => c = .bool false ∧ Below w.heap.size w wx ∧ wx.heap[w.heap.size + 1 + 1]? = some (.cells (sm S) 27 (0, 0)))
    case first =>
      clear HPR HRS
      go_wp2_with (fail)
      refine (awake_any w5 (tab_on HT.out b5)).mono ?_
      rintro e6 w6 ⟨rfl, hw6⟩
      have b6 := below_chain b5 hw6 (Nat.le_refl _)
      have q6 := (hw6.block _ l5).trans q5
      clear hw6 q5 b5 l5
      rcases hE with (hE | ⟨hE, hE'⟩) | ⟨hE, hE', hGT⟩
      all_goals
        subst hE
        try subst hE'
        go_wp2_with (go_at_call 10; refine (Cl.num_any _ _).mono ?_; rintro e9 w9 ⟨rfl, hw9⟩; subst w9)
        go_meet
        exact ⟨rfl, b6, q6⟩
    case rest =>
      obtain ⟨rfl, b6, q6⟩ := hcut
      clear hE b5 q5 l5
      have l6 : w.heap.size + 1 + 1 < wc.heap.size := (Array.getElem?_eq_some_iff.1 q6).1
      have HR2 : Hid (∀ w, Calls Tryd.prog 15 #[.agg (sm S), .int .i64 2] w fun e w' => e = .returned (.tuple #[.float .f32 (rU (decide (S < 0)) (sz S 1 2 LS)).toNat, .int .i64 (rE (sz S 1 2 LS))]) ∧ Below w.heap.size w w') := HRS.out 2 (by omega) (by omega)
      have HR3 : Hid (∀ w, Calls Tryd.prog 15 #[.agg (sm S), .int .i64 3] w fun e w' => e = .returned (.tuple #[.float .f32 (rU (decide (S < 0)) (sz S 1 3 LS)).toNat, .int .i64 (rE (sz S 1 3 LS))]) ∧ Below w.heap.size w w') := HRS.out 3 (by omega) (by omega)
      go_wp2_with (refine wpList_load6 27 _ Tryd.underlying27 sizeSum rfl _ rfl (w.heap.size + 1 + 1) (sm S) rfl hsS q6 ?_)
      refine (HR2.out _).mono ?_
      rintro e7 w7 ⟨rfl, hw7⟩
      have b7 := below_chain b6 hw7 (Nat.le_refl _)
      have q7 := (hw7.block _ l6).trans q6
      have l7 : w.heap.size + 1 + 1 < w7.heap.size := (Array.getElem?_eq_some_iff.1 q7).1
      clear hw7
      go_wp2_with (refine wpList_load6 27 _ Tryd.underlying27 sizeSum rfl _ rfl (w.heap.size + 1 + 1) (sm S) rfl hsS q7 ?_)
      refine (HR3.out _).mono ?_
      rintro e8 w8 ⟨rfl, hw8⟩
      have b8 := below_chain b7 hw8 (Nat.le_refl _)
      have q8 := (hw8.block _ l7).trans q7
      have l8 : w.heap.size + 1 + 1 < w8.heap.size := (Array.getElem?_eq_some_iff.1 q8).1
      clear hw8 b7 q7 l7
      by_cases c2 : 2139095040 ≤ sz S 1 2 LS
      · have hE2 : rE (sz S 1 2 LS) = 20 := by unfold rE; rw [if_pos c2]
        have hE3 : rE (sz S 1 3 LS) = 20 ∨ rE (sz S 1 3 LS) = 0 := by unfold rE; split <;> simp
        rw [hE2]
        generalize (rU (decide (S < 0)) (sz S 1 2 LS)).toNat = u2 at *
        generalize (rU (decide (S < 0)) (sz S 1 3 LS)).toNat = u3 at *
        rcases hE3 with hE3 | hE3
        all_goals
          rw [hE3]
          clear hE2 hE3
          go_wp2_with (go_at_call 10; refine (Cl.num_any _ _).mono ?_; rintro e9 w9 ⟨rfl, hw9⟩; subst w9)
          go_ret
          exact ⟨rfl, b8⟩
      have hE2 : rE (sz S 1 2 LS) = 0 := by unfold rE; rw [if_neg c2]
      by_cases c3 : 2139095040 ≤ sz S 1 3 LS
      · have hE3 : rE (sz S 1 3 LS) = 20 := by unfold rE; rw [if_pos c3]
        rw [hE2, hE3]
        generalize (rU (decide (S < 0)) (sz S 1 2 LS)).toNat = u2 at *
        generalize (rU (decide (S < 0)) (sz S 1 3 LS)).toNat = u3 at *
        clear hE2 hE3
        go_wp2_with (go_at_call 10; refine (Cl.num_any _ _).mono ?_; rintro e9 w9 ⟨rfl, hw9⟩; subst w9)
        go_ret
        exact ⟨rfl, b8⟩
      have hE3 : rE (sz S 1 3 LS) = 0 := by unfold rE; rw [if_neg c3]
      rw [hE2, hE3]
      have PR := HPR.out
      obtain ⟨u, v, hu, hv, ub, vb, f1, f2, f3, f4, f5, ubb, vbb, f6⟩ := share S 1 LS PR.hS (by omega) PR.iS (by omega) (by omega)
      rw [hu, hv]
      rw [Int.mul_one] at f1 f2 f3 f4
      have hev : ∀ m, m = 0 ∨ m = 1 → rE (sz S 1 m LS) = 0 ∧ (rU (decide (S < 0)) (sz S 1 m LS) = u ∨ rU (decide (S < 0)) (sz S 1 m LS) = v) := fun m hm => by
        rcases between S m LS PR.hS PR.iS hm with e | e
        · rw [e]; exact ⟨hE2, Or.inl hu⟩
        · rw [e]; exact ⟨hE3, Or.inr hv⟩
      obtain ⟨x0, hx0, HR0⟩ : ∃ x0, (x0 = u ∨ x0 = v) ∧ Hid (∀ w, Calls Tryd.prog 15 #[.agg (sm S), .int .i64 0] w fun e w' => e = .returned (.tuple #[.float .f32 x0.toNat, .int .i64 0]) ∧ Below w.heap.size w w') := by
        obtain ⟨h1, h2⟩ := hev 0 (Or.inl rfl)
        refine ⟨_, h2, fun w => ?_⟩
        have h := HRS.out 0 (by omega) (by omega) w
        rw [h1] at h; exact h
      obtain ⟨x1, hx1, HR1⟩ : ∃ x1, (x1 = u ∨ x1 = v) ∧ Hid (∀ w, Calls Tryd.prog 15 #[.agg (sm S), .int .i64 1] w fun e w' => e = .returned (.tuple #[.float .f32 x1.toNat, .int .i64 0]) ∧ Below w.heap.size w w') := by
        obtain ⟨h1, h2⟩ := hev 1 (Or.inr rfl)
        refine ⟨_, h2, fun w => ?_⟩
        have h := HRS.out 1 (by omega) (by omega) w
        rw [h1] at h; exact h
      have HOu : Hid (∀ W, Below w.heap.size w W → Calls Tryd.prog 16 #[.float .f32 u.toNat] W fun e w' => e = .returned (.agg (sm (un u))) ∧ Below W.heap.size W w') := fun W hb => of_one u ub.1 ub.2.1 ub.2.2 W (tab_on HT.out hb)
      have HOv : Hid (∀ W, Below w.heap.size w W → Calls Tryd.prog 16 #[.float .f32 v.toNat] W fun e w' => e = .returned (.agg (sm (un v))) ∧ Below W.heap.size W w') := fun W hb => of_one v vb.1 vb.2.1 vb.2.2 W (tab_on HT.out hb)
      have sgu : Sg (un u) := by have h := sg_mul (un u) 1 ubb (by omega) (by omega); rw [Int.mul_one] at h; exact h
      have sgv : Sg (un v) := by have h := sg_mul (un v) 1 vbb (by omega) (by omega); rw [Int.mul_one] at h; exact h
      have HCu : Hid (∀ w, Calls Tryd.prog 14 #[.agg (sm (un u)), .agg (sm S)] w fun e w' => e = .returned (.int .i64 (cp (un u) S)) ∧ Below w.heap.size w w') := fun w => compare_any _ _ sgu PR.hS w
      have HCv : Hid (∀ w, Calls Tryd.prog 14 #[.agg (sm (un v)), .agg (sm S)] w fun e w' => e = .returned (.int .i64 (cp (un v) S)) ∧ Below w.heap.size w w') := fun w => compare_any _ _ sgv PR.hS w
      have HFE : Hid (∀ w, (binOp .eql 43 (.float .f32 u.toNat) (.float .f32 v.toNat)).run Tryd.prog w = .ok (.bool (decide (un u = un v))) w) := feq_fin u v ub vb
      have HFV : Hid (∀ w, (binOp .eql 43 (.float .f32 v.toNat) (.float .f32 v.toNat)).run Tryd.prog w = .ok (.bool true) w) := fun w => by have h := feq_fin v v vb vb w; simpa using h
      have HNU : Hid (∀ w, (binOp .neq 43 (.float .f32 u.toNat) (.float .f32 u.toNat)).run Tryd.prog w = .ok (.bool false) w) := fun w => by have h := fne_fin u u ub ub w; simpa using h
      have HNV : Hid (∀ w, (binOp .neq 43 (.float .f32 v.toNat) (.float .f32 v.toNat)).run Tryd.prog w = .ok (.bool false) w) := fun w => by have h := fne_fin v v vb vb w; simpa using h
      have HNX : Hid (∀ w, (binOp .neq 43 (.float .f32 v.toNat) (.float .f32 u.toNat)).run Tryd.prog w = .ok (.bool (!decide (un v = un u))) w) := fne_fin v u vb ub
      have HBU : Hid (((u.toNat : Nat) : Int) = u) := Int.toNat_of_nonneg ub.1
      have HF : Hid (un u ≤ S ∧ S ≤ un v ∧ (un u = S ↔ ix S 1 LS = false) ∧ (un v = S ↔ ix S 1 LS = false) ∧ (un u = un v ↔ ix S 1 LS = false) ∧ (ix S 1 LS = true → (u < 2147483648 ∧ v = u + 1) ∨ (2147483648 < u ∧ v = u - 1))) := ⟨f1, f2, f3, f4, f5, f6⟩
      clear f1 f2 f3 f4 f5 f6 hu hv hE2 hE3 hev sgu sgv ubb vbb PR HR2 HR3 HRS HPR c2 c3
      generalize un u = xu at *
      generalize un v = xv at *
      generalize ix S 1 LS = X at *
      have hcw8 := (cells6 (row_sm q8)).1
      have bw8 := b8
      have HQ8 : Hid (w8.heap[w.heap.size + 1 + 1]? = some (.cells (sm S) 27 (0, 0))) := q8
      have hsq : sm S = #[.int .u64 (wd S 0), .int .u64 (wd S 1), .int .u64 (wd S 2), .int .u64 (wd S 3), .int .u64 (wd S 4), .int .u64 (wd S 5)] := rfl
      rw [hsq] at HCu HCv
      clear hsq q8 b6 q6 l6
      go_wp2_with (go_at_call 10; refine (Cl.num_any _ _).mono ?_; rintro e9 w9 ⟨rfl, hw9⟩; subst w9)
      have hdp : Hid (C6 w8.drew (w.heap.size + 1 + 1) S) := hcw8
      have bdp : Below w.heap.size w w8.drew := bw8.drew
      go_region_held3 (fun W => C6 W (w.heap.size + 1 + 1) S) ((first | with_reducible exact hdp.out | with_reducible exact hpa.out | with_reducible exact hpc.out))
        ((first
          | (go_at_call 16; refine (HOu.out _ bdp).mono ?_; rintro epa pa ⟨rfl, hwpa⟩; have hpa : Hid (C6 pa (w.heap.size + 1 + 1) S) := C6.on hdp.out hwpa; have bpa := below_chain bdp hwpa (Nat.le_refl _))
          | (go_at_call 14; refine (HCu.out _).mono ?_; rintro epc pc ⟨rfl, hwpc⟩; have hpc : Hid (C6 pc (w.heap.size + 1 + 1) S) := C6.on hpa.out hwpc; have bpc := below_chain bpa hwpc (Nat.le_refl _))))
      have hcpc := hpc.out
      have HPQ : Hid (pc.heap[w.heap.size + 1 + 1]? = some (.cells (sm S) 27 (0, 0))) := by
        have h1 : w8.drew.heap[w.heap.size + 1 + 1]? = some (.cells (sm S) 27 (0, 0)) := HQ8.out
        have h2 := (hwpa.block _ (Array.getElem?_eq_some_iff.1 h1).1).trans h1
        exact (hwpc.block _ (Array.getElem?_eq_some_iff.1 h2).1).trans h2
      clear hdp bdp hwpa hwpc hpa bpa HOu HCu hcw8 HQ8
      go_wp2_with (fail)
      have hdq : Hid (C6 pc.drew (w.heap.size + 1 + 1) S) := hcpc
      have bdq : Below w.heap.size w pc.drew := bpc.drew
      go_region_held3 (fun W => C6 W (w.heap.size + 1 + 1) S) ((first | with_reducible exact hdq.out | with_reducible exact hqa.out | with_reducible exact hqc.out))
        ((first
          | (go_at_call 16; refine (HOv.out _ bdq).mono ?_; rintro eqa qa ⟨rfl, hwqa⟩; have hqa : Hid (C6 qa (w.heap.size + 1 + 1) S) := C6.on hdq.out hwqa; have bqa := below_chain bdq hwqa (Nat.le_refl _))
          | (go_at_call 14; refine (HCv.out _).mono ?_; rintro eqc qc ⟨rfl, hwqc⟩; have hqc : Hid (C6 qc (w.heap.size + 1 + 1) S) := C6.on hqa.out hwqc; have bqc := below_chain bqa hwqc (Nat.le_refl _))))
      have HQQ : Hid (qc.heap[w.heap.size + 1 + 1]? = some (.cells (sm S) 27 (0, 0))) := by
        have h1 : pc.drew.heap[w.heap.size + 1 + 1]? = some (.cells (sm S) 27 (0, 0)) := HPQ.out
        have h2 := (hwqa.block _ (Array.getElem?_eq_some_iff.1 h1).1).trans h1
        exact (hwqc.block _ (Array.getElem?_eq_some_iff.1 h2).1).trans h2
      clear hdq bdq hwqa hwqc hqa bqa HOv HCv hcpc HPQ hqc hpc bpc
      obtain ⟨a, b, ha, hb, hfe, hX⟩ : ∃ a b, cp xu S = a ∧ cp xv S = b ∧ (∀ w, (binOp .eql 43 (.float .f32 u.toNat) (.float .f32 v.toNat)).run Tryd.prog w = .ok (.bool (a == 0)) w) ∧ ((a = 0 ∧ b = 0) ∨ (a = -1 ∧ b = 1 ∧ ((u < 2147483648 ∧ v = u + 1) ∨ (2147483648 < u ∧ v = u - 1)))) := by
        obtain ⟨f1, f2, f3, f4, f5, f6⟩ := HF.out
        cases X
        · have e1 : cp xu S = 0 := by rw [f3.2 rfl]; unfold cp; rw [if_neg (by omega), if_neg (by omega)]
          have e2 : cp xv S = 0 := by rw [f4.2 rfl]; unfold cp; rw [if_neg (by omega), if_neg (by omega)]
          refine ⟨0, 0, e1, e2, fun w => ?_, Or.inl ⟨rfl, rfl⟩⟩
          have h := HFE.out w
          rw [decide_eq_true (f5.2 rfl)] at h; exact h
        · have g1 : ¬ xu = S := fun hh => by have := f3.1 hh; cases this
          have g2 : ¬ xv = S := fun hh => by have := f4.1 hh; cases this
          have g3 : ¬ xu = xv := fun hh => by have := f5.1 hh; cases this
          have e1 : cp xu S = -1 := by unfold cp; rw [if_pos (by omega)]
          have e2 : cp xv S = 1 := by unfold cp; rw [if_neg (by omega), if_pos (by omega)]
          refine ⟨-1, 1, e1, e2, fun w => ?_, Or.inr ⟨rfl, rfl, f6 rfl⟩⟩
          have h := HFE.out w
          rw [decide_eq_false g3] at h; exact h
      rw [ha, hb]
      have HX : Hid ((a = 0 ∧ b = 0) ∨ (a = -1 ∧ b = 1 ∧ ((u < 2147483648 ∧ v = u + 1) ∨ (2147483648 < u ∧ v = u - 1)))) := hX
      clear ha hb HF HFE
      have q9 := HQQ.out
      have l9 : w.heap.size + 1 + 1 < qc.heap.size := (Array.getElem?_eq_some_iff.1 q9).1
      clear HQQ
      have hab : (a = 0 ∧ b = 0) ∨ (a = -1 ∧ b = 1) := by omega
      go_upto_region 17 with fail
      go_cut [127] (fun c wx => c = .bool false ∧ wx = qc)
      case first =>
        rcases hab with ⟨rfl, rfl⟩ | ⟨rfl, rfl⟩
        all_goals
          clear hX
          go_wp2
          go_meet
          exact ⟨rfl, rfl⟩
      case rest =>
        obtain ⟨rfl, rfl⟩ := hcut
        clear hX hfe
        go_wp2_with (refine wpList_load6 27 _ Tryd.underlying27 sizeSum rfl _ rfl (w.heap.size + 1 + 1) (sm S) rfl hsS q9 ?_)
        refine (HR0.out _).mono ?_
        rintro e10 w10 ⟨rfl, hw10⟩
        have b10 := below_chain bqc hw10 (Nat.le_refl _)
        have q10 := (hw10.block _ l9).trans q9
        have l10 : w.heap.size + 1 + 1 < w10.heap.size := (Array.getElem?_eq_some_iff.1 q10).1
        clear hw10 q9 l9
        go_wp2_with (refine wpList_load6 27 _ Tryd.underlying27 sizeSum rfl _ rfl (w.heap.size + 1 + 1) (sm S) rfl hsS q10 ?_)
        refine (HR1.out _).mono ?_
        rintro e11 w11 ⟨rfl, hw11⟩
        have b11 := below_chain b10 hw11 (Nat.le_refl _)
        clear hw11 q10 l10 b10 bqc HR0 HR1
        go_upto_region 21 with fail
        go_cut [165] (fun c wx => c = .bool false ∧ wx = w11)
        case first =>
          have hNU := HNU.out
          have hNV := HNV.out
          have hNX := HNX.out
          generalize (!decide (xv = xu)) = BB at *
          have Hx0 : (∀ w, (binOp .neq 43 (.float .f32 x0.toNat) (.float .f32 u.toNat)).run Tryd.prog w = .ok (.bool false) w) ∨ ((∀ w, (binOp .neq 43 (.float .f32 x0.toNat) (.float .f32 u.toNat)).run Tryd.prog w = .ok (.bool BB) w) ∧ ∀ w, (binOp .neq 43 (.float .f32 x0.toNat) (.float .f32 v.toNat)).run Tryd.prog w = .ok (.bool false) w) := by
            rcases hx0 with h | h
            · left; rw [h]; exact hNU
            · right; rw [h]; exact ⟨hNX, hNV⟩
          have Hx1 : (∀ w, (binOp .neq 43 (.float .f32 x1.toNat) (.float .f32 u.toNat)).run Tryd.prog w = .ok (.bool false) w) ∨ ((∀ w, (binOp .neq 43 (.float .f32 x1.toNat) (.float .f32 u.toNat)).run Tryd.prog w = .ok (.bool BB) w) ∧ ∀ w, (binOp .neq 43 (.float .f32 x1.toNat) (.float .f32 v.toNat)).run Tryd.prog w = .ok (.bool false) w) := by
            rcases hx1 with h | h
            · left; rw [h]; exact hNU
            · right; rw [h]; exact ⟨hNX, hNV⟩
          clear HNU HNV HNX HFV HBU HX hx0 hx1 hNU hNV hNX
          rcases Hx0 with k0 | ⟨k0, k0'⟩ <;> rcases Hx1 with k1 | ⟨k1, k1'⟩ <;> cases BB
          all_goals
            go_wp2_with (go_at_call 10; refine (Cl.num_any _ _).mono ?_; rintro e9 w9 ⟨rfl, hw9⟩; subst w9)
            go_meet
            exact ⟨rfl, rfl⟩
        case rest =>
          obtain ⟨rfl, hwc⟩ := hcut
          subst hwc
          obtain ⟨R, hR, hR0, hR1⟩ : ∃ R, (if u < 2147483648 then u else 2147483647 - u) + 1 = R ∧ -2147483648 ≤ R ∧ R ≤ 2147483647 := ⟨_, rfl, by split <;> omega, by split <;> omega⟩
          have hRw : IntKind.i64.wrap ((if u < 2147483648 then u else 2147483647 - u) + 1) = R := by rw [hR, IntKind.wrap_i64]; omega
          have HNv : Hid (((u < 2147483648 ∧ v = u + 1) ∨ (2147483648 < u ∧ v = u - 1)) → (if R < 0 then 2147483647 - R else R) = v) := fun h => by
            rcases h with ⟨h1, h2⟩ | ⟨h1, h2⟩
            · have hR' : R = u + 1 := by rw [← hR, if_pos h1]
              rw [hR', if_neg (by omega)]; omega
            · have hR' : R = 2147483647 - u + 1 := by rw [← hR, if_neg (by omega)]
              rw [hR', if_pos (by omega)]; omega
          have HRK : Hid (∀ w, Calls Tryd.prog 17 #[.int .i64 R] w fun e w' => e = .returned (.tuple #[.int .u32 (if R < 0 then 2147483647 - R else R), .int .i64 0]) ∧ w' = w) := fun w => ofRank_any R hR0 hR1 w
          have HRA : Hid (∀ w, Calls Tryd.prog 18 #[.int .u32 u] w fun e w' => e = .returned (.int .i64 (if u < 2147483648 then u else 2147483647 - u)) ∧ w' = w) := fun w => rank_any u ub.1 ub.2.1 w
          generalize (if R < 0 then 2147483647 - R else R) = N at *
          generalize (if u < 2147483648 then u else 2147483647 - u) = ru at *
          have hFV := HFV.out
          clear hR hR0 hR1 hx0 hx1 HNU HNV HNX
          go_wp2_with (fail)
          refine (Cl.bits_any _ _).mono ?_
          rintro e12 w12 ⟨rfl, hw12⟩
          subst w12
          rw [HBU.out]
          go_wp2_with (fail)
          refine (HRA.out _).mono ?_
          rintro e13 w13 ⟨rfl, hw13⟩
          subst w13
          go_wp2_with (fail)
          refine (HRK.out _).mono ?_
          rintro e14 w14 ⟨rfl, hw14⟩
          subst w14
          clear HRK HRA
          rcases HX.out with ⟨rfl, rfl⟩ | ⟨rfl, rfl, hN⟩
          · clear HX HNv
            go_wp2_with (first
              | (go_at_call 10; refine (Cl.num_any _ _).mono ?_; rintro e9 w9 ⟨rfl, hw9⟩; subst w9)
              | (go_at_call 19; refine (Cl.bits_any _ _).mono ?_; rintro e9 w9 ⟨rfl, hw9⟩; subst w9)
              | (go_at_call 20; refine (Cl.float_any _ _).mono ?_; rintro e9 w9 ⟨rfl, hw9⟩; subst w9))
            go_ret
            exact ⟨rfl, b11⟩
          · have hNN := HNv.out hN
            have hu31 : (((u.toNat : Nat) : Int) == 2147483648) = false := beq_false_of_ne (by rw [HBU.out]; omega)
            rw [hNN]
            clear HX HNv hN hNN
            go_wp2_with (first
              | (go_at_call 10; refine (Cl.num_any _ _).mono ?_; rintro e9 w9 ⟨rfl, hw9⟩; subst w9)
              | (go_at_call 19; refine (Cl.bits_any _ _).mono ?_; rintro e9 w9 ⟨rfl, hw9⟩; subst w9)
              | (go_at_call 20; refine (Cl.float_any _ _).mono ?_; rintro e9 w9 ⟨rfl, hw9⟩; subst w9))
            go_ret
            exact ⟨rfl, b11⟩
end Ty
end Go.Proofs.YtbnmjmlcedkoaabDoor
