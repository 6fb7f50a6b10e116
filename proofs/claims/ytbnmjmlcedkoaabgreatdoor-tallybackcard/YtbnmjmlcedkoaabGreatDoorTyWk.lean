import Derived.Test.YtbnmjmlcedkoaabGreatDoorTyTz
import Derived.Test.YtbnmjmlcedkoaabGreatDoorTyOw
import Derived.Test.YtbnmjmlcedkoaabGreatDoorTyAeP
namespace Go.Proofs.YtbnmjmlcedkoaabGreatDoor
namespace Ty
open Go.RowKit
set_option linter.unusedVariables false
theorem T3_len : IsLen (ab T3 / 1) 151 := by
  rw [T3_sg.2.1, Int.ediv_one]
  have e : (2 : Int) ^ 151 = 4 * 2 ^ 149 := by rw [show (151 : Nat) = 2 + 149 from rfl, Int.pow_add]; rfl
  have e2 : (2 : Int) ^ 150 = 2 ^ 149 * 2 := by rw [show (150 : Nat) = 149 + 1 from rfl, Int.pow_succ]
  have h1 := pw 149
  refine ⟨by unfold T3; omega, fun _ => ?_⟩
  unfold bit
  rw [show 151 - 1 = 150 from rfl, e2, ← Int.ediv_ediv_of_nonneg (Int.le_of_lt h1), T3_div]; rfl
theorem T3_bit (k : Nat) (h : k < 149) : bit T3 k = 0 := by
  unfold bit T3
  have e : (3 : Int) * 2 ^ 149 = 2 ^ k * (3 * 2 ^ (149 - k)) := by
    rw [show (149 : Nat) = k + (149 - k) from by omega, Int.pow_add, show k + (149 - k) - k = 149 - k from by omega]
    rw [← Int.mul_assoc, Int.mul_comm 3, Int.mul_assoc]
  rw [e, Int.mul_ediv_cancel_left _ (Int.ne_of_gt (pw k))]
  rw [show 149 - k = (148 - k) + 1 from by omega, Int.pow_succ]
  omega
theorem T3_sz : sz T3 1 0 151 = 1077936128 := by
  unfold sz
  have h := T3_sg.2.1
  rw [h, Int.ediv_one, show dr 151 = 127 from rfl]
  have e : T3 / 2 ^ 127 = 12582912 := by
    unfold T3
    rw [show (149 : Nat) = 22 + 127 from rfl, Int.pow_add, ← Int.mul_assoc, Int.mul_ediv_cancel _ (Int.ne_of_gt (pw 127))]; rfl
  rw [e]
  have e2 : hlf T3 (T3 % 1) 1 127 = false := by
    unfold hlf
    rw [if_neg (by omega), T3_bit 126 (by omega)]; rfl
  rw [e2]
  rfl
theorem one_un : un 1069547520 = 12582912 * 2 ^ 126 := by
  unfold un mag M0 S0; rfl
theorem T3_pts : pts 0 [1069547520, 1069547520] 2 = T3 := by
  show pt (pt 0 1069547520) 1069547520 = T3
  unfold pt
  rw [if_pos (by decide), if_pos (by decide), one_un]
  unfold T3
  rw [show (149 : Nat) = 23 + 126 from rfl, Int.pow_add]
  have h := pw 126
  generalize (2 : Int) ^ 126 = P at *
  omega
set_option maxHeartbeats 800000 in
theorem round_any (A mode U E : Int) (w : World) (h : ∀ w, Calls Tryz.prog 46 #[.agg (sm A), .int .u64 1, .int .i64 mode] w fun e w' => e = .returned (.tuple #[.float .f32 U.toNat, .int .i64 E]) ∧ Below w.heap.size w w') :
    Calls Tryz.prog 20 #[.agg (sm A), .int .i64 mode] w fun e w' => e = .returned (.tuple #[.float .f32 U.toNat, .int .i64 E]) ∧ Below w.heap.size w w' := by
  have HO : Hid (∀ w, Calls Tryz.prog 46 #[.agg (sm A), .int .u64 1, .int .i64 mode] w fun e w' => e = .returned (.tuple #[.float .f32 U.toNat, .int .i64 E]) ∧ Below w.heap.size w w') := h
  obtain ⟨v, hv, hvb, hv0⟩ : ∃ v, w.alloc (.cells (sm A) 25) = v ∧ Below w.heap.size w v ∧ v.heap[w.heap.size]? = some (.cells (sm A) 25 (0, 0)) := ⟨_, rfl, (Below.refl _ _).alloc (Nat.le_refl _) _, heap_alloc_last w _⟩
  have hsa : (sm A).size = 6 := rfl
  clear h
  generalize sm A = ca at *
  go_enter Tryz.func20, Tryz.ntmps20
  go_wp2_with (refine wpList_load6 25 _ Tryz.underlying25 sizeSum rfl _ rfl w.heap.size ca rfl hsa hv0 ?_)
  clear hv
  refine (HO.out _).mono ?_
  rintro e1 w1 ⟨rfl, hw1⟩
  have b1 := below_chain hvb hw1 (Nat.le_refl _)
  clear hv0 hvb hw1
  go_wp2
  go_ret2
  exact ⟨rfl, b1⟩
theorem round3 (w : World) : Calls Tryz.prog 20 #[.agg (sm T3), .int .i64 0] w fun e w' => e = .returned (.tuple #[.float .f32 1077936128, .int .i64 0]) ∧ Below w.heap.size w w' := by
  have h := round_any T3 0 1077936128 0 w (fun w => by
    have h := over_any T3 1 0 151 T3_sg.1 (by omega) (by omega) (by omega) (by omega) T3_len (by omega) w
    rw [T3_sz, decide_eq_false (by have := T3_sg.2.2.2.1; omega)] at h
    exact h)
  exact h
theorem cell_two' (w : World) (x y : Value) (t : TypeId) (i : Nat) (h : i < 2) : (w.alloc (.cells #[x, y] t)).cell? ((⟨w.heap.size, 0, none⟩ : Addr).add i) = some (#[x, y].getD i undef) := by
  match i, h with
  | 0, _ => simp [Addr.add]
  | 1, _ => simp [Addr.add]
theorem of3 (w : World) (t : TypeId) (ht : Cl.TabAt w) : Calls Tryz.prog 17 #[.slice (some ⟨w.heap.size, 0, none⟩) 2 2] (w.alloc (.cells #[.float .f32 1069547520, .float .f32 1069547520] t)) fun e w' => e = .returned (.tuple #[.agg (sm T3), .int .i64 0]) ∧ Below w.heap.size w w' := by
  have hb : Below w.heap.size w (w.alloc (.cells #[.float .f32 1069547520, .float .f32 1069547520] t)) := (Below.refl _ _).alloc (Nat.le_refl _) _
  have h := of_any (some ⟨w.heap.size, 0, none⟩) 2 2 [1069547520, 1069547520] (w.alloc (.cells #[.float .f32 1069547520, .float .f32 1069547520] t)) (tab_on ht hb) ⟨⟨by simp, by omega⟩, fun _ => ⟨_, rfl, by simp, fun i hi => by
    rw [cell_two' _ _ _ _ i hi]
    match i, hi with
    | 0, _ => rfl
    | 1, _ => rfl⟩, fun i hi => by
    match i, hi with
    | 0, _ => decide
    | 1, _ => decide⟩
  have hf : ∀ i, i < 2 → Fin (([1069547520, 1069547520] : List Int).getD i 0) := fun i hi => by
    match i, hi with
    | 0, _ => unfold Fin; decide
    | 1, _ => unfold Fin; decide
  obtain ⟨g1, g2⟩ := add_all (A := 0) hf
  rw [g1, g2, T3_pts] at h
  exact h.mono fun e w' ⟨h1, h2⟩ => ⟨h1, below_chain hb h2 (by simp)⟩
theorem s3_text : (sL 0).toList = [51] := by rw [ByteArray.toList_eq]; rfl
set_option maxRecDepth 8000 in
set_option maxHeartbeats 1600000 in
theorem awake_any (w : World) (ht : Cl.TabAt w) : Calls Tryz.prog 10 #[] w fun e w' => e = .returned (.bool true) ∧ Below w.heap.size w w' := by
  have HO : Hid (Cl.TabAt w) := ht
  have hs3 := s3_text
  have HR : Hid (∀ w, Calls Tryz.prog 20 #[.agg (sm T3), .int .i64 0] w fun e w' => e = .returned (.tuple #[.float .f32 1077936128, .int .i64 0]) ∧ Below w.heap.size w w') := round3
  have HT : Hid (∀ w, Calls Tryz.prog 7 #[.agg (sm T3)] w fun e w' => e = .returned (.string (sL 0)) ∧ Below w.heap.size w w') := text3
  go_enter Tryz.func10, Tryz.ntmps10
  go_wp2_with (fail)
  refine (of3 w _ HO.out).mono ?_
  rintro e1 w1 ⟨rfl, hw1⟩
  have hone := sm_one T3
  have hal1 := heap_alloc_last w1 (.cells #[.int .u64 0, .int .u64 0, .int .u64 0, .int .u64 0, .int .u64 0, .int .u64 0] 25)
  obtain ⟨v, hv, hvb, hvs, hv0⟩ : ∃ V, (w1.alloc (.cells #[.int .u64 0, .int .u64 0, .int .u64 0, .int .u64 0, .int .u64 0, .int .u64 0] 25)).setRow w1.heap.size (sm T3) = V ∧ Below w1.heap.size w1 V ∧ V.heap.size = w1.heap.size + 1 ∧ V.heap[w1.heap.size]? = some (.cells (sm T3) 25 (0, 0)) :=
    ⟨_, rfl, below_setRow _ _ ((Below.refl _ _).alloc (Nat.le_refl _) _) (Nat.le_refl _), by simp, setRow_heap _ w1.heap.size _ _ 25 (0, 0) hal1⟩
  have bw := below_chain hw1 hvb (Nat.le_refl _)
  go_wp2_with (first
    | (refine wpList_store6 25 sizeSum rfl _ _ rfl w1.heap.size (sm T3) _ rfl rfl rfl rfl hone hal1 ?_; rw [hv])
    | (refine wpList_load6 25 _ Tryz.underlying25 sizeSum rfl _ rfl w1.heap.size (sm T3) rfl rfl hv0 ?_))
  clear hv hal1
  refine (HR.out _).mono ?_
  rintro e2 w2 ⟨rfl, hw2⟩
  have b2 := below_chain bw hw2 (Nat.le_refl _)
  have q2 := (hw2.block _ (by omega)).trans hv0
  clear hw2 bw hv0 hvs hvb hw1
  have hEq := eq_sm 25 Tryz.underlying25 T3 0
  have hsame : same T3 0 = false := by
    cases h : same T3 0
    · rfl
    · have h1 := (same_un T3 0 T3_sg.2.2.2.1 T3_sg.2.2.2.2 (by omega) (pw _)).1 h
      have h2 := pw 149
      unfold T3 at h1; omega
  rw [hsame] at hEq
  have hz0 : sm 0 = #[.int .u64 0, .int .u64 0, .int .u64 0, .int .u64 0, .int .u64 0, .int .u64 0] := zeros_sm.symm
  have hsq : sm T3 = #[.int .u64 (wd T3 0), .int .u64 (wd T3 1), .int .u64 (wd T3 2), .int .u64 (wd T3 3), .int .u64 (wd T3 4), .int .u64 (wd T3 5)] := rfl
  have lw : w1.heap.size < w2.heap.size := (Array.getElem?_eq_some_iff.1 q2).1
  obtain ⟨⟨c0, c1, c2, c3, c4, c5⟩, -⟩ := cells6 (row_sm q2)
  rw [hsq, hz0] at hEq
  rw [hsq] at HT
  rw [hsq]
  generalize sL 0 = s0 at *
  clear q2 hone HR hsame hz0 hsq
  go_wp2_with (first
    | (go_at_call 9; refine (Cl.num_any _ _).mono ?_; rintro e9 w9 ⟨rfl, hw9⟩; subst w9)
    | (go_at_call 21; refine (Cl.bits_any _ _).mono ?_; rintro e9 w9 ⟨rfl, hw9⟩; subst w9)
    | (go_at_call 7; refine (HT.out _).mono ?_; rintro e3 w3 ⟨rfl, hw3⟩; have b3 := below_chain b2 hw3 (Nat.le_refl _); have k0 := (hw3.cell (p := ⟨w1.heap.size, 0, none⟩) lw).trans c0; have k1 := (hw3.cell (p := ⟨w1.heap.size, 1, none⟩) lw).trans c1; have k2 := (hw3.cell (p := ⟨w1.heap.size, 2, none⟩) lw).trans c2; have k3 := (hw3.cell (p := ⟨w1.heap.size, 3, none⟩) lw).trans c3; have k4 := (hw3.cell (p := ⟨w1.heap.size, 4, none⟩) lw).trans c4; have k5 := (hw3.cell (p := ⟨w1.heap.size, 5, none⟩) lw).trans c5; clear hw3 c0 c1 c2 c3 c4 c5))
  go_ret
  exact ⟨rfl, b3⟩
end Ty
end Go.Proofs.YtbnmjmlcedkoaabGreatDoor
