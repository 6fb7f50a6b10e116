import Derived.Test.YtbnmjmlcedkoaabGreatDoorTyTx
import Derived.Test.YtbnmjmlcedkoaabGreatDoorTyPlP
namespace Go.Proofs.YtbnmjmlcedkoaabGreatDoor
namespace Ty
open Go.RowKit
set_option linter.unusedVariables false
theorem T3_sg : Sg T3 ∧ ab T3 = T3 ∧ sgn T3 = 1 ∧ 0 ≤ T3 ∧ T3 < 2 ^ (64 * 6) := by
  have h1 := pw 149
  have h2 : (2 : Int) ^ 383 = 2 ^ 149 * 2 ^ 234 := by rw [← Int.pow_add]
  have h3 : (4 : Int) ≤ 2 ^ 234 := by
    have := pow_mono 2 234 (by omega)
    omega
  have h4 : (2 : Int) ^ 149 * 4 ≤ 2 ^ 149 * 2 ^ 234 := Int.mul_le_mul_of_nonneg_left h3 (by omega)
  have h5 : (2 : Int) ^ (64 * 6) = 2 * 2 ^ 383 := p384
  have e : T3 = 3 * 2 ^ 149 := rfl
  refine ⟨?_, ?_, ?_, by omega, by omega⟩
  · unfold Sg; omega
  · unfold ab; rw [if_neg (by omega)]
  · unfold sgn; rw [if_neg (by omega), if_neg (by omega)]
set_option maxRecDepth 8000 in
set_option maxHeartbeats 1600000 in
theorem text3 (w : World) : Calls Tryz.prog 7 #[.agg (sm T3)] w fun e w' => e = .returned (.string (sL 0)) ∧ Below w.heap.size w w' := by
  obtain ⟨h1, h2, h3, h4, h5⟩ := T3_sg
  have HZ : Hid (∀ w, Calls Tryz.prog 29 #[.agg (sm T3)] w fun e w' => e = .returned (.agg (sm T3)) ∧ Below w.heap.size w w') := fun w => by
    have h := sizeof_any T3 h1 w
    rw [h2] at h; exact h
  have HD : Hid (∀ w, Calls Tryz.prog 30 #[.agg (sm T3)] w fun e w' => e = .returned (.agg (dgs T3)) ∧ Below w.heap.size w w') := fun w => digits_any T3 h4 h5 w
  have HS : Hid (∀ w, Calls Tryz.prog 33 #[.agg (sm T3)] w fun e w' => e = .returned (.int .i64 1) ∧ Below w.heap.size w w') := fun w => by
    have h := sign_any T3 h1 w
    rw [h3] at h; exact h
  have hsa : (sm T3).size = 6 := rfl
  have HR : Hid (∀ (W : World) (g : Nat), W.heap[g]? = some (.cells (dgs T3) 56 (0, 0)) → (∀ i, i < 71 → W.cell? ⟨g, 0 + i, none⟩ = some (.int .u8 (xA.getD i 0))) ∧ ∀ i, i < 149 → W.cell? ⟨g, 71 + i, none⟩ = some (.int .u8 (xB.getD i 0))) := fun W g hg => by
    have hr : W.rowIs g 56 220 (fun i => .int .u8 (dgt T3 i)) := ⟨_, hg, dgs_size T3, fun i hi => dgs_get T3 i hi⟩
    refine ⟨fun i hi => ?_, fun i hi => ?_⟩
    · rw [hr.cell (show 0 + i < 220 by omega), dgt3 _ (by omega), xA_get i hi, Nat.zero_add]
    · rw [hr.cell (show 71 + i < 220 by omega), dgt3 _ (by omega), xB_get i hi, if_neg (by omega)]
  have hds := dgs_size T3
  have hone := dgs_one T3
  obtain ⟨v, hv, hvb, hvs, hv0⟩ : ∃ v, w.alloc (.cells (sm T3) 25) = v ∧ Below w.heap.size w v ∧ v.heap.size = w.heap.size + 1 ∧ v.heap[w.heap.size]? = some (.cells (sm T3) 25 (0, 0)) := ⟨_, rfl, (Below.refl _ _).alloc (Nat.le_refl _) _, by simp, heap_alloc_last w _⟩
  generalize hca : sm T3 = ca at *
  generalize hdg : dgs T3 = ds at *
  clear hca hdg h1 h2 h3 h4 h5
  go_enter Tryz.func7, Tryz.ntmps7
  go_wp2_with (refine wpList_load6 25 _ Tryz.underlying25 sizeSum rfl _ rfl w.heap.size ca rfl hsa hv0 ?_)
  clear hv
  refine (HZ.out _).mono ?_
  rintro e1 w1 ⟨rfl, hw1⟩
  have b1 := below_chain hvb hw1 (Nat.le_refl _)
  have q1 := (hw1.block _ (by omega)).trans hv0
  have s1 : w.heap.size + 1 ≤ w1.heap.size := by have := hw1.size; omega
  clear hvb hw1 hv0 hvs HZ
  go_wp2_with (fail)
  refine (HD.out _).mono ?_
  rintro e2 w2 ⟨rfl, hw2⟩
  have b2 := below_chain b1 hw2 (Nat.le_refl _)
  have q2 := (hw2.block _ (by omega)).trans q1
  have s2 : w.heap.size + 1 ≤ w2.heap.size := by have := hw2.size; omega
  clear b1 hw2 q1 s1 HD
  have hz0 : (w2.alloc (.cells Tryz.zeroCells56 56)).heap[w2.heap.size]? = some (.cells z220 56 (0, 0)) := by rw [z220_eq]; exact heap_alloc_last w2 _
  obtain ⟨V, hV, hVb, hVs, hV0⟩ : ∃ V, (w2.alloc (.cells Tryz.zeroCells56 56)).setRow w2.heap.size ds = V ∧ Below w.heap.size w V ∧ V.heap.size = w2.heap.size + 1 ∧ V.heap[w2.heap.size]? = some (.cells ds 56 (0, 0)) :=
    ⟨_, rfl, below_setRow _ _ (b2.alloc (by omega) _) (by omega), by simp, setRow_heap _ w2.heap.size _ _ 56 (0, 0) hz0⟩
  have qV : V.heap[w.heap.size]? = some (.cells ca 25 (0, 0)) := by
    rw [← hV, setRow_other _ _ _ _ (by omega), blk_alloc _ _ _ (by omega)]; exact q2
  have hzs : z220.size = 220 := by simp [z220]
  have hrr := HR.out V w2.heap.size hV0
  have hc1 : (convert 72 9 (.slice (some ⟨w2.heap.size, 0, none⟩) 71 220)).run Tryz.prog V = .ok (.string (sL 70)) V := run_convert_bytes_arg (P := Tryz.prog) V 72 5 Tryz.underlying72 Tryz.underlying5 w2.heap.size 0 71 220 xA rfl hrr.1 9 Tryz.underlying9
  have hc2 : (convert 72 9 (.slice (some ⟨w2.heap.size, 71, none⟩) 149 149)).run Tryz.prog V = .ok (.string (sR 149)) V := run_convert_bytes_arg (P := Tryz.prog) V 72 5 Tryz.underlying72 Tryz.underlying5 w2.heap.size 71 149 149 xB (by simp [xB]) hrr.2 9 Tryz.underlying9
  have HT1 : Hid (∀ w, Calls Tryz.prog 31 #[.string (sL 70), .string ⟨#[48]⟩] w fun e w' => e = .returned (.string (sL 0)) ∧ w' = w) := fun w => trimLeft3 70 w
  have HT2 : Hid (∀ w, Calls Tryz.prog 32 #[.string (sR 149), .string ⟨#[48]⟩] w fun e w' => e = .returned (.string (sR 0)) ∧ w' = w) := fun w => trimRight0 149 (by omega) (by omega) w
  have hn2 := not_nil (sL 0) (by rw [sL_size]; omega)
  have hn1 : (sL 0).toList.isEmpty = false := by simpa using hn2
  have hr0 : (sR 0).toList = [] := by rw [ByteArray.toList_eq]; rfl
  generalize z220 = zz at *
  clear hrr HR b2 q2
  generalize sL 70 = s70 at *
  generalize sR 149 = s149 at *
  generalize hs0 : sL 0 = s0 at *
  have HE : Hid (sL 0 = s0) := hs0
  clear hs0
  generalize sR 0 = r0 at *
  go_wp2_with (refine wpList_store220 rfl _ _ rfl w2.heap.size ds zz rfl rfl hds hzs hone hz0 ?_; rw [hV])
  clear hz0 hV
  refine (HT1.out _).mono ?_
  rintro e3 w3 ⟨rfl, hw3⟩
  subst w3
  go_wp2_with (fail)
  refine (HT2.out _).mono ?_
  rintro e4 w4 ⟨rfl, hw4⟩
  subst w4
  go_wp2_with (refine wpList_load6 25 _ Tryz.underlying25 sizeSum rfl _ rfl w.heap.size ca rfl hsa qV ?_)
  refine (HS.out _).mono ?_
  rintro e5 w5 ⟨rfl, hw5⟩
  have b5 := below_chain hVb hw5 (Nat.le_refl _)
  go_wp2
  go_ret
  exact ⟨congrArg (fun x => Ending.returned (Value.string x)) HE.out.symm, b5⟩
end Ty
end Go.Proofs.YtbnmjmlcedkoaabGreatDoor
