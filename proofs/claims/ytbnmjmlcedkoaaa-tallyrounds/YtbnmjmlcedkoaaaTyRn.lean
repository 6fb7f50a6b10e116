import Derived.Test.YtbnmjmlcedkoaaaTyOv
namespace Go.Proofs.Ytbnmjmlcedkoaaa
namespace Ty
open Go.RowKit
set_option linter.unusedVariables false
set_option maxHeartbeats 800000 in
theorem round_any (A mode U E : Int) (h : Same A 1 mode U E) (w : World) :
    Calls Try.prog 11 #[.agg (sm A), .int .i64 mode] w fun e w' => e = .returned (.tuple #[.float .f32 U.toNat, .int .i64 E]) ∧ Below w.heap.size w w' := by
  have HO : Hid (∀ w, Calls Try.prog 14 #[.agg (sm A), .int .u64 1, .int .i64 mode] w fun e w' => e = .returned (.tuple #[.float .f32 U.toNat, .int .i64 E]) ∧ Below w.heap.size w w') := h.2.1
  obtain ⟨v, hv, hvb, hv0⟩ : ∃ v, w.alloc (.cells (sm A) 25) = v ∧ Below w.heap.size w v ∧ v.heap[w.heap.size]? = some (.cells (sm A) 25 (0, 0)) := ⟨_, rfl, (Below.refl _ _).alloc (Nat.le_refl _) _, heap_alloc_last w _⟩
  have hsa : (sm A).size = 6 := rfl
  clear h
  generalize sm A = ca at *
  go_enter Try.func11, Try.ntmps11
  go_wp2_with (refine wpList_load6 25 _ Try.underlying25 sizeSum rfl _ rfl w.heap.size ca rfl hsa hv0 ?_)
  clear hv
  refine (HO.out _).mono ?_
  rintro e1 w1 ⟨rfl, hw1⟩
  have b1 := below_chain hvb hw1 (Nat.le_refl _)
  clear hv0 hvb hw1
  go_wp2
  go_ret2
  exact ⟨rfl, b1⟩
set_option maxHeartbeats 800000 in
theorem rround_any (A mode U E : Int) (h : Same A 1 mode U E) (w : World) :
    Calls Try.prog 12 #[.agg (sm A), .int .i64 mode] w fun e w' => e = .returned (.tuple #[.int .u32 U, .int .i64 E]) ∧ Below w.heap.size w w' := by
  have HO : Hid (∀ w, Calls Try.prog 15 #[.agg (sm A), .int .u64 1, .int .i64 mode] w fun e w' => e = .returned (.tuple #[.int .u32 U, .int .i64 E]) ∧ Below w.heap.size w w') := h.2.2
  obtain ⟨v, hv, hvb, hv0⟩ : ∃ v, w.alloc (.cells (sm A) 29) = v ∧ Below w.heap.size w v ∧ v.heap[w.heap.size]? = some (.cells (sm A) 29 (0, 0)) := ⟨_, rfl, (Below.refl _ _).alloc (Nat.le_refl _) _, heap_alloc_last w _⟩
  have hsa : (sm A).size = 6 := rfl
  clear h
  generalize sm A = ca at *
  go_enter Try.func12, Try.ntmps12
  go_wp2_with (refine wpList_load6 29 _ Try.underlying29 sizeRSum rfl _ rfl w.heap.size ca rfl hsa hv0 ?_)
  clear hv
  refine (HO.out _).mono ?_
  rintro e1 w1 ⟨rfl, hw1⟩
  have b1 := below_chain hvb hw1 (Nat.le_refl _)
  clear hv0 hvb hw1
  go_wp2
  go_ret2
  exact ⟨rfl, b1⟩
theorem num_any (e : Int) (w : World) : Calls Try.prog 10 #[.int .i64 e] w fun e' w' => e' = .returned (.int .i64 e) ∧ w' = w := by
  go_enter Try.func10, Try.ntmps10
  go_wp2
  go_ret
  exact ⟨rfl, rfl⟩
theorem fbits_int (U : Int) (h : 0 ≤ U) (w : World) : Calls Try.prog 13 #[.float .f32 U.toNat] w fun e w' => e = .returned (.int .u32 U) ∧ w' = w := by
  have hb := fbits_any U.toNat w
  rw [Int.toNat_of_nonneg h] at hb; exact hb
theorem sizeWords : (Try.prog.info? 24).map (·.size) = some 6 := by kernel_rfl
set_option maxHeartbeats 1600000 in
theorem rounds_walk (A n mode : Int) (h : Sg A) (h0 : 0 ≤ n) (h1 : n < 18446744073709551616) (w : World) :
    Calls Try.prog 4 #[.agg (sm A), .int .u64 n, .int .i64 mode] w fun e w' => e = .returned (.bool true) ∧ Below w.heap.size w w' := by
  obtain ⟨U1, E1, hs1⟩ := same_over A 1 mode h (by omega) (by omega)
  obtain ⟨U2, E2, hs2⟩ := same_over A n mode h h0 h1
  have HA : Hid (∀ w, Calls Try.prog 11 #[.agg (sm A), .int .i64 mode] w fun e w' => e = .returned (.tuple #[.float .f32 U1.toNat, .int .i64 E1]) ∧ Below w.heap.size w w') := fun w => round_any A mode U1 E1 hs1 w
  have HB : Hid (∀ w, Calls Try.prog 12 #[.agg (sm A), .int .i64 mode] w fun e w' => e = .returned (.tuple #[.int .u32 U1, .int .i64 E1]) ∧ Below w.heap.size w w') := fun w => rround_any A mode U1 E1 hs1 w
  have HC : Hid (∀ w, Calls Try.prog 14 #[.agg (sm A), .int .u64 n, .int .i64 mode] w fun e w' => e = .returned (.tuple #[.float .f32 U2.toNat, .int .i64 E2]) ∧ Below w.heap.size w w') := hs2.2.1
  have HD : Hid (∀ w, Calls Try.prog 15 #[.agg (sm A), .int .u64 n, .int .i64 mode] w fun e w' => e = .returned (.tuple #[.int .u32 U2, .int .i64 E2]) ∧ Below w.heap.size w w') := hs2.2.2
  have u1 := hs1.1
  have u2 := hs2.1
  obtain ⟨v, hv, hvb, hvs, hv0⟩ : ∃ v, w.alloc (.cells (sm A) 24) = v ∧ Below w.heap.size w v ∧ v.heap.size = w.heap.size + 1 ∧ v.heap[w.heap.size]? = some (.cells (sm A) 24 (0, 0)) := ⟨_, rfl, (Below.refl _ _).alloc (Nat.le_refl _) _, by simp, heap_alloc_last w _⟩
  have hsa : (sm A).size = 6 := rfl
  clear hs1 hs2 h
  generalize sm A = ca at *
  go_enter Try.func4, Try.ntmps4
  go_wp2_with (refine wpList_load6 24 _ Try.underlying24 sizeWords rfl _ rfl w.heap.size ca rfl hsa hv0 ?_)
  clear hv
  refine (HA.out _).mono ?_
  rintro e1 w1 ⟨rfl, hw1⟩
  have b1 := below_chain hvb hw1 (Nat.le_refl _)
  have p1 := (hw1.block _ (by omega)).trans hv0
  have s1 : w.heap.size < w1.heap.size := by have := hw1.size; omega
  clear hv0 hvb hw1 hvs HA
  go_wp2_with (refine wpList_load6 24 _ Try.underlying24 sizeWords rfl _ rfl w.heap.size ca rfl hsa p1 ?_)
  refine (HB.out _).mono ?_
  rintro e2 w2 ⟨rfl, hw2⟩
  have b2 := below_chain b1 hw2 (Nat.le_refl _)
  have p2 := (hw2.block _ s1).trans p1
  have s2 : w.heap.size < w2.heap.size := by have := hw2.size; omega
  clear hw2 p1 s1 b1 HB
  have HF1 : Hid (∀ w, Calls Try.prog 13 #[.float .f32 U1.toNat] w fun e w' => e = .returned (.int .u32 U1) ∧ w' = w) := fun w => fbits_int U1 u1 w
  have HF2 : Hid (∀ w, Calls Try.prog 13 #[.float .f32 U2.toNat] w fun e w' => e = .returned (.int .u32 U2) ∧ w' = w) := fun w => fbits_int U2 u2 w
  go_wp2_with (first | (refine wpList_load6 24 _ Try.underlying24 sizeWords rfl _ rfl w.heap.size ca rfl hsa p2 ?_) | (go_at_call 13; refine (HF1.out _).mono ?_; rintro e9 w9 ⟨rfl, hw9⟩; subst w9) | (go_at_call 10; refine (num_any _ _).mono ?_; rintro e9 w9 ⟨rfl, hw9⟩; subst w9))
  refine (HC.out _).mono ?_
  rintro e3 w3 ⟨rfl, hw3⟩
  have b3 := below_chain b2 hw3 (Nat.le_refl _)
  have p3 := (hw3.block _ s2).trans p2
  have s3 : w.heap.size < w3.heap.size := by have := hw3.size; omega
  clear hw3 p2 s2 b2 HC
  go_wp2_with (refine wpList_load6 24 _ Try.underlying24 sizeWords rfl _ rfl w.heap.size ca rfl hsa p3 ?_)
  refine (HD.out _).mono ?_
  rintro e4 w4 ⟨rfl, hw4⟩
  have b4 := below_chain b3 hw4 (Nat.le_refl _)
  clear hw4 p3 s3 b3 HD
  go_wp2_with (first | (go_at_call 13; refine (HF2.out _).mono ?_; rintro e9 w9 ⟨rfl, hw9⟩; subst w9) | (go_at_call 10; refine (num_any _ _).mono ?_; rintro e9 w9 ⟨rfl, hw9⟩; subst w9))
  go_ret
  exact ⟨rfl, b4⟩
end Ty
end Go.Proofs.Ytbnmjmlcedkoaaa
