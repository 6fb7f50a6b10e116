import Derived.Test.YtobhmadckoemdaaTyOv
namespace Go.Proofs.Ytobhmadckoemdaa
namespace Ty
open Go.RowKit
set_option linter.unusedVariables false
set_option maxHeartbeats 800000 in
theorem round_any (A mode U E : Int) (h : Same A 1 mode U E) (w : World) :
    Calls Try.prog 23 #[.agg (sm A), .int .i64 mode] w fun e w' => e = .returned (.tuple #[.float .f32 U.toNat, .int .i64 E]) ∧ Below w.heap.size w w' := by
  have HO : Hid (∀ w, Calls Try.prog 29 #[.agg (sm A), .int .u64 1, .int .i64 mode] w fun e w' => e = .returned (.tuple #[.float .f32 U.toNat, .int .i64 E]) ∧ Below w.heap.size w w') := h.2.1
  obtain ⟨v, hv, hvb, hv0⟩ : ∃ v, w.alloc (.cells (sm A) 46) = v ∧ Below w.heap.size w v ∧ v.heap[w.heap.size]? = some (.cells (sm A) 46 (0, 0)) := ⟨_, rfl, (Below.refl _ _).alloc (Nat.le_refl _) _, heap_alloc_last w _⟩
  have hsa : (sm A).size = 6 := rfl
  clear h
  generalize sm A = ca at *
  go_enter Try.func23, Try.ntmps23
  go_wp2_with (refine wpList_load6 46 _ Try.underlying46 sizeSum rfl _ rfl w.heap.size ca rfl hsa hv0 ?_)
  clear hv
  refine (HO.out _).mono ?_
  rintro e1 w1 ⟨rfl, hw1⟩
  have b1 := below_chain hvb hw1 (Nat.le_refl _)
  clear hv0 hvb hw1
  go_wp2
  go_ret2
  exact ⟨rfl, b1⟩
set_option maxHeartbeats 800000 in
theorem rround_any (A mode U E : Int) (h : Same A 1 mode U E) (w : World) :
    Calls Try.prog 26 #[.agg (sm A), .int .i64 mode] w fun e w' => e = .returned (.tuple #[.int .u32 U, .int .i64 E]) ∧ Below w.heap.size w w' := by
  have HO : Hid (∀ w, Calls Try.prog 32 #[.agg (sm A), .int .u64 1, .int .i64 mode] w fun e w' => e = .returned (.tuple #[.int .u32 U, .int .i64 E]) ∧ Below w.heap.size w w') := h.2.2
  obtain ⟨v, hv, hvb, hv0⟩ : ∃ v, w.alloc (.cells (sm A) 40) = v ∧ Below w.heap.size w v ∧ v.heap[w.heap.size]? = some (.cells (sm A) 40 (0, 0)) := ⟨_, rfl, (Below.refl _ _).alloc (Nat.le_refl _) _, heap_alloc_last w _⟩
  have hsa : (sm A).size = 6 := rfl
  clear h
  generalize sm A = ca at *
  go_enter Try.func26, Try.ntmps26
  go_wp2_with (refine wpList_load6 40 _ Try.underlying40 sizeRSum rfl _ rfl w.heap.size ca rfl hsa hv0 ?_)
  clear hv
  refine (HO.out _).mono ?_
  rintro e1 w1 ⟨rfl, hw1⟩
  have b1 := below_chain hvb hw1 (Nat.le_refl _)
  clear hv0 hvb hw1
  go_wp2
  go_ret2
  exact ⟨rfl, b1⟩
theorem fbits_int (U : Int) (h : 0 ≤ U) (w : World) : Calls Try.prog 13 #[.float .f32 U.toNat] w fun e w' => e = .returned (.int .u32 U) ∧ w' = w := by
  have hb := fbits_any U.toNat w
  rw [Int.toNat_of_nonneg h] at hb; exact hb
end Ty
end Go.Proofs.Ytobhmadckoemdaa
