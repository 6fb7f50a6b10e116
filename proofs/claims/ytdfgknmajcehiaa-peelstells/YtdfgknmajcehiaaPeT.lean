import Derived.Test.YtdfgknmajcehiaaPeA
namespace Go.Proofs.Ytdfgknmajcehiaa
namespace Pe
open Go.RowKit
set_option linter.unusedVariables false
set_option maxRecDepth 8000
theorem inset_any (s : Nat → Int) (w : World) : Calls Try.prog 6 #[.agg (sv s)] w fun e w' => e = .returned (.bool (s 0 == 1)) ∧ w' = w.alloc (so s) := by
  go_enter Try.func6, Try.ntmps6
  go_wp2
  all_goals go_ret
  all_goals exact ⟨rfl, rfl⟩
theorem colour_any (s : Nat → Int) (h0 : 0 ≤ s 0) (w : World) : Calls Try.prog 7 #[.agg (sv s)] w fun e w' => e = .returned (.int .i64 (s 0 % 64)) ∧ w' = w.alloc (so s) := by
  go_enter Try.func7, Try.ntmps7
  go_wp2
  all_goals go_ret
  all_goals exact ⟨rfl, rfl⟩
theorem core_any (s : Nat → Int) (w : World) : Calls Try.prog 8 #[.agg (sv s)] w fun e w' => e = .returned (.int .u64 (s 0)) ∧ w' = w.alloc (so s) := by
  go_enter Try.func8, Try.ntmps8
  go_wp2
  all_goals go_ret
  all_goals exact ⟨rfl, rfl⟩
abbrev K8 (b : Nat) (c : Nat → Int) (w : World) : Prop := w.cell? ⟨b, 0, none⟩ = some (.int .u64 (c 0)) ∧ w.cell? ⟨b, 1, none⟩ = some (.int .u64 (c 1)) ∧ w.cell? ⟨b, 2, none⟩ = some (.int .u64 (c 2)) ∧ w.cell? ⟨b, 3, none⟩ = some (.int .u64 (c 3)) ∧ w.cell? ⟨b, 4, none⟩ = some (.int .u64 (c 4)) ∧ w.cell? ⟨b, 5, none⟩ = some (.int .u64 (c 5)) ∧ w.cell? ⟨b, 6, none⟩ = some (.int .u64 (c 6)) ∧ w.cell? ⟨b, 7, none⟩ = some (.int .u64 (c 7))
theorem k8 {w : World} {b : Nat} {c : Nat → Int} {t : TypeId} (h : w.heap[b]? = some (.cells (sv c) t (0, 0))) : K8 b c w := by
  refine ⟨?_, ?_, ?_, ?_, ?_, ?_, ?_, ?_⟩ <;> exact (cell_of_row w b _ _ t (0, 0) h).trans rfl
theorem K8.on {b n : Nat} {c : Nat → Int} {w w' : World} (h : K8 b c w) (hB : Below n w w') (hb : b < n) : K8 b c w' :=
  ⟨(hB.cell hb).trans h.1, (hB.cell hb).trans h.2.1, (hB.cell hb).trans h.2.2.1, (hB.cell hb).trans h.2.2.2.1, (hB.cell hb).trans h.2.2.2.2.1, (hB.cell hb).trans h.2.2.2.2.2.1, (hB.cell hb).trans h.2.2.2.2.2.2.1, (hB.cell hb).trans h.2.2.2.2.2.2.2⟩
theorem inset_b (s : Nat → Int) (k : Bool) (h : (s 0 == 1) = k) (w : World) : Calls Try.prog 6 #[.agg (sv s)] w fun e w' => e = .returned (.bool k) ∧ w' = w.alloc (so s) := (inset_any s w).mono fun e w' ⟨he, hw⟩ => ⟨by rw [he, h], hw⟩
set_option maxHeartbeats 4000000 in
theorem tells_b (s : Nat → Int) (k : Bool) (hk : (s 0 == 1) = k) (h0 : 0 ≤ s 0) (h1 : s 0 < 18446744073709551616) (w : World) : Calls Try.prog 3 #[.agg (sv s)] w fun e w' => e = .returned (.bool true) ∧ Below w.heap.size w w' := by
  have HI := hide (inset_b s k hk)
  have HC := hide (colour_any s h0)
  have HO := hide (core_any s)
  have he : (k == k) = true := by simp
  have hc : (s 0 % 64 == IntKind.i64.wrap ((s 0).tmod 64)) = true := by
    rw [Int.tmod_eq_emod_of_nonneg h0, beq_iff_eq]
    have h2 : 0 ≤ s 0 % 64 := by omega
    have h3 : s 0 % 64 < 64 := by omega
    generalize s 0 % 64 = x at h2 h3
    simp only [IntKind.wrap, IntKind.signed, IntKind.bits]
    simp
    omega
  go_enter Try.func3, Try.ntmps3
  go_wp2_with (fail)
  go_region_held3 (K8 w.heap.size s) (exact k8 (t := 24) (by repeat first | exact at0 _ _ | refine keepD ?_ | refine keep _ ?_)) ((first | (go_at_call 6; refine (HI.out _).mono ?_; rintro e1 w1 ⟨rfl, hw1⟩; subst w1) | (go_at_call 7; refine (HC.out _).mono ?_; rintro e2 w2 ⟨rfl, hw2⟩; subst w2) | (go_at_call 8; refine (HO.out _).mono ?_; rintro e3 w3 ⟨rfl, hw3⟩; subst w3)))
  all_goals go_wp2
  all_goals go_ret
  all_goals exact ⟨rfl, by repeat first | exact Below.refl _ _ | refine belowD ?_ | refine belowN ?_ _ | refine bA ?_ (by first | exact Nat.le_refl _ | (simp only [World.size_alloc]; omega)) _⟩
theorem tells_any (s : Nat → Int) (h0 : 0 ≤ s 0) (h1 : s 0 < 18446744073709551616) (w : World) : Calls Try.prog 3 #[.agg (sv s)] w fun e w' => e = .returned (.bool true) ∧ Below w.heap.size w w' := tells_b s _ rfl h0 h1 w
end Pe
end Go.Proofs.Ytdfgknmajcehiaa
