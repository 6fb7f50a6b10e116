import Derived.Test.YtonhmaocgfhcfaaRnC
import Derived.Laws.CopyOwn
namespace Go.Proofs.Ytonhmaocgfhcfaa
namespace Rn
open Go.RowKit
set_option linter.unusedVariables false
set_option maxRecDepth 8000
abbrev Sfold (b : Nat) (c g : Nat → Int) (v : Int) (s : Nat → Int) (w : World) : Prop := K4 b c w ∧ K8 (b + 1) g w ∧ K8 (b + 1 + 1) s w
set_option maxHeartbeats 4000000 in
theorem fold_none (c g : Nat → Int) (v : Int) (s : Nat → Int) (w : World) : Calls Try.prog 8 #[.pointer none, .agg (cv c), .agg (sv g), .int .u32 v, .agg (sv s)] w fun e w' => e = .returned (.tuple #[.agg z8, .int .i64 1]) ∧ Below w.heap.size w w' := by
  have HP := hide prog_none
  have HS := hide (fold_ab c g v s)
  have hz : ((((w.alloc (.cells (cv c) 26)).alloc (.cells (sv g) 24)).alloc (.cells (sv s) 24)).alloc (.cells z8 24)).drew.heap.size = w.heap.size + 1 + 1 + 1 + 1 := by simp only [World.size_drew, World.size_alloc]
  have HZ := hide hz
  have hR : Hid (((((w.alloc (.cells (cv c) 26)).alloc (.cells (sv g) 24)).alloc (.cells (sv s) 24)).alloc (.cells z8 24)).drew.heap[w.heap.size + 1 + 1 + 1]? = some (.cells z8 24)) := by
    have h1 := at0 ((((w.alloc (.cells (cv c) 26)).alloc (.cells (sv g) 24)).alloc (.cells (sv s) 24))) (.cells z8 24)
    simp only [World.size_alloc] at h1; exact h1
  have hS : Hid (Sfold w.heap.size c g v s ((((w.alloc (.cells (cv c) 26)).alloc (.cells (sv g) 24)).alloc (.cells (sv s) 24)).alloc (.cells z8 24)).drew) := by
    refine ⟨k4 (t := 26) (keep _ (keep _ (keep _ (at0 _ _)))), ?_, ?_⟩
    · have h1 := keep (.cells z8 24) (keep (.cells (sv s) 24) (at0 (w.alloc (.cells (cv c) 26)) (.cells (sv g) 24)))
      simp only [World.size_alloc] at h1; exact k8 (t := 24) h1
    · have h1 := keep (.cells z8 24) (at0 ((w.alloc (.cells (cv c) 26)).alloc (.cells (sv g) 24)) (.cells (sv s) 24))
      simp only [World.size_alloc] at h1; exact k8 (t := 24) h1
  have HK : Hid (∀ W, Below ((((w.alloc (.cells (cv c) 26)).alloc (.cells (sv g) 24)).alloc (.cells (sv s) 24)).alloc (.cells z8 24)).drew.heap.size ((((w.alloc (.cells (cv c) 26)).alloc (.cells (sv g) 24)).alloc (.cells (sv s) 24)).alloc (.cells z8 24)).drew W → Sfold w.heap.size c g v s W) := fun W hB => ⟨K4.on hS.out.1 hB (by rw [HZ.out]; omega), K8.on hS.out.2.1 hB (by rw [HZ.out]; omega), K8.on hS.out.2.2 hB (by rw [HZ.out]; omega)⟩
  have HQ : Hid (∀ W, Below ((((w.alloc (.cells (cv c) 26)).alloc (.cells (sv g) 24)).alloc (.cells (sv s) 24)).alloc (.cells z8 24)).drew.heap.size ((((w.alloc (.cells (cv c) 26)).alloc (.cells (sv g) 24)).alloc (.cells (sv s) 24)).alloc (.cells z8 24)).drew W → W.heap[w.heap.size + 1 + 1 + 1]? = some (.cells z8 24)) := fun W hB => (hB.block _ (by rw [HZ.out]; omega)).trans hR.out
  have HW : Hid (∀ W, Sfold w.heap.size c g v s W → Sfold w.heap.size c g v s (W.setRow (w.heap.size + 1 + 1 + 1) z8)) := fun W h => ⟨K4.row h.1 _ (by omega), K8.row h.2.1 _ (by omega), K8.row h.2.2 _ (by omega)⟩
  have HB0 : Hid (Below w.heap.size w ((((w.alloc (.cells (cv c) 26)).alloc (.cells (sv g) 24)).alloc (.cells (sv s) 24)).alloc (.cells z8 24)).drew) := by repeat first | exact Below.refl _ _ | refine belowD ?_ | refine belowN ?_ _ | refine bA ?_ (by first | exact Nat.le_refl _ | (simp only [World.size_alloc]; omega)) _
  have HBZ : Hid (w.heap.size ≤ ((((w.alloc (.cells (cv c) 26)).alloc (.cells (sv g) 24)).alloc (.cells (sv s) 24)).alloc (.cells z8 24)).drew.heap.size) := HB0.out.size
  clear hz
  go_enter Try.func8, Try.ntmps8
  go_wp2_with (fail)
  go_region_held3 (Sfold w.heap.size c g v s) ((first | with_reducible exact hS.out | with_reducible exact HK.out _ hw2.out | (rw [sets8 (HQ.out _ hw2.out) rfl]; exact HW.out _ (HK.out _ hw2.out)))) ((first | (go_at_call 19; refine (HP.out _).mono ?_; rintro e1 w1 ⟨rfl, hw1⟩; subst w1) | (go_at_call 123; refine (HS.out _).mono ?_; rintro e2 w2 ⟨rfl, hw2'⟩; have hw2 := hide hw2'; clear hw2'; have hk2 := k8 (c := fun _ => 0) (HQ.out _ hw2.out); have hf2 := f8 (HQ.out _ hw2.out))))
  all_goals go_wp2
  all_goals rw [sets8 (HQ.out _ hw2.out) rfl]
  all_goals (refine bodyPost_ret (v := .tuple #[.agg z8, .int .i64 1]) ?_ rfl ⟨rfl, below_setRow (HB0.out.trans (hw2.out.mono HBZ.out)) (by omega) _⟩)
  all_goals simp only [results, Try.results8, asAddr]
  all_goals simp [run_loadVar_row _ _ 24 24 _ (0, 0) _ (setRow_heap _ _ _ z8 24 (0, 0) (HQ.out _ hw2.out)) Try.underlying24 rfl size24]
abbrev Sturn (b : Nat) (c g : Nat → Int) (v n : Int) (w : World) : Prop := K4 b c w ∧ K8 (b + 1) g w
set_option maxHeartbeats 4000000 in
theorem turn_none (c g : Nat → Int) (v n : Int) (w : World) : Calls Try.prog 9 #[.pointer none, .agg (cv c), .agg (sv g), .int .u64 v, .int .i64 n] w fun e w' => e = .returned (.tuple #[.agg z4, .bool false, .int .i64 1]) ∧ Below w.heap.size w w' := by
  have HP := hide prog_none
  have HS := hide (turn_ab c g v n)
  have hz : (((w.alloc (.cells (cv c) 26)).alloc (.cells (sv g) 24)).alloc (.cells z4 26)).drew.heap.size = w.heap.size + 1 + 1 + 1 := by simp only [World.size_drew, World.size_alloc]
  have HZ := hide hz
  have hR : Hid ((((w.alloc (.cells (cv c) 26)).alloc (.cells (sv g) 24)).alloc (.cells z4 26)).drew.heap[w.heap.size + 1 + 1]? = some (.cells z4 26)) := by
    have h1 := at0 (((w.alloc (.cells (cv c) 26)).alloc (.cells (sv g) 24))) (.cells z4 26)
    simp only [World.size_alloc] at h1; exact h1
  have hS : Hid (Sturn w.heap.size c g v n (((w.alloc (.cells (cv c) 26)).alloc (.cells (sv g) 24)).alloc (.cells z4 26)).drew) := by
    refine ⟨k4 (t := 26) (keep _ (keep _ (at0 _ _))), ?_⟩
    have h1 := keep (.cells z4 26) (at0 (w.alloc (.cells (cv c) 26)) (.cells (sv g) 24))
    simp only [World.size_alloc] at h1; exact k8 (t := 24) h1
  have HK : Hid (∀ W, Below (((w.alloc (.cells (cv c) 26)).alloc (.cells (sv g) 24)).alloc (.cells z4 26)).drew.heap.size (((w.alloc (.cells (cv c) 26)).alloc (.cells (sv g) 24)).alloc (.cells z4 26)).drew W → Sturn w.heap.size c g v n W) := fun W hB => ⟨K4.on hS.out.1 hB (by rw [HZ.out]; omega), K8.on hS.out.2 hB (by rw [HZ.out]; omega)⟩
  have HQ : Hid (∀ W, Below (((w.alloc (.cells (cv c) 26)).alloc (.cells (sv g) 24)).alloc (.cells z4 26)).drew.heap.size (((w.alloc (.cells (cv c) 26)).alloc (.cells (sv g) 24)).alloc (.cells z4 26)).drew W → W.heap[w.heap.size + 1 + 1]? = some (.cells z4 26)) := fun W hB => (hB.block _ (by rw [HZ.out]; omega)).trans hR.out
  have HW : Hid (∀ W, Sturn w.heap.size c g v n W → Sturn w.heap.size c g v n (W.setRow (w.heap.size + 1 + 1) z4)) := fun W h => ⟨K4.row h.1 _ (by omega), K8.row h.2 _ (by omega)⟩
  have HB0 : Hid (Below w.heap.size w (((w.alloc (.cells (cv c) 26)).alloc (.cells (sv g) 24)).alloc (.cells z4 26)).drew) := by repeat first | exact Below.refl _ _ | refine belowD ?_ | refine belowN ?_ _ | refine bA ?_ (by first | exact Nat.le_refl _ | (simp only [World.size_alloc]; omega)) _
  have HBZ : Hid (w.heap.size ≤ (((w.alloc (.cells (cv c) 26)).alloc (.cells (sv g) 24)).alloc (.cells z4 26)).drew.heap.size) := HB0.out.size
  clear hz
  go_enter Try.func9, Try.ntmps9
  go_wp2_with (fail)
  go_region_held3 (Sturn w.heap.size c g v n) ((first | with_reducible exact hS.out | with_reducible exact HK.out _ hw2.out | (rw [sets4 (HQ.out _ hw2.out) rfl]; exact HW.out _ (HK.out _ hw2.out)))) ((first | (go_at_call 19; refine (HP.out _).mono ?_; rintro e1 w1 ⟨rfl, hw1⟩; subst w1) | (go_at_call 127; refine (HS.out _).mono ?_; rintro e2 w2 ⟨rfl, hw2'⟩; have hw2 := hide hw2'; clear hw2'; have hk2 := k4 (c := fun _ => 0) (HQ.out _ hw2.out); have hf2 := f4 (HQ.out _ hw2.out))))
  all_goals go_wp2
  all_goals rw [sets4 (HQ.out _ hw2.out) rfl]
  all_goals (refine bodyPost_ret (v := .tuple #[.agg z4, .bool false, .int .i64 1]) ?_ rfl ⟨rfl, below_setRow (HB0.out.trans (hw2.out.mono HBZ.out)) (by omega) _⟩)
  all_goals simp only [results, Try.results9, asAddr]
  all_goals simp [run_loadVar_row _ _ 26 26 _ (0, 0) _ (setRow_heap _ _ _ z4 26 (0, 0) (HQ.out _ hw2.out)) Try.underlying26 rfl size26]
end Rn
end Go.Proofs.Ytonhmaocgfhcfaa
