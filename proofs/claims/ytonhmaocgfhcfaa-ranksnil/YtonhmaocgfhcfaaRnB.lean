import Derived.Test.YtonhmaocgfhcfaaRnA
namespace Go.Proofs.Ytonhmaocgfhcfaa
namespace Rn
open Go.RowKit
set_option linter.unusedVariables false
set_option maxRecDepth 8000
theorem results_tmp4 {fn : Func} {t u v x : Tmp} (h : fn.results = #[.tmp t, .tmp u, .tmp v, .tmp x]) (tmps : Array Value) (P : Program) (w : World) :
    (results fn tmps).run P w = .ok (.tuple #[tmps.getD t undef, tmps.getD u undef, tmps.getD v undef, tmps.getD x undef]) w := by
  simp [results, h]
abbrev ev (a b c : Int) : Array Value := #[.int .u32 a, .int .u32 b, .int .u32 c]
abbrev K4 (b : Nat) (c : Nat → Int) (w : World) : Prop := w.cell? ⟨b, 0, none⟩ = some (.int .u64 (c 0)) ∧ w.cell? ⟨b, 1, none⟩ = some (.int .u64 (c 1)) ∧ w.cell? ⟨b, 2, none⟩ = some (.int .u64 (c 2)) ∧ w.cell? ⟨b, 3, none⟩ = some (.int .u64 (c 3))
abbrev K8 (b : Nat) (c : Nat → Int) (w : World) : Prop := w.cell? ⟨b, 0, none⟩ = some (.int .u64 (c 0)) ∧ w.cell? ⟨b, 1, none⟩ = some (.int .u64 (c 1)) ∧ w.cell? ⟨b, 2, none⟩ = some (.int .u64 (c 2)) ∧ w.cell? ⟨b, 3, none⟩ = some (.int .u64 (c 3)) ∧ w.cell? ⟨b, 4, none⟩ = some (.int .u64 (c 4)) ∧ w.cell? ⟨b, 5, none⟩ = some (.int .u64 (c 5)) ∧ w.cell? ⟨b, 6, none⟩ = some (.int .u64 (c 6)) ∧ w.cell? ⟨b, 7, none⟩ = some (.int .u64 (c 7))
abbrev K3 (b : Nat) (x y z : Int) (w : World) : Prop := w.cell? ⟨b, 0, none⟩ = some (.int .u32 x) ∧ w.cell? ⟨b, 1, none⟩ = some (.int .u32 y) ∧ w.cell? ⟨b, 2, none⟩ = some (.int .u32 z)
theorem k4 {w : World} {b : Nat} {c : Nat → Int} {t : TypeId} (h : w.heap[b]? = some (.cells (cv c) t (0, 0))) : K4 b c w := by
  refine ⟨?_, ?_, ?_, ?_⟩ <;> exact (cell_of_row w b _ _ t (0, 0) h).trans rfl
theorem k8 {w : World} {b : Nat} {c : Nat → Int} {t : TypeId} (h : w.heap[b]? = some (.cells (sv c) t (0, 0))) : K8 b c w := by
  refine ⟨?_, ?_, ?_, ?_, ?_, ?_, ?_, ?_⟩ <;> exact (cell_of_row w b _ _ t (0, 0) h).trans rfl
theorem k3 {w : World} {b : Nat} {x y z : Int} {t : TypeId} (h : w.heap[b]? = some (.cells (ev x y z) t (0, 0))) : K3 b x y z w := by
  refine ⟨?_, ?_, ?_⟩ <;> exact (cell_of_row w b _ _ t (0, 0) h).trans rfl
theorem K4.on {b n : Nat} {c : Nat → Int} {w w' : World} (h : K4 b c w) (hB : Below n w w') (hb : b < n) : K4 b c w' :=
  ⟨(hB.cell hb).trans h.1, (hB.cell hb).trans h.2.1, (hB.cell hb).trans h.2.2.1, (hB.cell hb).trans h.2.2.2⟩
theorem K8.on {b n : Nat} {c : Nat → Int} {w w' : World} (h : K8 b c w) (hB : Below n w w') (hb : b < n) : K8 b c w' :=
  ⟨(hB.cell hb).trans h.1, (hB.cell hb).trans h.2.1, (hB.cell hb).trans h.2.2.1, (hB.cell hb).trans h.2.2.2.1, (hB.cell hb).trans h.2.2.2.2.1, (hB.cell hb).trans h.2.2.2.2.2.1, (hB.cell hb).trans h.2.2.2.2.2.2.1, (hB.cell hb).trans h.2.2.2.2.2.2.2⟩
theorem K3.on {b n : Nat} {x y z : Int} {w w' : World} (h : K3 b x y z w) (hB : Below n w w') (hb : b < n) : K3 b x y z w' :=
  ⟨(hB.cell hb).trans h.1, (hB.cell hb).trans h.2.1, (hB.cell hb).trans h.2.2⟩
set_option maxHeartbeats 1000000 in
theorem scatter_ab (c s : Nat → Int) (x y z : Int) (k : Bool) (w : World) : Calls Try.prog 124 #[.agg #[], .agg (cv c), .agg (sv s), .agg (ev x y z), .bool k] w fun e w' => e = .returned (.tuple #[.int .u64 0, .int .u64 0, .bool false, .int .i64 1]) ∧ Below w.heap.size w w' := by
  go_enter Try.func124, Try.ntmps124
  go_wp2
  refine bodyPost_ret (results_tmp4 rfl _ _ _) rfl ?_
  exact ⟨rfl, by repeat first | exact Below.refl _ _ | refine belowD ?_ | refine belowN ?_ _ | refine bA ?_ (by first | exact Nat.le_refl _ | (simp only [World.size_alloc]; omega)) _⟩
abbrev S3 (b : Nat) (c s : Nat → Int) (x y z : Int) (w : World) : Prop := K4 b c w ∧ K8 (b + 1) s w ∧ K3 (b + 1 + 1) x y z w
set_option maxHeartbeats 2000000 in
theorem scatter_none (c s : Nat → Int) (x y z : Int) (k : Bool) (w : World) : Calls Try.prog 6 #[.pointer none, .agg (cv c), .agg (sv s), .agg (ev x y z), .bool k] w fun e w' => e = .returned (.tuple #[.int .u64 0, .int .u64 0, .bool false, .int .i64 1]) ∧ Below w.heap.size w w' := by
  have HP := hide prog_none
  have HS := hide (scatter_ab c s x y z k)
  have hS : Hid (S3 w.heap.size c s x y z (((w.alloc (.cells (cv c) 26)).alloc (.cells (sv s) 24)).alloc (.cells (ev x y z) 29)).drew) := by
    refine ⟨k4 (t := 26) (keep _ (keep _ (at0 _ _))), ?_, ?_⟩
    · have h1 := keep (.cells (ev x y z) 29) (at0 (w.alloc (.cells (cv c) 26)) (.cells (sv s) 24))
      rw [World.size_alloc] at h1; exact k8 (t := 24) h1
    · have h1 := at0 ((w.alloc (.cells (cv c) 26)).alloc (.cells (sv s) 24)) (.cells (ev x y z) 29)
      rw [World.size_alloc, World.size_alloc] at h1; exact k3 (t := 29) h1
  have HK : Hid (∀ W, Below (((w.alloc (.cells (cv c) 26)).alloc (.cells (sv s) 24)).alloc (.cells (ev x y z) 29)).drew.heap.size (((w.alloc (.cells (cv c) 26)).alloc (.cells (sv s) 24)).alloc (.cells (ev x y z) 29)).drew W → S3 w.heap.size c s x y z W) := fun W hB =>
    have hz : (((w.alloc (.cells (cv c) 26)).alloc (.cells (sv s) 24)).alloc (.cells (ev x y z) 29)).drew.heap.size = w.heap.size + 1 + 1 + 1 := by simp only [World.size_drew, World.size_alloc]
    ⟨K4.on hS.out.1 hB (by omega), K8.on hS.out.2.1 hB (by omega), K3.on hS.out.2.2 hB (by omega)⟩
  have HB0 : Hid (Below w.heap.size w (((w.alloc (.cells (cv c) 26)).alloc (.cells (sv s) 24)).alloc (.cells (ev x y z) 29)).drew) := by repeat first | exact Below.refl _ _ | refine belowD ?_ | refine belowN ?_ _ | refine bA ?_ (by first | exact Nat.le_refl _ | (simp only [World.size_alloc]; omega)) _
  have HBZ : Hid (w.heap.size ≤ (((w.alloc (.cells (cv c) 26)).alloc (.cells (sv s) 24)).alloc (.cells (ev x y z) 29)).drew.heap.size) := HB0.out.size
  go_enter Try.func6, Try.ntmps6
  go_wp2_with (fail)
  go_region_held3 (S3 w.heap.size c s x y z) ((first | with_reducible exact hS.out | with_reducible exact HK.out _ hw2.out)) ((first | (go_at_call 19; refine (HP.out _).mono ?_; rintro e1 w1 ⟨rfl, hw1⟩; subst w1) | (go_at_call 124; refine (HS.out _).mono ?_; rintro e2 w2 ⟨rfl, hw2'⟩; have hw2 := hide hw2'; clear hw2')))
  all_goals go_wp2
  all_goals refine bodyPost_ret (results_tmp4 rfl _ _ _) rfl ?_
  all_goals exact ⟨rfl, HB0.out.trans (hw2.out.mono HBZ.out)⟩
end Rn
end Go.Proofs.Ytonhmaocgfhcfaa
