import Derived.Test.YtonhmaocgfhcfaaRnB
import Derived.Laws.CopyOwn
namespace Go.Proofs.Ytonhmaocgfhcfaa
namespace Rn
open Go.RowKit
set_option linter.unusedVariables false
set_option maxRecDepth 8000
theorem sets8 {w : World} {g : Nat} {old : Array Value} {t : TypeId} {fr : Nat × Nat} (hg : w.heap[g]? = some (.cells old t fr)) (hs : old.size = 8) (v0 v1 v2 v3 v4 v5 v6 v7 : Value) :
    ((((((((w.setCell ⟨g, 0, none⟩ v0).setCell ⟨g, 1, none⟩ v1).setCell ⟨g, 2, none⟩ v2).setCell ⟨g, 3, none⟩ v3).setCell ⟨g, 4, none⟩ v4).setCell ⟨g, 5, none⟩ v5).setCell ⟨g, 6, none⟩ v6).setCell ⟨g, 7, none⟩ v7) = w.setRow g #[v0, v1, v2, v3, v4, v5, v6, v7] := by
  match old, hs with
  | ⟨[u0, u1, u2, u3, u4, u5, u6, u7]⟩, _ =>
    rw [setCell_eq_setRow w g 0 #[u0, u1, u2, u3, u4, u5, u6, u7] t fr v0 hg]
    rw [show (#[u0, u1, u2, u3, u4, u5, u6, u7] : Array Value).setIfInBounds 0 v0 = #[v0, u1, u2, u3, u4, u5, u6, u7] from rfl]
    have q0 := setRow_heap w g _ #[v0, u1, u2, u3, u4, u5, u6, u7] t fr hg
    rw [setCell_eq_setRow _ g 1 #[v0, u1, u2, u3, u4, u5, u6, u7] t fr v1 q0]
    rw [show (#[v0, u1, u2, u3, u4, u5, u6, u7] : Array Value).setIfInBounds 1 v1 = #[v0, v1, u2, u3, u4, u5, u6, u7] from rfl]
    rw [setRow_setRow]
    have q1 := setRow_heap w g _ #[v0, v1, u2, u3, u4, u5, u6, u7] t fr hg
    rw [setCell_eq_setRow _ g 2 #[v0, v1, u2, u3, u4, u5, u6, u7] t fr v2 q1]
    rw [show (#[v0, v1, u2, u3, u4, u5, u6, u7] : Array Value).setIfInBounds 2 v2 = #[v0, v1, v2, u3, u4, u5, u6, u7] from rfl]
    rw [setRow_setRow]
    have q2 := setRow_heap w g _ #[v0, v1, v2, u3, u4, u5, u6, u7] t fr hg
    rw [setCell_eq_setRow _ g 3 #[v0, v1, v2, u3, u4, u5, u6, u7] t fr v3 q2]
    rw [show (#[v0, v1, v2, u3, u4, u5, u6, u7] : Array Value).setIfInBounds 3 v3 = #[v0, v1, v2, v3, u4, u5, u6, u7] from rfl]
    rw [setRow_setRow]
    have q3 := setRow_heap w g _ #[v0, v1, v2, v3, u4, u5, u6, u7] t fr hg
    rw [setCell_eq_setRow _ g 4 #[v0, v1, v2, v3, u4, u5, u6, u7] t fr v4 q3]
    rw [show (#[v0, v1, v2, v3, u4, u5, u6, u7] : Array Value).setIfInBounds 4 v4 = #[v0, v1, v2, v3, v4, u5, u6, u7] from rfl]
    rw [setRow_setRow]
    have q4 := setRow_heap w g _ #[v0, v1, v2, v3, v4, u5, u6, u7] t fr hg
    rw [setCell_eq_setRow _ g 5 #[v0, v1, v2, v3, v4, u5, u6, u7] t fr v5 q4]
    rw [show (#[v0, v1, v2, v3, v4, u5, u6, u7] : Array Value).setIfInBounds 5 v5 = #[v0, v1, v2, v3, v4, v5, u6, u7] from rfl]
    rw [setRow_setRow]
    have q5 := setRow_heap w g _ #[v0, v1, v2, v3, v4, v5, u6, u7] t fr hg
    rw [setCell_eq_setRow _ g 6 #[v0, v1, v2, v3, v4, v5, u6, u7] t fr v6 q5]
    rw [show (#[v0, v1, v2, v3, v4, v5, u6, u7] : Array Value).setIfInBounds 6 v6 = #[v0, v1, v2, v3, v4, v5, v6, u7] from rfl]
    rw [setRow_setRow]
    have q6 := setRow_heap w g _ #[v0, v1, v2, v3, v4, v5, v6, u7] t fr hg
    rw [setCell_eq_setRow _ g 7 #[v0, v1, v2, v3, v4, v5, v6, u7] t fr v7 q6]
    rw [show (#[v0, v1, v2, v3, v4, v5, v6, u7] : Array Value).setIfInBounds 7 v7 = #[v0, v1, v2, v3, v4, v5, v6, v7] from rfl]
    rw [setRow_setRow]
theorem sets4 {w : World} {g : Nat} {old : Array Value} {t : TypeId} {fr : Nat × Nat} (hg : w.heap[g]? = some (.cells old t fr)) (hs : old.size = 4) (v0 v1 v2 v3 : Value) :
    ((((w.setCell ⟨g, 0, none⟩ v0).setCell ⟨g, 1, none⟩ v1).setCell ⟨g, 2, none⟩ v2).setCell ⟨g, 3, none⟩ v3) = w.setRow g #[v0, v1, v2, v3] := by
  match old, hs with
  | ⟨[u0, u1, u2, u3]⟩, _ =>
    rw [setCell_eq_setRow w g 0 #[u0, u1, u2, u3] t fr v0 hg]
    rw [show (#[u0, u1, u2, u3] : Array Value).setIfInBounds 0 v0 = #[v0, u1, u2, u3] from rfl]
    have q0 := setRow_heap w g _ #[v0, u1, u2, u3] t fr hg
    rw [setCell_eq_setRow _ g 1 #[v0, u1, u2, u3] t fr v1 q0]
    rw [show (#[v0, u1, u2, u3] : Array Value).setIfInBounds 1 v1 = #[v0, v1, u2, u3] from rfl]
    rw [setRow_setRow]
    have q1 := setRow_heap w g _ #[v0, v1, u2, u3] t fr hg
    rw [setCell_eq_setRow _ g 2 #[v0, v1, u2, u3] t fr v2 q1]
    rw [show (#[v0, v1, u2, u3] : Array Value).setIfInBounds 2 v2 = #[v0, v1, v2, u3] from rfl]
    rw [setRow_setRow]
    have q2 := setRow_heap w g _ #[v0, v1, v2, u3] t fr hg
    rw [setCell_eq_setRow _ g 3 #[v0, v1, v2, u3] t fr v3 q2]
    rw [show (#[v0, v1, v2, u3] : Array Value).setIfInBounds 3 v3 = #[v0, v1, v2, v3] from rfl]
    rw [setRow_setRow]
theorem size26 : (Try.prog.info? 26).map (·.size) = some 4 := by kernel_rfl
theorem K4.row {b g : Nat} {c : Nat → Int} {w : World} (h : K4 b c w) (C : Array Value) (hb : b ≠ g) : K4 b c (w.setRow g C) :=
  ⟨(cell_setRow_other w g C _ hb).trans h.1, (cell_setRow_other w g C _ hb).trans h.2.1, (cell_setRow_other w g C _ hb).trans h.2.2.1, (cell_setRow_other w g C _ hb).trans h.2.2.2⟩
theorem K8.row {b g : Nat} {c : Nat → Int} {w : World} (h : K8 b c w) (C : Array Value) (hb : b ≠ g) : K8 b c (w.setRow g C) :=
  ⟨(cell_setRow_other w g C _ hb).trans h.1, (cell_setRow_other w g C _ hb).trans h.2.1, (cell_setRow_other w g C _ hb).trans h.2.2.1, (cell_setRow_other w g C _ hb).trans h.2.2.2.1, (cell_setRow_other w g C _ hb).trans h.2.2.2.2.1, (cell_setRow_other w g C _ hb).trans h.2.2.2.2.2.1, (cell_setRow_other w g C _ hb).trans h.2.2.2.2.2.2.1, (cell_setRow_other w g C _ hb).trans h.2.2.2.2.2.2.2⟩
/-- Eight cells that may be written. -/
abbrev F8 (b : Nat) (w : World) : Prop := w.frozen? ⟨b, 0, none⟩ = false ∧ w.frozen? ⟨b, 1, none⟩ = false ∧ w.frozen? ⟨b, 2, none⟩ = false ∧ w.frozen? ⟨b, 3, none⟩ = false ∧ w.frozen? ⟨b, 4, none⟩ = false ∧ w.frozen? ⟨b, 5, none⟩ = false ∧ w.frozen? ⟨b, 6, none⟩ = false ∧ w.frozen? ⟨b, 7, none⟩ = false
abbrev F4 (b : Nat) (w : World) : Prop := w.frozen? ⟨b, 0, none⟩ = false ∧ w.frozen? ⟨b, 1, none⟩ = false ∧ w.frozen? ⟨b, 2, none⟩ = false ∧ w.frozen? ⟨b, 3, none⟩ = false
theorem f8 {w : World} {b : Nat} {c : Array Value} {t : TypeId} (h : w.heap[b]? = some (.cells c t (0, 0))) : F8 b w := by
  refine ⟨?_, ?_, ?_, ?_, ?_, ?_, ?_, ?_⟩ <;> exact frozen_of_row w b _ _ t h
theorem f4 {w : World} {b : Nat} {c : Array Value} {t : TypeId} (h : w.heap[b]? = some (.cells c t (0, 0))) : F4 b w := by
  refine ⟨?_, ?_, ?_, ?_⟩ <;> exact frozen_of_row w b _ _ t h
set_option maxHeartbeats 1000000 in
theorem apply_ab (c g : Nat → Int) (v : Int) (s : Nat → Int) (w : World) : Calls Try.prog 121 #[.agg #[], .agg (cv c), .agg (sv g), .int .u32 v, .agg (sv s)] w fun e w' => e = .returned (.tuple #[.agg z8, .bool false, .int .i64 1]) ∧ Below w.heap.size w w' := by
  go_enter Try.func121, Try.ntmps121
  go_wp2
  refine bodyPost_ret (v := .tuple #[.agg z8, .bool false, .int .i64 1]) ?_ rfl ⟨rfl, by repeat first | exact Below.refl _ _ | refine belowD ?_ | refine belowN ?_ _ | refine bA ?_ (by first | exact Nat.le_refl _ | (simp only [World.size_alloc]; omega)) _⟩
  simp only [results, Try.results121, asAddr]
  go_simp
set_option maxHeartbeats 1000000 in
theorem fold_ab (c g : Nat → Int) (v : Int) (s : Nat → Int) (w : World) : Calls Try.prog 123 #[.agg #[], .agg (cv c), .agg (sv g), .int .u32 v, .agg (sv s)] w fun e w' => e = .returned (.tuple #[.agg z8, .int .i64 1]) ∧ Below w.heap.size w w' := by
  go_enter Try.func123, Try.ntmps123
  go_wp2
  refine bodyPost_ret (v := .tuple #[.agg z8, .int .i64 1]) ?_ rfl ⟨rfl, by repeat first | exact Below.refl _ _ | refine belowD ?_ | refine belowN ?_ _ | refine bA ?_ (by first | exact Nat.le_refl _ | (simp only [World.size_alloc]; omega)) _⟩
  simp only [results, Try.results123, asAddr]
  go_simp
set_option maxHeartbeats 1000000 in
theorem turn_ab (c g : Nat → Int) (v n : Int) (w : World) : Calls Try.prog 127 #[.agg #[], .agg (cv c), .agg (sv g), .int .u64 v, .int .i64 n] w fun e w' => e = .returned (.tuple #[.agg z4, .bool false, .int .i64 1]) ∧ Below w.heap.size w w' := by
  go_enter Try.func127, Try.ntmps127
  go_wp2
  refine bodyPost_ret (v := .tuple #[.agg z4, .bool false, .int .i64 1]) ?_ rfl ⟨rfl, by repeat first | exact Below.refl _ _ | refine belowD ?_ | refine belowN ?_ _ | refine bA ?_ (by first | exact Nat.le_refl _ | (simp only [World.size_alloc]; omega)) _⟩
  simp only [results, Try.results127, asAddr]
  go_simp
abbrev Sapply (b : Nat) (c g : Nat → Int) (v : Int) (s : Nat → Int) (w : World) : Prop := K4 b c w ∧ K8 (b + 1) g w ∧ K8 (b + 1 + 1) s w
set_option maxHeartbeats 4000000 in
theorem apply_none (c g : Nat → Int) (v : Int) (s : Nat → Int) (w : World) : Calls Try.prog 7 #[.pointer none, .agg (cv c), .agg (sv g), .int .u32 v, .agg (sv s)] w fun e w' => e = .returned (.tuple #[.agg z8, .bool false, .int .i64 1]) ∧ Below w.heap.size w w' := by
  have HP := hide prog_none
  have HS := hide (apply_ab c g v s)
  have hz : ((((w.alloc (.cells (cv c) 26)).alloc (.cells (sv g) 24)).alloc (.cells (sv s) 24)).alloc (.cells z8 24)).drew.heap.size = w.heap.size + 1 + 1 + 1 + 1 := by simp only [World.size_drew, World.size_alloc]
  have HZ := hide hz
  have hR : Hid (((((w.alloc (.cells (cv c) 26)).alloc (.cells (sv g) 24)).alloc (.cells (sv s) 24)).alloc (.cells z8 24)).drew.heap[w.heap.size + 1 + 1 + 1]? = some (.cells z8 24)) := by
    have h1 := at0 ((((w.alloc (.cells (cv c) 26)).alloc (.cells (sv g) 24)).alloc (.cells (sv s) 24))) (.cells z8 24)
    simp only [World.size_alloc] at h1; exact h1
  have hS : Hid (Sapply w.heap.size c g v s ((((w.alloc (.cells (cv c) 26)).alloc (.cells (sv g) 24)).alloc (.cells (sv s) 24)).alloc (.cells z8 24)).drew) := by
    refine ⟨k4 (t := 26) (keep _ (keep _ (keep _ (at0 _ _)))), ?_, ?_⟩
    · have h1 := keep (.cells z8 24) (keep (.cells (sv s) 24) (at0 (w.alloc (.cells (cv c) 26)) (.cells (sv g) 24)))
      simp only [World.size_alloc] at h1; exact k8 (t := 24) h1
    · have h1 := keep (.cells z8 24) (at0 ((w.alloc (.cells (cv c) 26)).alloc (.cells (sv g) 24)) (.cells (sv s) 24))
      simp only [World.size_alloc] at h1; exact k8 (t := 24) h1
  have HK : Hid (∀ W, Below ((((w.alloc (.cells (cv c) 26)).alloc (.cells (sv g) 24)).alloc (.cells (sv s) 24)).alloc (.cells z8 24)).drew.heap.size ((((w.alloc (.cells (cv c) 26)).alloc (.cells (sv g) 24)).alloc (.cells (sv s) 24)).alloc (.cells z8 24)).drew W → Sapply w.heap.size c g v s W) := fun W hB => ⟨K4.on hS.out.1 hB (by rw [HZ.out]; omega), K8.on hS.out.2.1 hB (by rw [HZ.out]; omega), K8.on hS.out.2.2 hB (by rw [HZ.out]; omega)⟩
  have HQ : Hid (∀ W, Below ((((w.alloc (.cells (cv c) 26)).alloc (.cells (sv g) 24)).alloc (.cells (sv s) 24)).alloc (.cells z8 24)).drew.heap.size ((((w.alloc (.cells (cv c) 26)).alloc (.cells (sv g) 24)).alloc (.cells (sv s) 24)).alloc (.cells z8 24)).drew W → W.heap[w.heap.size + 1 + 1 + 1]? = some (.cells z8 24)) := fun W hB => (hB.block _ (by rw [HZ.out]; omega)).trans hR.out
  have HW : Hid (∀ W, Sapply w.heap.size c g v s W → Sapply w.heap.size c g v s (W.setRow (w.heap.size + 1 + 1 + 1) z8)) := fun W h => ⟨K4.row h.1 _ (by omega), K8.row h.2.1 _ (by omega), K8.row h.2.2 _ (by omega)⟩
  have HB0 : Hid (Below w.heap.size w ((((w.alloc (.cells (cv c) 26)).alloc (.cells (sv g) 24)).alloc (.cells (sv s) 24)).alloc (.cells z8 24)).drew) := by repeat first | exact Below.refl _ _ | refine belowD ?_ | refine belowN ?_ _ | refine bA ?_ (by first | exact Nat.le_refl _ | (simp only [World.size_alloc]; omega)) _
  have HBZ : Hid (w.heap.size ≤ ((((w.alloc (.cells (cv c) 26)).alloc (.cells (sv g) 24)).alloc (.cells (sv s) 24)).alloc (.cells z8 24)).drew.heap.size) := HB0.out.size
  clear hz
  go_enter Try.func7, Try.ntmps7
  go_wp2_with (fail)
  go_region_held3 (Sapply w.heap.size c g v s) ((first | with_reducible exact hS.out | with_reducible exact HK.out _ hw2.out | (rw [sets8 (HQ.out _ hw2.out) rfl]; exact HW.out _ (HK.out _ hw2.out)))) ((first | (go_at_call 19; refine (HP.out _).mono ?_; rintro e1 w1 ⟨rfl, hw1⟩; subst w1) | (go_at_call 121; refine (HS.out _).mono ?_; rintro e2 w2 ⟨rfl, hw2'⟩; have hw2 := hide hw2'; clear hw2'; have hk2 := k8 (c := fun _ => 0) (HQ.out _ hw2.out); have hf2 := f8 (HQ.out _ hw2.out))))
  all_goals go_wp2
  all_goals rw [sets8 (HQ.out _ hw2.out) rfl]
  all_goals (refine bodyPost_ret (v := .tuple #[.agg z8, .bool false, .int .i64 1]) ?_ rfl ⟨rfl, below_setRow (HB0.out.trans (hw2.out.mono HBZ.out)) (by omega) _⟩)
  all_goals simp only [results, Try.results7, asAddr]
  all_goals simp [run_loadVar_row _ _ 24 24 _ (0, 0) _ (setRow_heap _ _ _ z8 24 (0, 0) (HQ.out _ hw2.out)) Try.underlying24 rfl size24]
end Rn
end Go.Proofs.Ytonhmaocgfhcfaa
