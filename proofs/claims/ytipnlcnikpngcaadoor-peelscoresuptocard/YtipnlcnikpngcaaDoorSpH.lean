import Derived.Test.YtipnlcnikpngcaaDoorSpF
namespace Go.Proofs.YtipnlcnikpngcaaDoor
namespace Wp
open Go.RowKit
set_option linter.unusedVariables false
set_option maxRecDepth 8000
/-- A Peel whose program it is. -/
def FK  (fb : Nat) (w : World) : Prop := fb < w.heap.size ∧ w.heap[fb]? = some (.cells #[.iface 90 (.agg #[])] 61 (0, 0))
theorem FK.on  {fb : Nat} {w w' : World} (h : FK  fb w) (hb : Below w.heap.size w w') : FK  fb w' := ⟨Nat.lt_of_lt_of_le h.1 hb.size, (hb.block _ h.1).trans h.2⟩
theorem pK (x : Addr) (W : World) : (binOp .eql 30 (.pointer (some x)) (.pointer none)).run Tryd.prog W = .ok (.bool false) W := rfl
theorem iK  (W : World) : (binOp .eql 59 (.iface 90 (.agg #[])) .nilIface).run Tryd.prog W = .ok (.bool false) W := rfl
set_option maxHeartbeats 1000000 in
theorem prog_K  (fb : Nat) (w : World) (hF : FK  fb w) : Calls Tryd.prog 32 #[.pointer (some ⟨fb, 0, none⟩)] w fun e w' => e = .returned (.iface 90 (.agg #[])) ∧ w' = w := by
  have hp := pK
  have hi := iK 
  have hc : w.cell? ⟨fb, 0, none⟩ = some (.iface 90 (.agg #[])) := (cell_of_row w fb _ _ 61 (0, 0) hF.2).trans rfl
  clear hF
  go_enter Tryd.func32, Tryd.ntmps32
  go_wp2
  all_goals go_ret
  all_goals exact ⟨rfl, rfl⟩
set_option maxHeartbeats 1000000 in
theorem sink_K  (fb : Nat) (w : World) (hF : FK  fb w) : Calls Tryd.prog 21 #[.pointer (some ⟨fb, 0, none⟩)] w fun e w' => e = .returned (.agg (kv 3 5 4 5)) ∧ Below w.heap.size w w' := by
  have HP := hide (prog_K  fb)
  have HF : Hid (FK  fb (w.alloc (.cells (kv 0 0 0 0) 73))) := hF.on (by repeat first | exact Below.refl _ _ | refine belowD ?_ | refine belowN ?_ _ | refine bA ?_ (by first | exact Nat.le_refl _ | (simp only [World.size_alloc]; omega)) _)
  have hR : Hid ((w.alloc (.cells (kv 0 0 0 0) 73)).heap[w.heap.size]? = some (.cells (kv 0 0 0 0) 73)) := at0 _ _
  have hB : Hid (Below w.heap.size w (w.alloc (.cells (kv 0 0 0 0) 73))) := (by repeat first | exact Below.refl _ _ | refine belowD ?_ | refine belowN ?_ _ | refine bA ?_ (by first | exact Nat.le_refl _ | (simp only [World.size_alloc]; omega)) _)
  clear hF
  go_enter Tryd.func21, Tryd.ntmps21
  go_wp2_with (fail)
  refine (HP.out _ HF.out).mono ?_
  rintro e1 w1 ⟨rfl, rfl⟩
  go_wp2_with (fail)
  refine (csink _).mono ?_
  rintro e2 w2 ⟨rfl, hw2'⟩
  have hw2 := hide hw2'
  clear hw2'
  have HQ : Hid (w2.heap[w.heap.size]? = some (.cells (kv 0 0 0 0) 73)) := (hw2.out.block _ (by simp)).trans hR.out
  have hk2 := k4i (HQ.out)
  have hf2 := f4 HQ.out
  go_wp2
  rw [sets4 HQ.out rfl]
  refine bodyPost_ret (v := .agg (kv 3 5 4 5)) ?_ rfl ⟨rfl, below_setRow (hB.out.trans (hw2.out.mono (by simp))) (by omega) _⟩
  simp only [results, Tryd.results21, asAddr]
  simp [run_loadVar_row _ _ 73 73 _ (0, 0) _ (setRow_heap _ _ _ (kv 3 5 4 5) 73 (0, 0) HQ.out) Tryd.underlying73 rfl sizeK]
abbrev SstK (q : Nat) (a b : Int) (w : World) : Prop := K2 q a b w
set_option maxHeartbeats 4000000 in
theorem start_K  (fb : Nat) (v : Nat) (a b : Int)  (w : World) (hF : FK  fb w) : Calls Tryd.prog 19 #[.pointer (some ⟨fb, 0, none⟩), .int .u32 (v : Int), .agg #[.int .u64 a, .int .u64 b]] w fun e w' => e = .returned (.tuple #[.agg (sv (coSt a b)), .int .i64 0]) ∧ Below w.heap.size w w' := by
  have HP : Hid (∀ W, Below w.heap.size w W → Calls Tryd.prog 32 #[.pointer (some ⟨fb, 0, none⟩)] W fun e w' => e = .returned (.iface 90 (.agg #[])) ∧ w' = W) := fun W h => prog_K  fb W (hF.on h)
  have HS := hide (cstart (v : Int) a b)
  clear hF
  have hz : ((w.alloc (.cells #[.int .u64 a, .int .u64 b] 69)).alloc (.cells z8 41)).drew.heap.size = w.heap.size + 1 + 1 := by simp only [World.size_drew, World.size_alloc]
  have HZ := hide hz
  have hR : Hid (((w.alloc (.cells #[.int .u64 a, .int .u64 b] 69)).alloc (.cells z8 41)).drew.heap[w.heap.size + 1]? = some (.cells z8 41)) := by
    have h1 := at0 (w.alloc (.cells #[.int .u64 a, .int .u64 b] 69)) (.cells z8 41)
    simp only [World.size_alloc] at h1; exact h1
  have hS : Hid (SstK w.heap.size a b ((w.alloc (.cells #[.int .u64 a, .int .u64 b] 69)).alloc (.cells z8 41)).drew) := by
    have h1 := keep (.cells z8 41) (at0 w (.cells #[.int .u64 a, .int .u64 b] 69))
    exact k2 (t := 69) h1
  have HK : Hid (∀ W, Below ((w.alloc (.cells #[.int .u64 a, .int .u64 b] 69)).alloc (.cells z8 41)).drew.heap.size ((w.alloc (.cells #[.int .u64 a, .int .u64 b] 69)).alloc (.cells z8 41)).drew W → SstK w.heap.size a b W) := fun W hB => K2.on hS.out hB (by rw [HZ.out]; omega)
  have HQ : Hid (∀ W, Below ((w.alloc (.cells #[.int .u64 a, .int .u64 b] 69)).alloc (.cells z8 41)).drew.heap.size ((w.alloc (.cells #[.int .u64 a, .int .u64 b] 69)).alloc (.cells z8 41)).drew W → W.heap[w.heap.size + 1]? = some (.cells z8 41)) := fun W hB => (hB.block _ (by rw [HZ.out]; omega)).trans hR.out
  have HW : Hid (∀ W, SstK w.heap.size a b W → SstK w.heap.size a b (W.setRow (w.heap.size + 1) (sv (coSt a b)))) := fun W h => K2.row h _ (by omega)
  have HB0 : Hid (Below w.heap.size w ((w.alloc (.cells #[.int .u64 a, .int .u64 b] 69)).alloc (.cells z8 41)).drew) := by repeat first | exact Below.refl _ _ | refine belowD ?_ | refine belowN ?_ _ | refine bA ?_ (by first | exact Nat.le_refl _ | (simp only [World.size_alloc]; omega)) _
  have HBZ : Hid (w.heap.size ≤ ((w.alloc (.cells #[.int .u64 a, .int .u64 b] 69)).alloc (.cells z8 41)).drew.heap.size) := HB0.out.size
  clear hz
  go_enter Tryd.func19, Tryd.ntmps19
  go_wp2_with (fail)
  go_region_held3 (SstK w.heap.size a b) ((first | with_reducible exact hS.out | with_reducible exact HK.out _ hw2.out | (rw [sets8 (HQ.out _ hw2.out) rfl]; exact HW.out _ (HK.out _ hw2.out)))) ((first | (go_at_call 32; refine (HP.out _ (by repeat first | exact Below.refl _ _ | refine belowD ?_ | refine belowN ?_ _ | refine bA ?_ (by first | exact Nat.le_refl _ | (simp only [World.size_alloc]; omega)) _)).mono ?_; rintro e1 w1 ⟨rfl, hw1⟩; subst w1) | (go_at_call 89; refine (HS.out _).mono ?_; rintro e2 w2 ⟨rfl, hw2'⟩; have hw2 := hide hw2'; clear hw2'; have hk2 := k8 (c := fun _ => 0) (HQ.out _ hw2.out); have hf2 := f8 (HQ.out _ hw2.out))))
  all_goals go_wp2
  all_goals rw [sets8 (HQ.out _ hw2.out) rfl]
  all_goals (refine bodyPost_ret (v := .tuple #[.agg (sv (coSt a b)), .int .i64 0]) ?_ rfl ⟨rfl, below_setRow (HB0.out.trans (hw2.out.mono HBZ.out)) (by omega) _⟩)
  all_goals simp only [results, Tryd.results19, asAddr]
  all_goals simp [run_loadVar_row _ _ 41 41 _ (0, 0) _ (setRow_heap _ _ _ ((sv (coSt a b))) 41 (0, 0) (HQ.out _ hw2.out)) Tryd.underlying41 rfl size35]
abbrev SscK (q : Nat) (c s : Nat → Int) (x y z : Int) (w : World) : Prop := K4 q c w ∧ K8 (q + 1) s w ∧ K3 (q + 1 + 1) x y z w
set_option maxHeartbeats 4000000 in
theorem scatter_K  (fb : Nat) (c s : Nat → Int) (x y : Nat) (z : Int) (k : Bool)  (w : World) (hF : FK  fb w) : Calls Tryd.prog 23 #[.pointer (some ⟨fb, 0, none⟩), .agg (cv c), .agg (sv s), .agg (ev x y z), .bool k] w fun e w' => e = .returned (.tuple #[.int .u64 (coSc c s x y).1, .int .u64 (coSc c s x y).2.1, .bool (coSc c s x y).2.2, .int .i64 0]) ∧ Below w.heap.size w w' := by
  have HP : Hid (∀ W, Below w.heap.size w W → Calls Tryd.prog 32 #[.pointer (some ⟨fb, 0, none⟩)] W fun e w' => e = .returned (.iface 90 (.agg #[])) ∧ w' = W) := fun W h => prog_K  fb W (hF.on h)
  have HS := hide (cscatter c s x y z k)
  clear hF
  have hz : (((w.alloc (.cells (cv c) 65)).alloc (.cells (sv s) 41)).alloc (.cells (ev x y z) 52)).drew.heap.size = w.heap.size + 1 + 1 + 1 := by simp only [World.size_drew, World.size_alloc]
  have HZ := hide hz
  have hS : Hid (SscK w.heap.size c s x y z (((w.alloc (.cells (cv c) 65)).alloc (.cells (sv s) 41)).alloc (.cells (ev x y z) 52)).drew) := by
    refine ⟨?_, ?_, ?_⟩
    · have h1 := keep (.cells (ev x y z) 52) (keep (.cells (sv s) 41) (at0 w (.cells (cv c) 65)))
      exact k4 (t := 65) h1
    · have h1 := keep (.cells (ev x y z) 52) (at0 (w.alloc (.cells (cv c) 65)) (.cells (sv s) 41))
      simp only [World.size_alloc] at h1; exact k8 (t := 41) h1
    · have h1 := at0 ((w.alloc (.cells (cv c) 65)).alloc (.cells (sv s) 41)) (.cells (ev x y z) 52)
      simp only [World.size_alloc] at h1; exact k3 (t := 52) h1
  have HK : Hid (∀ W, Below (((w.alloc (.cells (cv c) 65)).alloc (.cells (sv s) 41)).alloc (.cells (ev x y z) 52)).drew.heap.size (((w.alloc (.cells (cv c) 65)).alloc (.cells (sv s) 41)).alloc (.cells (ev x y z) 52)).drew W → SscK w.heap.size c s x y z W) := fun W hB => ⟨K4.on hS.out.1 hB (by rw [HZ.out]; omega), K8.on hS.out.2.1 hB (by rw [HZ.out]; omega), K3.on hS.out.2.2 hB (by rw [HZ.out]; omega)⟩
  have HB0 : Hid (Below w.heap.size w (((w.alloc (.cells (cv c) 65)).alloc (.cells (sv s) 41)).alloc (.cells (ev x y z) 52)).drew) := by repeat first | exact Below.refl _ _ | refine belowD ?_ | refine belowN ?_ _ | refine bA ?_ (by first | exact Nat.le_refl _ | (simp only [World.size_alloc]; omega)) _
  have HBZ : Hid (w.heap.size ≤ (((w.alloc (.cells (cv c) 65)).alloc (.cells (sv s) 41)).alloc (.cells (ev x y z) 52)).drew.heap.size) := HB0.out.size
  clear hz
  go_enter Tryd.func23, Tryd.ntmps23
  go_wp2_with (fail)
  go_region_held3 (SscK w.heap.size c s x y z) ((first | with_reducible exact hS.out | with_reducible exact HK.out _ hw2.out)) ((first | (go_at_call 32; refine (HP.out _ (by repeat first | exact Below.refl _ _ | refine belowD ?_ | refine belowN ?_ _ | refine bA ?_ (by first | exact Nat.le_refl _ | (simp only [World.size_alloc]; omega)) _)).mono ?_; rintro e1 w1 ⟨rfl, hw1⟩; subst w1) | (go_at_call 87; refine (HS.out _).mono ?_; rintro e2 w2 ⟨rfl, hw2'⟩; have hw2 := hide hw2'; clear hw2')))
  all_goals go_wp2
  all_goals refine bodyPost_ret (results_tmp4 rfl _ _ _) rfl ?_
  all_goals exact ⟨rfl, HB0.out.trans (hw2.out.mono HBZ.out)⟩
abbrev SapK (q : Nat) (c g s : Nat → Int) (w : World) : Prop := K4 q c w ∧ K8 (q + 1) g w ∧ K8 (q + 1 + 1) s w
set_option maxHeartbeats 4000000 in
theorem apply_K  (fb : Nat) (c g : Nat → Int) (v : Nat) (s : Nat → Int)  (w : World) (hF : FK  fb w) : Calls Tryd.prog 25 #[.pointer (some ⟨fb, 0, none⟩), .agg (cv c), .agg (sv g), .int .u32 (v : Int), .agg (sv s)] w fun e w' => e = .returned (.tuple #[.agg (sv (coAp c s).1), .bool (coAp c s).2, .int .i64 0]) ∧ Below w.heap.size w w' := by
  have HP : Hid (∀ W, Below w.heap.size w W → Calls Tryd.prog 32 #[.pointer (some ⟨fb, 0, none⟩)] W fun e w' => e = .returned (.iface 90 (.agg #[])) ∧ w' = W) := fun W h => prog_K  fb W (hF.on h)
  have HS := hide (capply c (v : Int) s)
  clear hF
  have hz : ((((w.alloc (.cells (cv c) 65)).alloc (.cells (sv g) 41)).alloc (.cells (sv s) 41)).alloc (.cells z8 41)).drew.heap.size = w.heap.size + 1 + 1 + 1 + 1 := by simp only [World.size_drew, World.size_alloc]
  have HZ := hide hz
  have hR : Hid (((((w.alloc (.cells (cv c) 65)).alloc (.cells (sv g) 41)).alloc (.cells (sv s) 41)).alloc (.cells z8 41)).drew.heap[w.heap.size + 1 + 1 + 1]? = some (.cells z8 41)) := by
    have h1 := at0 (((w.alloc (.cells (cv c) 65)).alloc (.cells (sv g) 41)).alloc (.cells (sv s) 41)) (.cells z8 41)
    simp only [World.size_alloc] at h1; exact h1
  have hS : Hid (SapK w.heap.size c g s ((((w.alloc (.cells (cv c) 65)).alloc (.cells (sv g) 41)).alloc (.cells (sv s) 41)).alloc (.cells z8 41)).drew) := by
    refine ⟨?_, ?_, ?_⟩
    · have h1 := keep (.cells z8 41) (keep (.cells (sv s) 41) (keep (.cells (sv g) 41) (at0 w (.cells (cv c) 65))))
      exact k4 (t := 65) h1
    · have h1 := keep (.cells z8 41) (keep (.cells (sv s) 41) (at0 (w.alloc (.cells (cv c) 65)) (.cells (sv g) 41)))
      simp only [World.size_alloc] at h1; exact k8 (t := 41) h1
    · have h1 := keep (.cells z8 41) (at0 ((w.alloc (.cells (cv c) 65)).alloc (.cells (sv g) 41)) (.cells (sv s) 41))
      simp only [World.size_alloc] at h1; exact k8 (t := 41) h1
  have HK : Hid (∀ W, Below ((((w.alloc (.cells (cv c) 65)).alloc (.cells (sv g) 41)).alloc (.cells (sv s) 41)).alloc (.cells z8 41)).drew.heap.size ((((w.alloc (.cells (cv c) 65)).alloc (.cells (sv g) 41)).alloc (.cells (sv s) 41)).alloc (.cells z8 41)).drew W → SapK w.heap.size c g s W) := fun W hB => ⟨K4.on hS.out.1 hB (by rw [HZ.out]; omega), K8.on hS.out.2.1 hB (by rw [HZ.out]; omega), K8.on hS.out.2.2 hB (by rw [HZ.out]; omega)⟩
  have HQ : Hid (∀ W, Below ((((w.alloc (.cells (cv c) 65)).alloc (.cells (sv g) 41)).alloc (.cells (sv s) 41)).alloc (.cells z8 41)).drew.heap.size ((((w.alloc (.cells (cv c) 65)).alloc (.cells (sv g) 41)).alloc (.cells (sv s) 41)).alloc (.cells z8 41)).drew W → W.heap[w.heap.size + 1 + 1 + 1]? = some (.cells z8 41)) := fun W hB => (hB.block _ (by rw [HZ.out]; omega)).trans hR.out
  have HW : Hid (∀ W, SapK w.heap.size c g s W → SapK w.heap.size c g s (W.setRow (w.heap.size + 1 + 1 + 1) (sv (coAp c s).1))) := fun W h => ⟨K4.row h.1 _ (by omega), K8.row h.2.1 _ (by omega), K8.row h.2.2 _ (by omega)⟩
  have HB0 : Hid (Below w.heap.size w ((((w.alloc (.cells (cv c) 65)).alloc (.cells (sv g) 41)).alloc (.cells (sv s) 41)).alloc (.cells z8 41)).drew) := by repeat first | exact Below.refl _ _ | refine belowD ?_ | refine belowN ?_ _ | refine bA ?_ (by first | exact Nat.le_refl _ | (simp only [World.size_alloc]; omega)) _
  have HBZ : Hid (w.heap.size ≤ ((((w.alloc (.cells (cv c) 65)).alloc (.cells (sv g) 41)).alloc (.cells (sv s) 41)).alloc (.cells z8 41)).drew.heap.size) := HB0.out.size
  clear hz
  go_enter Tryd.func25, Tryd.ntmps25
  go_wp2_with (fail)
  go_region_held3 (SapK w.heap.size c g s) ((first | with_reducible exact hS.out | with_reducible exact HK.out _ hw2.out | (rw [sets8 (HQ.out _ hw2.out) rfl]; exact HW.out _ (HK.out _ hw2.out)))) ((first | (go_at_call 32; refine (HP.out _ (by repeat first | exact Below.refl _ _ | refine belowD ?_ | refine belowN ?_ _ | refine bA ?_ (by first | exact Nat.le_refl _ | (simp only [World.size_alloc]; omega)) _)).mono ?_; rintro e1 w1 ⟨rfl, hw1⟩; subst w1) | (go_at_call 84; refine (HS.out _).mono ?_; rintro e2 w2 ⟨rfl, hw2'⟩; have hw2 := hide hw2'; clear hw2'; have hk2 := k8 (c := fun _ => 0) (HQ.out _ hw2.out); have hf2 := f8 (HQ.out _ hw2.out))))
  all_goals go_wp2
  all_goals rw [sets8 (HQ.out _ hw2.out) rfl]
  all_goals (refine bodyPost_ret (v := .tuple #[.agg (sv (coAp c s).1), .bool (coAp c s).2, .int .i64 0]) ?_ rfl ⟨rfl, below_setRow (HB0.out.trans (hw2.out.mono HBZ.out)) (by omega) _⟩)
  all_goals simp only [results, Tryd.results25, asAddr]
  all_goals simp [run_loadVar_row _ _ 41 41 _ (0, 0) _ (setRow_heap _ _ _ ((sv (coAp c s).1)) 41 (0, 0) (HQ.out _ hw2.out)) Tryd.underlying41 rfl size35]
abbrev SfoK (q : Nat) (c g s : Nat → Int) (w : World) : Prop := K4 q c w ∧ K8 (q + 1) g w ∧ K8 (q + 1 + 1) s w
set_option maxHeartbeats 4000000 in
theorem fold_K  (fb : Nat) (c g : Nat → Int) (v : Nat) (s : Nat → Int)  (w : World) (hF : FK  fb w) : Calls Tryd.prog 33 #[.pointer (some ⟨fb, 0, none⟩), .agg (cv c), .agg (sv g), .int .u32 (v : Int), .agg (sv s)] w fun e w' => e = .returned (.tuple #[.agg (sv (coFo g s)), .int .i64 0]) ∧ Below w.heap.size w w' := by
  have HP : Hid (∀ W, Below w.heap.size w W → Calls Tryd.prog 32 #[.pointer (some ⟨fb, 0, none⟩)] W fun e w' => e = .returned (.iface 90 (.agg #[])) ∧ w' = W) := fun W h => prog_K  fb W (hF.on h)
  have HS := hide (cfold g s)
  clear hF
  have hz : ((((w.alloc (.cells (cv c) 65)).alloc (.cells (sv g) 41)).alloc (.cells (sv s) 41)).alloc (.cells z8 41)).drew.heap.size = w.heap.size + 1 + 1 + 1 + 1 := by simp only [World.size_drew, World.size_alloc]
  have HZ := hide hz
  have hR : Hid (((((w.alloc (.cells (cv c) 65)).alloc (.cells (sv g) 41)).alloc (.cells (sv s) 41)).alloc (.cells z8 41)).drew.heap[w.heap.size + 1 + 1 + 1]? = some (.cells z8 41)) := by
    have h1 := at0 (((w.alloc (.cells (cv c) 65)).alloc (.cells (sv g) 41)).alloc (.cells (sv s) 41)) (.cells z8 41)
    simp only [World.size_alloc] at h1; exact h1
  have hS : Hid (SfoK w.heap.size c g s ((((w.alloc (.cells (cv c) 65)).alloc (.cells (sv g) 41)).alloc (.cells (sv s) 41)).alloc (.cells z8 41)).drew) := by
    refine ⟨?_, ?_, ?_⟩
    · have h1 := keep (.cells z8 41) (keep (.cells (sv s) 41) (keep (.cells (sv g) 41) (at0 w (.cells (cv c) 65))))
      exact k4 (t := 65) h1
    · have h1 := keep (.cells z8 41) (keep (.cells (sv s) 41) (at0 (w.alloc (.cells (cv c) 65)) (.cells (sv g) 41)))
      simp only [World.size_alloc] at h1; exact k8 (t := 41) h1
    · have h1 := keep (.cells z8 41) (at0 ((w.alloc (.cells (cv c) 65)).alloc (.cells (sv g) 41)) (.cells (sv s) 41))
      simp only [World.size_alloc] at h1; exact k8 (t := 41) h1
  have HK : Hid (∀ W, Below ((((w.alloc (.cells (cv c) 65)).alloc (.cells (sv g) 41)).alloc (.cells (sv s) 41)).alloc (.cells z8 41)).drew.heap.size ((((w.alloc (.cells (cv c) 65)).alloc (.cells (sv g) 41)).alloc (.cells (sv s) 41)).alloc (.cells z8 41)).drew W → SfoK w.heap.size c g s W) := fun W hB => ⟨K4.on hS.out.1 hB (by rw [HZ.out]; omega), K8.on hS.out.2.1 hB (by rw [HZ.out]; omega), K8.on hS.out.2.2 hB (by rw [HZ.out]; omega)⟩
  have HQ : Hid (∀ W, Below ((((w.alloc (.cells (cv c) 65)).alloc (.cells (sv g) 41)).alloc (.cells (sv s) 41)).alloc (.cells z8 41)).drew.heap.size ((((w.alloc (.cells (cv c) 65)).alloc (.cells (sv g) 41)).alloc (.cells (sv s) 41)).alloc (.cells z8 41)).drew W → W.heap[w.heap.size + 1 + 1 + 1]? = some (.cells z8 41)) := fun W hB => (hB.block _ (by rw [HZ.out]; omega)).trans hR.out
  have HW : Hid (∀ W, SfoK w.heap.size c g s W → SfoK w.heap.size c g s (W.setRow (w.heap.size + 1 + 1 + 1) (sv (coFo g s)))) := fun W h => ⟨K4.row h.1 _ (by omega), K8.row h.2.1 _ (by omega), K8.row h.2.2 _ (by omega)⟩
  have HB0 : Hid (Below w.heap.size w ((((w.alloc (.cells (cv c) 65)).alloc (.cells (sv g) 41)).alloc (.cells (sv s) 41)).alloc (.cells z8 41)).drew) := by repeat first | exact Below.refl _ _ | refine belowD ?_ | refine belowN ?_ _ | refine bA ?_ (by first | exact Nat.le_refl _ | (simp only [World.size_alloc]; omega)) _
  have HBZ : Hid (w.heap.size ≤ ((((w.alloc (.cells (cv c) 65)).alloc (.cells (sv g) 41)).alloc (.cells (sv s) 41)).alloc (.cells z8 41)).drew.heap.size) := HB0.out.size
  clear hz
  go_enter Tryd.func33, Tryd.ntmps33
  go_wp2_with (fail)
  go_region_held3 (SfoK w.heap.size c g s) ((first | with_reducible exact hS.out | with_reducible exact HK.out _ hw2.out | (rw [sets8 (HQ.out _ hw2.out) rfl]; exact HW.out _ (HK.out _ hw2.out)))) ((first | (go_at_call 32; refine (HP.out _ (by repeat first | exact Below.refl _ _ | refine belowD ?_ | refine belowN ?_ _ | refine bA ?_ (by first | exact Nat.le_refl _ | (simp only [World.size_alloc]; omega)) _)).mono ?_; rintro e1 w1 ⟨rfl, hw1⟩; subst w1) | (go_at_call 86; refine (HS.out _).mono ?_; rintro e2 w2 ⟨rfl, hw2'⟩; have hw2 := hide hw2'; clear hw2'; have hk2 := k8 (c := fun _ => 0) (HQ.out _ hw2.out); have hf2 := f8 (HQ.out _ hw2.out))))
  all_goals go_wp2
  all_goals rw [sets8 (HQ.out _ hw2.out) rfl]
  all_goals (refine bodyPost_ret (v := .tuple #[.agg (sv (coFo g s)), .int .i64 0]) ?_ rfl ⟨rfl, below_setRow (HB0.out.trans (hw2.out.mono HBZ.out)) (by omega) _⟩)
  all_goals simp only [results, Tryd.results33, asAddr]
  all_goals simp [run_loadVar_row _ _ 41 41 _ (0, 0) _ (setRow_heap _ _ _ ((sv (coFo g s))) 41 (0, 0) (HQ.out _ hw2.out)) Tryd.underlying41 rfl size35]
abbrev StuK (q : Nat) (c g : Nat → Int) (w : World) : Prop := K4 q c w ∧ K8 (q + 1) g w
set_option maxHeartbeats 4000000 in
theorem turn_K  (fb : Nat) (c g : Nat → Int) (ch r : Int)  (w : World) (hF : FK  fb w) : Calls Tryd.prog 26 #[.pointer (some ⟨fb, 0, none⟩), .agg (cv c), .agg (sv g), .int .u64 ch, .int .i64 r] w fun e w' => e = .returned (.tuple #[.agg (cv (coTu c g).1), .bool (coTu c g).2, .int .i64 0]) ∧ Below w.heap.size w w' := by
  have HP : Hid (∀ W, Below w.heap.size w W → Calls Tryd.prog 32 #[.pointer (some ⟨fb, 0, none⟩)] W fun e w' => e = .returned (.iface 90 (.agg #[])) ∧ w' = W) := fun W h => prog_K  fb W (hF.on h)
  have HS := hide (cturn c g)
  clear hF
  have hz : (((w.alloc (.cells (cv c) 65)).alloc (.cells (sv g) 41)).alloc (.cells z4 65)).drew.heap.size = w.heap.size + 1 + 1 + 1 := by simp only [World.size_drew, World.size_alloc]
  have HZ := hide hz
  have hR : Hid ((((w.alloc (.cells (cv c) 65)).alloc (.cells (sv g) 41)).alloc (.cells z4 65)).drew.heap[w.heap.size + 1 + 1]? = some (.cells z4 65)) := by
    have h1 := at0 ((w.alloc (.cells (cv c) 65)).alloc (.cells (sv g) 41)) (.cells z4 65)
    simp only [World.size_alloc] at h1; exact h1
  have hS : Hid (StuK w.heap.size c g (((w.alloc (.cells (cv c) 65)).alloc (.cells (sv g) 41)).alloc (.cells z4 65)).drew) := by
    refine ⟨?_, ?_⟩
    · have h1 := keep (.cells z4 65) (keep (.cells (sv g) 41) (at0 w (.cells (cv c) 65)))
      exact k4 (t := 65) h1
    · have h1 := keep (.cells z4 65) (at0 (w.alloc (.cells (cv c) 65)) (.cells (sv g) 41))
      simp only [World.size_alloc] at h1; exact k8 (t := 41) h1
  have HK : Hid (∀ W, Below (((w.alloc (.cells (cv c) 65)).alloc (.cells (sv g) 41)).alloc (.cells z4 65)).drew.heap.size (((w.alloc (.cells (cv c) 65)).alloc (.cells (sv g) 41)).alloc (.cells z4 65)).drew W → StuK w.heap.size c g W) := fun W hB => ⟨K4.on hS.out.1 hB (by rw [HZ.out]; omega), K8.on hS.out.2 hB (by rw [HZ.out]; omega)⟩
  have HQ : Hid (∀ W, Below (((w.alloc (.cells (cv c) 65)).alloc (.cells (sv g) 41)).alloc (.cells z4 65)).drew.heap.size (((w.alloc (.cells (cv c) 65)).alloc (.cells (sv g) 41)).alloc (.cells z4 65)).drew W → W.heap[w.heap.size + 1 + 1]? = some (.cells z4 65)) := fun W hB => (hB.block _ (by rw [HZ.out]; omega)).trans hR.out
  have HW : Hid (∀ W, StuK w.heap.size c g W → StuK w.heap.size c g (W.setRow (w.heap.size + 1 + 1) (cv (coTu c g).1))) := fun W h => ⟨K4.row h.1 _ (by omega), K8.row h.2 _ (by omega)⟩
  have HB0 : Hid (Below w.heap.size w (((w.alloc (.cells (cv c) 65)).alloc (.cells (sv g) 41)).alloc (.cells z4 65)).drew) := by repeat first | exact Below.refl _ _ | refine belowD ?_ | refine belowN ?_ _ | refine bA ?_ (by first | exact Nat.le_refl _ | (simp only [World.size_alloc]; omega)) _
  have HBZ : Hid (w.heap.size ≤ (((w.alloc (.cells (cv c) 65)).alloc (.cells (sv g) 41)).alloc (.cells z4 65)).drew.heap.size) := HB0.out.size
  clear hz
  go_enter Tryd.func26, Tryd.ntmps26
  go_wp2_with (fail)
  go_region_held3 (StuK w.heap.size c g) ((first | with_reducible exact hS.out | with_reducible exact HK.out _ hw2.out | (rw [sets4 (HQ.out _ hw2.out) rfl]; exact HW.out _ (HK.out _ hw2.out)))) ((first | (go_at_call 32; refine (HP.out _ (by repeat first | exact Below.refl _ _ | refine belowD ?_ | refine belowN ?_ _ | refine bA ?_ (by first | exact Nat.le_refl _ | (simp only [World.size_alloc]; omega)) _)).mono ?_; rintro e1 w1 ⟨rfl, hw1⟩; subst w1) | (go_at_call 90; refine (HS.out _).mono ?_; rintro e2 w2 ⟨rfl, hw2'⟩; have hw2 := hide hw2'; clear hw2'; have hk2 := k4 (c := fun _ => 0) (HQ.out _ hw2.out); have hf2 := f4 (HQ.out _ hw2.out))))
  all_goals go_wp2
  all_goals rw [sets4 (HQ.out _ hw2.out) rfl]
  all_goals (refine bodyPost_ret (v := .tuple #[.agg (cv (coTu c g).1), .bool (coTu c g).2, .int .i64 0]) ?_ rfl ⟨rfl, below_setRow (HB0.out.trans (hw2.out.mono HBZ.out)) (by omega) _⟩)
  all_goals simp only [results, Tryd.results26, asAddr]
  all_goals simp [run_loadVar_row _ _ 65 65 _ (0, 0) _ (setRow_heap _ _ _ ((cv (coTu c g).1)) 65 (0, 0) (HQ.out _ hw2.out)) Tryd.underlying65 rfl size37]
end Wp
end Go.Proofs.YtipnlcnikpngcaaDoor
