import Derived.Test.YtlhpnhjfibkgpaaWpC
namespace Go.Proofs.Ytlhpnhjfibkgpaa
namespace Wp
open Go.RowKit
set_option linter.unusedVariables false
set_option maxRecDepth 8000
/-- A Flow whose program it is. -/
def FL (n : Int) (fb : Nat) (w : World) : Prop := fb < w.heap.size ∧ w.heap[fb]? = some (.cells #[.iface 75 (.agg #[.int .u32 n])] 79 (0, 0))
theorem FL.on {n : Int} {fb : Nat} {w w' : World} (h : FL n fb w) (hb : Below w.heap.size w w') : FL n fb w' := ⟨Nat.lt_of_lt_of_le h.1 hb.size, (hb.block _ h.1).trans h.2⟩
theorem pL (x : Addr) (W : World) : (binOp .eql 28 (.pointer (some x)) (.pointer none)).run Try.prog W = .ok (.bool false) W := rfl
theorem iL (n : Int) (W : World) : (binOp .eql 77 (.iface 75 (.agg #[.int .u32 n])) .nilIface).run Try.prog W = .ok (.bool false) W := rfl
set_option maxHeartbeats 1000000 in
theorem prog_L (n : Int) (fb : Nat) (w : World) (hF : FL n fb w) : Calls Try.prog 34 #[.pointer (some ⟨fb, 0, none⟩)] w fun e w' => e = .returned (.iface 75 (.agg #[.int .u32 n])) ∧ w' = w := by
  have hp := pL
  have hi := iL n
  have hc : w.cell? ⟨fb, 0, none⟩ = some (.iface 75 (.agg #[.int .u32 n])) := (cell_of_row w fb _ _ 79 (0, 0) hF.2).trans rfl
  clear hF
  go_enter Try.func34, Try.ntmps34
  go_wp2
  all_goals go_ret
  all_goals exact ⟨rfl, rfl⟩
set_option maxHeartbeats 1000000 in
theorem words_L (n : Int) (fb : Nat) (w : World) (hF : FL n fb w) : Calls Try.prog 39 #[.pointer (some ⟨fb, 0, none⟩)] w fun e w' => e = .returned (.int .i64 3) ∧ Below w.heap.size w w' := by
  have HP := hide (prog_L n fb)
  have HF := hide hF
  clear hF
  go_enter Try.func39, Try.ntmps39
  go_wp2_with (fail)
  refine (HP.out _ HF.out).mono ?_
  rintro e1 w1 ⟨rfl, rfl⟩
  go_wp2_with (fail)
  refine (words_lab n _).mono ?_
  rintro e2 w2 ⟨rfl, hw2⟩
  try subst w2
  go_wp2
  go_ret
  exact ⟨rfl, by first | exact hw2 | (repeat first | exact Below.refl _ _ | refine belowD ?_ | refine belowN ?_ _ | refine bA ?_ (by first | exact Nat.le_refl _ | (simp only [World.size_alloc]; omega)) _)⟩
set_option maxHeartbeats 1000000 in
theorem both_L (n : Int) (fb : Nat) (w : World) (hF : FL n fb w) : Calls Try.prog 16 #[.pointer (some ⟨fb, 0, none⟩)] w fun e w' => e = .returned (.bool true) ∧ Below w.heap.size w w' := by
  have HP := hide (prog_L n fb)
  have HF := hide hF
  clear hF
  go_enter Try.func16, Try.ntmps16
  go_wp2_with (fail)
  refine (HP.out _ HF.out).mono ?_
  rintro e1 w1 ⟨rfl, rfl⟩
  go_wp2_with (fail)
  refine (both_lab n _).mono ?_
  rintro e2 w2 ⟨rfl, hw2⟩
  try subst w2
  go_wp2
  go_ret
  exact ⟨rfl, by first | exact hw2 | (repeat first | exact Below.refl _ _ | refine belowD ?_ | refine belowN ?_ _ | refine bA ?_ (by first | exact Nat.le_refl _ | (simp only [World.size_alloc]; omega)) _)⟩
set_option maxHeartbeats 1000000 in
theorem sink_L (n : Int) (fb : Nat) (w : World) (hF : FL n fb w) : Calls Try.prog 40 #[.pointer (some ⟨fb, 0, none⟩)] w fun e w' => e = .returned (.agg (kv 2 1)) ∧ Below w.heap.size w w' := by
  have HP := hide (prog_L n fb)
  have HF : Hid (FL n fb (w.alloc (.cells (kv 0 0) 101))) := hF.on (by repeat first | exact Below.refl _ _ | refine belowD ?_ | refine belowN ?_ _ | refine bA ?_ (by first | exact Nat.le_refl _ | (simp only [World.size_alloc]; omega)) _)
  have hR : Hid ((w.alloc (.cells (kv 0 0) 101)).heap[w.heap.size]? = some (.cells (kv 0 0) 101)) := at0 _ _
  have hB : Hid (Below w.heap.size w (w.alloc (.cells (kv 0 0) 101))) := (by repeat first | exact Below.refl _ _ | refine belowD ?_ | refine belowN ?_ _ | refine bA ?_ (by first | exact Nat.le_refl _ | (simp only [World.size_alloc]; omega)) _)
  clear hF
  go_enter Try.func40, Try.ntmps40
  go_wp2_with (fail)
  refine (HP.out _ HF.out).mono ?_
  rintro e1 w1 ⟨rfl, rfl⟩
  go_wp2_with (fail)
  refine (sink_lab n _).mono ?_
  rintro e2 w2 ⟨rfl, hw2'⟩
  have hw2 := hide hw2'
  clear hw2'
  have HQ : Hid (w2.heap[w.heap.size]? = some (.cells (kv 0 0) 101)) := (hw2.out.block _ (by simp)).trans hR.out
  have hk2 := k4i (HQ.out)
  have hf2 := f4 HQ.out
  go_wp2
  rw [sets4 HQ.out rfl]
  refine bodyPost_ret (v := .agg (kv 2 1)) ?_ rfl ⟨rfl, below_setRow (hB.out.trans (hw2.out.mono (by simp))) (by omega) _⟩
  simp only [results, Try.results40, asAddr]
  simp [run_loadVar_row _ _ 101 101 _ (0, 0) _ (setRow_heap _ _ _ (kv 2 1) 101 (0, 0) HQ.out) Try.underlying101 rfl size101]
abbrev SstL (q : Nat) (a b : Int) (w : World) : Prop := K2 q a b w
set_option maxHeartbeats 4000000 in
theorem start_L (n : Int) (fb : Nat) (v a b : Int) (h0 : 0 ≤ v) (h1 : v < 4294967296) (w : World) (hF : FL n fb w) : Calls Try.prog 42 #[.pointer (some ⟨fb, 0, none⟩), .int .u32 v, .agg #[.int .u64 a, .int .u64 b]] w fun e w' => e = .returned (.tuple #[.agg (sv (labStart v)), .int .i64 0]) ∧ Below w.heap.size w w' := by
  have HP : Hid (∀ W, Below w.heap.size w W → Calls Try.prog 34 #[.pointer (some ⟨fb, 0, none⟩)] W fun e w' => e = .returned (.iface 75 (.agg #[.int .u32 n])) ∧ w' = W) := fun W h => prog_L n fb W (hF.on h)
  have HS := hide (start_lab n v a b h0 h1)
  clear hF
  have hz : ((w.alloc (.cells #[.int .u64 a, .int .u64 b] 108)).alloc (.cells z8 35)).drew.heap.size = w.heap.size + 1 + 1 := by simp only [World.size_drew, World.size_alloc]
  have HZ := hide hz
  have hR : Hid (((w.alloc (.cells #[.int .u64 a, .int .u64 b] 108)).alloc (.cells z8 35)).drew.heap[w.heap.size + 1]? = some (.cells z8 35)) := by
    have h1 := at0 (w.alloc (.cells #[.int .u64 a, .int .u64 b] 108)) (.cells z8 35)
    simp only [World.size_alloc] at h1; exact h1
  have hS : Hid (SstL w.heap.size a b ((w.alloc (.cells #[.int .u64 a, .int .u64 b] 108)).alloc (.cells z8 35)).drew) := by
    have h1 := keep (.cells z8 35) (at0 w (.cells #[.int .u64 a, .int .u64 b] 108))
    exact k2 (t := 108) h1
  have HK : Hid (∀ W, Below ((w.alloc (.cells #[.int .u64 a, .int .u64 b] 108)).alloc (.cells z8 35)).drew.heap.size ((w.alloc (.cells #[.int .u64 a, .int .u64 b] 108)).alloc (.cells z8 35)).drew W → SstL w.heap.size a b W) := fun W hB => K2.on hS.out hB (by rw [HZ.out]; omega)
  have HQ : Hid (∀ W, Below ((w.alloc (.cells #[.int .u64 a, .int .u64 b] 108)).alloc (.cells z8 35)).drew.heap.size ((w.alloc (.cells #[.int .u64 a, .int .u64 b] 108)).alloc (.cells z8 35)).drew W → W.heap[w.heap.size + 1]? = some (.cells z8 35)) := fun W hB => (hB.block _ (by rw [HZ.out]; omega)).trans hR.out
  have HW : Hid (∀ W, SstL w.heap.size a b W → SstL w.heap.size a b (W.setRow (w.heap.size + 1) (sv (labStart v)))) := fun W h => K2.row h _ (by omega)
  have HB0 : Hid (Below w.heap.size w ((w.alloc (.cells #[.int .u64 a, .int .u64 b] 108)).alloc (.cells z8 35)).drew) := by repeat first | exact Below.refl _ _ | refine belowD ?_ | refine belowN ?_ _ | refine bA ?_ (by first | exact Nat.le_refl _ | (simp only [World.size_alloc]; omega)) _
  have HBZ : Hid (w.heap.size ≤ ((w.alloc (.cells #[.int .u64 a, .int .u64 b] 108)).alloc (.cells z8 35)).drew.heap.size) := HB0.out.size
  clear hz
  go_enter Try.func42, Try.ntmps42
  go_wp2_with (fail)
  go_region_held3 (SstL w.heap.size a b) ((first | with_reducible exact hS.out | with_reducible exact HK.out _ hw2.out | (rw [sets8 (HQ.out _ hw2.out) rfl]; exact HW.out _ (HK.out _ hw2.out)))) ((first | (go_at_call 34; refine (HP.out _ (by repeat first | exact Below.refl _ _ | refine belowD ?_ | refine belowN ?_ _ | refine bA ?_ (by first | exact Nat.le_refl _ | (simp only [World.size_alloc]; omega)) _)).mono ?_; rintro e1 w1 ⟨rfl, hw1⟩; subst w1) | (go_at_call 88; refine (HS.out _).mono ?_; rintro e2 w2 ⟨rfl, hw2'⟩; have hw2 := hide hw2'; clear hw2'; have hk2 := k8 (c := fun _ => 0) (HQ.out _ hw2.out); have hf2 := f8 (HQ.out _ hw2.out))))
  all_goals go_wp2
  all_goals rw [sets8 (HQ.out _ hw2.out) rfl]
  all_goals (refine bodyPost_ret (v := .tuple #[.agg (sv (labStart v)), .int .i64 0]) ?_ rfl ⟨rfl, below_setRow (HB0.out.trans (hw2.out.mono HBZ.out)) (by omega) _⟩)
  all_goals simp only [results, Try.results42, asAddr]
  all_goals simp [run_loadVar_row _ _ 35 35 _ (0, 0) _ (setRow_heap _ _ _ ((sv (labStart v))) 35 (0, 0) (HQ.out _ hw2.out)) Try.underlying35 rfl size35]
abbrev SscL (q : Nat) (c s : Nat → Int) (x y z : Int) (w : World) : Prop := K4 q c w ∧ K8 (q + 1) s w ∧ K3 (q + 1 + 1) x y z w
set_option maxHeartbeats 4000000 in
theorem scatter_L (n : Int) (fb : Nat) (c s : Nat → Int) (x y z : Int) (k : Bool)  (w : World) (hF : FL n fb w) : Calls Try.prog 45 #[.pointer (some ⟨fb, 0, none⟩), .agg (cv c), .agg (sv s), .agg (ev x y z), .bool k] w fun e w' => e = .returned (.tuple #[.int .u64 (labSc c s).1, .int .u64 0, .bool (labSc c s).2, .int .i64 0]) ∧ Below w.heap.size w w' := by
  have HP : Hid (∀ W, Below w.heap.size w W → Calls Try.prog 34 #[.pointer (some ⟨fb, 0, none⟩)] W fun e w' => e = .returned (.iface 75 (.agg #[.int .u32 n])) ∧ w' = W) := fun W h => prog_L n fb W (hF.on h)
  have HS := hide (scatter_lab n c s x y z k)
  clear hF
  have hz : (((w.alloc (.cells (cv c) 37)).alloc (.cells (sv s) 35)).alloc (.cells (ev x y z) 45)).drew.heap.size = w.heap.size + 1 + 1 + 1 := by simp only [World.size_drew, World.size_alloc]
  have HZ := hide hz
  have hS : Hid (SscL w.heap.size c s x y z (((w.alloc (.cells (cv c) 37)).alloc (.cells (sv s) 35)).alloc (.cells (ev x y z) 45)).drew) := by
    refine ⟨?_, ?_, ?_⟩
    · have h1 := keep (.cells (ev x y z) 45) (keep (.cells (sv s) 35) (at0 w (.cells (cv c) 37)))
      exact k4 (t := 37) h1
    · have h1 := keep (.cells (ev x y z) 45) (at0 (w.alloc (.cells (cv c) 37)) (.cells (sv s) 35))
      simp only [World.size_alloc] at h1; exact k8 (t := 35) h1
    · have h1 := at0 ((w.alloc (.cells (cv c) 37)).alloc (.cells (sv s) 35)) (.cells (ev x y z) 45)
      simp only [World.size_alloc] at h1; exact k3 (t := 45) h1
  have HK : Hid (∀ W, Below (((w.alloc (.cells (cv c) 37)).alloc (.cells (sv s) 35)).alloc (.cells (ev x y z) 45)).drew.heap.size (((w.alloc (.cells (cv c) 37)).alloc (.cells (sv s) 35)).alloc (.cells (ev x y z) 45)).drew W → SscL w.heap.size c s x y z W) := fun W hB => ⟨K4.on hS.out.1 hB (by rw [HZ.out]; omega), K8.on hS.out.2.1 hB (by rw [HZ.out]; omega), K3.on hS.out.2.2 hB (by rw [HZ.out]; omega)⟩
  have HB0 : Hid (Below w.heap.size w (((w.alloc (.cells (cv c) 37)).alloc (.cells (sv s) 35)).alloc (.cells (ev x y z) 45)).drew) := by repeat first | exact Below.refl _ _ | refine belowD ?_ | refine belowN ?_ _ | refine bA ?_ (by first | exact Nat.le_refl _ | (simp only [World.size_alloc]; omega)) _
  have HBZ : Hid (w.heap.size ≤ (((w.alloc (.cells (cv c) 37)).alloc (.cells (sv s) 35)).alloc (.cells (ev x y z) 45)).drew.heap.size) := HB0.out.size
  clear hz
  go_enter Try.func45, Try.ntmps45
  go_wp2_with (fail)
  go_region_held3 (SscL w.heap.size c s x y z) ((first | with_reducible exact hS.out | with_reducible exact HK.out _ hw2.out)) ((first | (go_at_call 34; refine (HP.out _ (by repeat first | exact Below.refl _ _ | refine belowD ?_ | refine belowN ?_ _ | refine bA ?_ (by first | exact Nat.le_refl _ | (simp only [World.size_alloc]; omega)) _)).mono ?_; rintro e1 w1 ⟨rfl, hw1⟩; subst w1) | (go_at_call 86; refine (HS.out _).mono ?_; rintro e2 w2 ⟨rfl, hw2'⟩; have hw2 := hide hw2'; clear hw2')))
  all_goals go_wp2
  all_goals refine bodyPost_ret (results_tmp4 rfl _ _ _) rfl ?_
  all_goals exact ⟨rfl, HB0.out.trans (hw2.out.mono HBZ.out)⟩
abbrev SapL (q : Nat) (c g s : Nat → Int) (w : World) : Prop := K4 q c w ∧ K8 (q + 1) g w ∧ K8 (q + 1 + 1) s w
set_option maxHeartbeats 4000000 in
theorem apply_L (n : Int) (fb : Nat) (c g : Nat → Int) (v : Int) (s : Nat → Int) (h0 : 0 ≤ c 0) (h1 : c 0 ≤ 1000000) (w : World) (hF : FL n fb w) : Calls Try.prog 47 #[.pointer (some ⟨fb, 0, none⟩), .agg (cv c), .agg (sv g), .int .u32 v, .agg (sv s)] w fun e w' => e = .returned (.tuple #[.agg (sv (labAp c s).1), .bool (labAp c s).2, .int .i64 0]) ∧ Below w.heap.size w w' := by
  have HP : Hid (∀ W, Below w.heap.size w W → Calls Try.prog 34 #[.pointer (some ⟨fb, 0, none⟩)] W fun e w' => e = .returned (.iface 75 (.agg #[.int .u32 n])) ∧ w' = W) := fun W h => prog_L n fb W (hF.on h)
  have HS := hide (apply_lab n c g v s h0 h1)
  clear hF
  have hz : ((((w.alloc (.cells (cv c) 37)).alloc (.cells (sv g) 35)).alloc (.cells (sv s) 35)).alloc (.cells z8 35)).drew.heap.size = w.heap.size + 1 + 1 + 1 + 1 := by simp only [World.size_drew, World.size_alloc]
  have HZ := hide hz
  have hR : Hid (((((w.alloc (.cells (cv c) 37)).alloc (.cells (sv g) 35)).alloc (.cells (sv s) 35)).alloc (.cells z8 35)).drew.heap[w.heap.size + 1 + 1 + 1]? = some (.cells z8 35)) := by
    have h1 := at0 (((w.alloc (.cells (cv c) 37)).alloc (.cells (sv g) 35)).alloc (.cells (sv s) 35)) (.cells z8 35)
    simp only [World.size_alloc] at h1; exact h1
  have hS : Hid (SapL w.heap.size c g s ((((w.alloc (.cells (cv c) 37)).alloc (.cells (sv g) 35)).alloc (.cells (sv s) 35)).alloc (.cells z8 35)).drew) := by
    refine ⟨?_, ?_, ?_⟩
    · have h1 := keep (.cells z8 35) (keep (.cells (sv s) 35) (keep (.cells (sv g) 35) (at0 w (.cells (cv c) 37))))
      exact k4 (t := 37) h1
    · have h1 := keep (.cells z8 35) (keep (.cells (sv s) 35) (at0 (w.alloc (.cells (cv c) 37)) (.cells (sv g) 35)))
      simp only [World.size_alloc] at h1; exact k8 (t := 35) h1
    · have h1 := keep (.cells z8 35) (at0 ((w.alloc (.cells (cv c) 37)).alloc (.cells (sv g) 35)) (.cells (sv s) 35))
      simp only [World.size_alloc] at h1; exact k8 (t := 35) h1
  have HK : Hid (∀ W, Below ((((w.alloc (.cells (cv c) 37)).alloc (.cells (sv g) 35)).alloc (.cells (sv s) 35)).alloc (.cells z8 35)).drew.heap.size ((((w.alloc (.cells (cv c) 37)).alloc (.cells (sv g) 35)).alloc (.cells (sv s) 35)).alloc (.cells z8 35)).drew W → SapL w.heap.size c g s W) := fun W hB => ⟨K4.on hS.out.1 hB (by rw [HZ.out]; omega), K8.on hS.out.2.1 hB (by rw [HZ.out]; omega), K8.on hS.out.2.2 hB (by rw [HZ.out]; omega)⟩
  have HQ : Hid (∀ W, Below ((((w.alloc (.cells (cv c) 37)).alloc (.cells (sv g) 35)).alloc (.cells (sv s) 35)).alloc (.cells z8 35)).drew.heap.size ((((w.alloc (.cells (cv c) 37)).alloc (.cells (sv g) 35)).alloc (.cells (sv s) 35)).alloc (.cells z8 35)).drew W → W.heap[w.heap.size + 1 + 1 + 1]? = some (.cells z8 35)) := fun W hB => (hB.block _ (by rw [HZ.out]; omega)).trans hR.out
  have HW : Hid (∀ W, SapL w.heap.size c g s W → SapL w.heap.size c g s (W.setRow (w.heap.size + 1 + 1 + 1) (sv (labAp c s).1))) := fun W h => ⟨K4.row h.1 _ (by omega), K8.row h.2.1 _ (by omega), K8.row h.2.2 _ (by omega)⟩
  have HB0 : Hid (Below w.heap.size w ((((w.alloc (.cells (cv c) 37)).alloc (.cells (sv g) 35)).alloc (.cells (sv s) 35)).alloc (.cells z8 35)).drew) := by repeat first | exact Below.refl _ _ | refine belowD ?_ | refine belowN ?_ _ | refine bA ?_ (by first | exact Nat.le_refl _ | (simp only [World.size_alloc]; omega)) _
  have HBZ : Hid (w.heap.size ≤ ((((w.alloc (.cells (cv c) 37)).alloc (.cells (sv g) 35)).alloc (.cells (sv s) 35)).alloc (.cells z8 35)).drew.heap.size) := HB0.out.size
  clear hz
  go_enter Try.func47, Try.ntmps47
  go_wp2_with (fail)
  go_region_held3 (SapL w.heap.size c g s) ((first | with_reducible exact hS.out | with_reducible exact HK.out _ hw2.out | (rw [sets8 (HQ.out _ hw2.out) rfl]; exact HW.out _ (HK.out _ hw2.out)))) ((first | (go_at_call 34; refine (HP.out _ (by repeat first | exact Below.refl _ _ | refine belowD ?_ | refine belowN ?_ _ | refine bA ?_ (by first | exact Nat.le_refl _ | (simp only [World.size_alloc]; omega)) _)).mono ?_; rintro e1 w1 ⟨rfl, hw1⟩; subst w1) | (go_at_call 83; refine (HS.out _).mono ?_; rintro e2 w2 ⟨rfl, hw2'⟩; have hw2 := hide hw2'; clear hw2'; have hk2 := k8 (c := fun _ => 0) (HQ.out _ hw2.out); have hf2 := f8 (HQ.out _ hw2.out))))
  all_goals go_wp2
  all_goals rw [sets8 (HQ.out _ hw2.out) rfl]
  all_goals (refine bodyPost_ret (v := .tuple #[.agg (sv (labAp c s).1), .bool (labAp c s).2, .int .i64 0]) ?_ rfl ⟨rfl, below_setRow (HB0.out.trans (hw2.out.mono HBZ.out)) (by omega) _⟩)
  all_goals simp only [results, Try.results47, asAddr]
  all_goals simp [run_loadVar_row _ _ 35 35 _ (0, 0) _ (setRow_heap _ _ _ ((sv (labAp c s).1)) 35 (0, 0) (HQ.out _ hw2.out)) Try.underlying35 rfl size35]
abbrev SfoL (q : Nat) (c g s : Nat → Int) (w : World) : Prop := K4 q c w ∧ K8 (q + 1) g w ∧ K8 (q + 1 + 1) s w
set_option maxHeartbeats 4000000 in
theorem fold_L (n : Int) (fb : Nat) (c g : Nat → Int) (v : Int) (s : Nat → Int) (h0 : 0 ≤ v) (h1 : v < 4294967296) (g0 : 0 ≤ g 0) (g1 : g 0 ≤ 1000000) (w : World) (hF : FL n fb w) : Calls Try.prog 54 #[.pointer (some ⟨fb, 0, none⟩), .agg (cv c), .agg (sv g), .int .u32 v, .agg (sv s)] w fun e w' => e = .returned (.tuple #[.agg (sv (labFo g v s)), .int .i64 0]) ∧ Below w.heap.size w w' := by
  have HP : Hid (∀ W, Below w.heap.size w W → Calls Try.prog 34 #[.pointer (some ⟨fb, 0, none⟩)] W fun e w' => e = .returned (.iface 75 (.agg #[.int .u32 n])) ∧ w' = W) := fun W h => prog_L n fb W (hF.on h)
  have HS := hide (fold_lab n c g v s h0 h1 g0 g1)
  clear hF
  have hz : ((((w.alloc (.cells (cv c) 37)).alloc (.cells (sv g) 35)).alloc (.cells (sv s) 35)).alloc (.cells z8 35)).drew.heap.size = w.heap.size + 1 + 1 + 1 + 1 := by simp only [World.size_drew, World.size_alloc]
  have HZ := hide hz
  have hR : Hid (((((w.alloc (.cells (cv c) 37)).alloc (.cells (sv g) 35)).alloc (.cells (sv s) 35)).alloc (.cells z8 35)).drew.heap[w.heap.size + 1 + 1 + 1]? = some (.cells z8 35)) := by
    have h1 := at0 (((w.alloc (.cells (cv c) 37)).alloc (.cells (sv g) 35)).alloc (.cells (sv s) 35)) (.cells z8 35)
    simp only [World.size_alloc] at h1; exact h1
  have hS : Hid (SfoL w.heap.size c g s ((((w.alloc (.cells (cv c) 37)).alloc (.cells (sv g) 35)).alloc (.cells (sv s) 35)).alloc (.cells z8 35)).drew) := by
    refine ⟨?_, ?_, ?_⟩
    · have h1 := keep (.cells z8 35) (keep (.cells (sv s) 35) (keep (.cells (sv g) 35) (at0 w (.cells (cv c) 37))))
      exact k4 (t := 37) h1
    · have h1 := keep (.cells z8 35) (keep (.cells (sv s) 35) (at0 (w.alloc (.cells (cv c) 37)) (.cells (sv g) 35)))
      simp only [World.size_alloc] at h1; exact k8 (t := 35) h1
    · have h1 := keep (.cells z8 35) (at0 ((w.alloc (.cells (cv c) 37)).alloc (.cells (sv g) 35)) (.cells (sv s) 35))
      simp only [World.size_alloc] at h1; exact k8 (t := 35) h1
  have HK : Hid (∀ W, Below ((((w.alloc (.cells (cv c) 37)).alloc (.cells (sv g) 35)).alloc (.cells (sv s) 35)).alloc (.cells z8 35)).drew.heap.size ((((w.alloc (.cells (cv c) 37)).alloc (.cells (sv g) 35)).alloc (.cells (sv s) 35)).alloc (.cells z8 35)).drew W → SfoL w.heap.size c g s W) := fun W hB => ⟨K4.on hS.out.1 hB (by rw [HZ.out]; omega), K8.on hS.out.2.1 hB (by rw [HZ.out]; omega), K8.on hS.out.2.2 hB (by rw [HZ.out]; omega)⟩
  have HQ : Hid (∀ W, Below ((((w.alloc (.cells (cv c) 37)).alloc (.cells (sv g) 35)).alloc (.cells (sv s) 35)).alloc (.cells z8 35)).drew.heap.size ((((w.alloc (.cells (cv c) 37)).alloc (.cells (sv g) 35)).alloc (.cells (sv s) 35)).alloc (.cells z8 35)).drew W → W.heap[w.heap.size + 1 + 1 + 1]? = some (.cells z8 35)) := fun W hB => (hB.block _ (by rw [HZ.out]; omega)).trans hR.out
  have HW : Hid (∀ W, SfoL w.heap.size c g s W → SfoL w.heap.size c g s (W.setRow (w.heap.size + 1 + 1 + 1) (sv (labFo g v s)))) := fun W h => ⟨K4.row h.1 _ (by omega), K8.row h.2.1 _ (by omega), K8.row h.2.2 _ (by omega)⟩
  have HB0 : Hid (Below w.heap.size w ((((w.alloc (.cells (cv c) 37)).alloc (.cells (sv g) 35)).alloc (.cells (sv s) 35)).alloc (.cells z8 35)).drew) := by repeat first | exact Below.refl _ _ | refine belowD ?_ | refine belowN ?_ _ | refine bA ?_ (by first | exact Nat.le_refl _ | (simp only [World.size_alloc]; omega)) _
  have HBZ : Hid (w.heap.size ≤ ((((w.alloc (.cells (cv c) 37)).alloc (.cells (sv g) 35)).alloc (.cells (sv s) 35)).alloc (.cells z8 35)).drew.heap.size) := HB0.out.size
  clear hz
  go_enter Try.func54, Try.ntmps54
  go_wp2_with (fail)
  go_region_held3 (SfoL w.heap.size c g s) ((first | with_reducible exact hS.out | with_reducible exact HK.out _ hw2.out | (rw [sets8 (HQ.out _ hw2.out) rfl]; exact HW.out _ (HK.out _ hw2.out)))) ((first | (go_at_call 34; refine (HP.out _ (by repeat first | exact Below.refl _ _ | refine belowD ?_ | refine belowN ?_ _ | refine bA ?_ (by first | exact Nat.le_refl _ | (simp only [World.size_alloc]; omega)) _)).mono ?_; rintro e1 w1 ⟨rfl, hw1⟩; subst w1) | (go_at_call 85; refine (HS.out _).mono ?_; rintro e2 w2 ⟨rfl, hw2'⟩; have hw2 := hide hw2'; clear hw2'; have hk2 := k8 (c := fun _ => 0) (HQ.out _ hw2.out); have hf2 := f8 (HQ.out _ hw2.out))))
  all_goals go_wp2
  all_goals rw [sets8 (HQ.out _ hw2.out) rfl]
  all_goals (refine bodyPost_ret (v := .tuple #[.agg (sv (labFo g v s)), .int .i64 0]) ?_ rfl ⟨rfl, below_setRow (HB0.out.trans (hw2.out.mono HBZ.out)) (by omega) _⟩)
  all_goals simp only [results, Try.results54, asAddr]
  all_goals simp [run_loadVar_row _ _ 35 35 _ (0, 0) _ (setRow_heap _ _ _ ((sv (labFo g v s))) 35 (0, 0) (HQ.out _ hw2.out)) Try.underlying35 rfl size35]
abbrev StuL (q : Nat) (c g : Nat → Int) (w : World) : Prop := K4 q c w ∧ K8 (q + 1) g w
set_option maxHeartbeats 4000000 in
theorem turn_L (n : Int) (fb : Nat) (c g : Nat → Int) (ch r : Int) (h0 : 0 ≤ n) (h1 : n < 4294967296) (h2 : 0 ≤ r) (h3 : r ≤ 1000000) (w : World) (hF : FL n fb w) : Calls Try.prog 48 #[.pointer (some ⟨fb, 0, none⟩), .agg (cv c), .agg (sv g), .int .u64 ch, .int .i64 r] w fun e w' => e = .returned (.tuple #[.agg (cv (ctlN c r)), .bool (ch == 0 || decide (n ≤ c 0)), .int .i64 0]) ∧ Below w.heap.size w w' := by
  have HP : Hid (∀ W, Below w.heap.size w W → Calls Try.prog 34 #[.pointer (some ⟨fb, 0, none⟩)] W fun e w' => e = .returned (.iface 75 (.agg #[.int .u32 n])) ∧ w' = W) := fun W h => prog_L n fb W (hF.on h)
  have HS := hide (turn_pace n c g ch r h0 h1 h2 h3)
  clear hF
  have hz : (((w.alloc (.cells (cv c) 37)).alloc (.cells (sv g) 35)).alloc (.cells z4 37)).drew.heap.size = w.heap.size + 1 + 1 + 1 := by simp only [World.size_drew, World.size_alloc]
  have HZ := hide hz
  have hR : Hid ((((w.alloc (.cells (cv c) 37)).alloc (.cells (sv g) 35)).alloc (.cells z4 37)).drew.heap[w.heap.size + 1 + 1]? = some (.cells z4 37)) := by
    have h1 := at0 ((w.alloc (.cells (cv c) 37)).alloc (.cells (sv g) 35)) (.cells z4 37)
    simp only [World.size_alloc] at h1; exact h1
  have hS : Hid (StuL w.heap.size c g (((w.alloc (.cells (cv c) 37)).alloc (.cells (sv g) 35)).alloc (.cells z4 37)).drew) := by
    refine ⟨?_, ?_⟩
    · have h1 := keep (.cells z4 37) (keep (.cells (sv g) 35) (at0 w (.cells (cv c) 37)))
      exact k4 (t := 37) h1
    · have h1 := keep (.cells z4 37) (at0 (w.alloc (.cells (cv c) 37)) (.cells (sv g) 35))
      simp only [World.size_alloc] at h1; exact k8 (t := 35) h1
  have HK : Hid (∀ W, Below (((w.alloc (.cells (cv c) 37)).alloc (.cells (sv g) 35)).alloc (.cells z4 37)).drew.heap.size (((w.alloc (.cells (cv c) 37)).alloc (.cells (sv g) 35)).alloc (.cells z4 37)).drew W → StuL w.heap.size c g W) := fun W hB => ⟨K4.on hS.out.1 hB (by rw [HZ.out]; omega), K8.on hS.out.2 hB (by rw [HZ.out]; omega)⟩
  have HQ : Hid (∀ W, Below (((w.alloc (.cells (cv c) 37)).alloc (.cells (sv g) 35)).alloc (.cells z4 37)).drew.heap.size (((w.alloc (.cells (cv c) 37)).alloc (.cells (sv g) 35)).alloc (.cells z4 37)).drew W → W.heap[w.heap.size + 1 + 1]? = some (.cells z4 37)) := fun W hB => (hB.block _ (by rw [HZ.out]; omega)).trans hR.out
  have HW : Hid (∀ W, StuL w.heap.size c g W → StuL w.heap.size c g (W.setRow (w.heap.size + 1 + 1) (cv (ctlN c r)))) := fun W h => ⟨K4.row h.1 _ (by omega), K8.row h.2 _ (by omega)⟩
  have HB0 : Hid (Below w.heap.size w (((w.alloc (.cells (cv c) 37)).alloc (.cells (sv g) 35)).alloc (.cells z4 37)).drew) := by repeat first | exact Below.refl _ _ | refine belowD ?_ | refine belowN ?_ _ | refine bA ?_ (by first | exact Nat.le_refl _ | (simp only [World.size_alloc]; omega)) _
  have HBZ : Hid (w.heap.size ≤ (((w.alloc (.cells (cv c) 37)).alloc (.cells (sv g) 35)).alloc (.cells z4 37)).drew.heap.size) := HB0.out.size
  clear hz
  go_enter Try.func48, Try.ntmps48
  go_wp2_with (fail)
  go_region_held3 (StuL w.heap.size c g) ((first | with_reducible exact hS.out | with_reducible exact HK.out _ hw2.out | (rw [sets4 (HQ.out _ hw2.out) rfl]; exact HW.out _ (HK.out _ hw2.out)))) ((first | (go_at_call 34; refine (HP.out _ (by repeat first | exact Below.refl _ _ | refine belowD ?_ | refine belowN ?_ _ | refine bA ?_ (by first | exact Nat.le_refl _ | (simp only [World.size_alloc]; omega)) _)).mono ?_; rintro e1 w1 ⟨rfl, hw1⟩; subst w1) | (go_at_call 81; refine (HS.out _).mono ?_; rintro e2 w2 ⟨rfl, hw2'⟩; have hw2 := hide hw2'; clear hw2'; have hk2 := k4 (c := fun _ => 0) (HQ.out _ hw2.out); have hf2 := f4 (HQ.out _ hw2.out))))
  all_goals go_wp2
  all_goals rw [sets4 (HQ.out _ hw2.out) rfl]
  all_goals (refine bodyPost_ret (v := .tuple #[.agg (cv (ctlN c r)), .bool (ch == 0 || decide (n ≤ c 0)), .int .i64 0]) ?_ rfl ⟨rfl, below_setRow (HB0.out.trans (hw2.out.mono HBZ.out)) (by omega) _⟩)
  all_goals simp only [results, Try.results48, asAddr]
  all_goals simp [run_loadVar_row _ _ 37 37 _ (0, 0) _ (setRow_heap _ _ _ ((cv (ctlN c r))) 37 (0, 0) (HQ.out _ hw2.out)) Try.underlying37 rfl size37]
end Wp
end Go.Proofs.Ytlhpnhjfibkgpaa
