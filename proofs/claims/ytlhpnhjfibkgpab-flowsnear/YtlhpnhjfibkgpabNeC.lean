import Derived.Test.YtlhpnhjfibkgpabNeB
namespace Go.Proofs.Ytlhpnhjfibkgpab
namespace Wp
open Go.RowKit
set_option linter.unusedVariables false
set_option maxRecDepth 8000
/-- A Flow whose program it is. -/
def FB (n : Int) (Q : List Nat) (qb : Nat) (q : Nat) (fb : Nat) (w : World) : Prop := fb < w.heap.size ∧ w.heap[fb]? = some (.cells #[.iface 61 (.agg (bv n qb Q.length q))] 65 (0, 0)) ∧ qb < w.heap.size ∧ Sq w qb Q ∧ Q.length ≤ 64
theorem FB.on {n : Int} {Q : List Nat} {qb : Nat} {q : Nat} {fb : Nat} {w w' : World} (h : FB n Q qb q fb w) (hb : Below w.heap.size w w') : FB n Q qb q fb w' := ⟨Nat.lt_of_lt_of_le h.1 hb.size, (hb.block _ h.1).trans h.2.1, Nat.lt_of_lt_of_le h.2.2.1 hb.size, h.2.2.2.1.on hb h.2.2.1, h.2.2.2.2⟩
theorem pB (x : Addr) (W : World) : (binOp .eql 29 (.pointer (some x)) (.pointer none)).run Try.prog W = .ok (.bool false) W := rfl
theorem iB (n : Int) (Q : List Nat) (qb : Nat) (q : Nat) (W : World) : (binOp .eql 63 (.iface 61 (.agg (bv n qb Q.length q))) .nilIface).run Try.prog W = .ok (.bool false) W := rfl
set_option maxHeartbeats 1000000 in
theorem prog_B (n : Int) (Q : List Nat) (qb : Nat) (q : Nat) (fb : Nat) (w : World) (hF : FB n Q qb q fb w) : Calls Try.prog 20 #[.pointer (some ⟨fb, 0, none⟩)] w fun e w' => e = .returned (.iface 61 (.agg (bv n qb Q.length q))) ∧ w' = w := by
  have hp := pB
  have hi := iB n Q qb q
  have hc : w.cell? ⟨fb, 0, none⟩ = some (.iface 61 (.agg (bv n qb Q.length q))) := (cell_of_row w fb _ _ 65 (0, 0) hF.2.1).trans rfl
  clear hF
  go_enter Try.func20, Try.ntmps20
  go_wp2
  all_goals go_ret
  all_goals exact ⟨rfl, rfl⟩
set_option maxHeartbeats 1000000 in
theorem words_B (n : Int) (Q : List Nat) (qb : Nat) (q : Nat) (fb : Nat) (w : World) (hF : FB n Q qb q fb w) : Calls Try.prog 24 #[.pointer (some ⟨fb, 0, none⟩)] w fun e w' => e = .returned (.int .i64 3) ∧ Below w.heap.size w w' := by
  have HP := hide (prog_B n Q qb q fb)
  have HF := hide hF
  clear hF
  go_enter Try.func24, Try.ntmps24
  go_wp2_with (fail)
  refine (HP.out _ HF.out).mono ?_
  rintro e1 w1 ⟨rfl, rfl⟩
  go_wp2_with (fail)
  refine (words_br n qb Q.length q _).mono ?_
  rintro e2 w2 ⟨rfl, hw2⟩
  try subst w2
  go_wp2
  go_ret
  exact ⟨rfl, by first | exact hw2 | (repeat first | exact Below.refl _ _ | refine belowD ?_ | refine belowN ?_ _ | refine bA ?_ (by first | exact Nat.le_refl _ | (simp only [World.size_alloc]; omega)) _)⟩
set_option maxHeartbeats 1000000 in
theorem both_B (n : Int) (Q : List Nat) (qb : Nat) (q : Nat) (fb : Nat) (w : World) (hF : FB n Q qb q fb w) : Calls Try.prog 10 #[.pointer (some ⟨fb, 0, none⟩)] w fun e w' => e = .returned (.bool false) ∧ Below w.heap.size w w' := by
  have HP := hide (prog_B n Q qb q fb)
  have HF := hide hF
  clear hF
  go_enter Try.func10, Try.ntmps10
  go_wp2_with (fail)
  refine (HP.out _ HF.out).mono ?_
  rintro e1 w1 ⟨rfl, rfl⟩
  go_wp2_with (fail)
  refine (both_br n qb Q.length q _).mono ?_
  rintro e2 w2 ⟨rfl, hw2⟩
  try subst w2
  go_wp2
  go_ret
  exact ⟨rfl, by first | exact hw2 | (repeat first | exact Below.refl _ _ | refine belowD ?_ | refine belowN ?_ _ | refine bA ?_ (by first | exact Nat.le_refl _ | (simp only [World.size_alloc]; omega)) _)⟩
set_option maxHeartbeats 1000000 in
theorem sink_B (n : Int) (Q : List Nat) (qb : Nat) (q : Nat) (fb : Nat) (w : World) (hF : FB n Q qb q fb w) : Calls Try.prog 25 #[.pointer (some ⟨fb, 0, none⟩)] w fun e w' => e = .returned (.agg (kv 2 1)) ∧ Below w.heap.size w w' := by
  have HP := hide (prog_B n Q qb q fb)
  have HF : Hid (FB n Q qb q fb (w.alloc (.cells (kv 0 0) 79))) := hF.on (by repeat first | exact Below.refl _ _ | refine belowD ?_ | refine belowN ?_ _ | refine bA ?_ (by first | exact Nat.le_refl _ | (simp only [World.size_alloc]; omega)) _)
  have hR : Hid ((w.alloc (.cells (kv 0 0) 79)).heap[w.heap.size]? = some (.cells (kv 0 0) 79)) := at0 _ _
  have hB : Hid (Below w.heap.size w (w.alloc (.cells (kv 0 0) 79))) := (by repeat first | exact Below.refl _ _ | refine belowD ?_ | refine belowN ?_ _ | refine bA ?_ (by first | exact Nat.le_refl _ | (simp only [World.size_alloc]; omega)) _)
  clear hF
  go_enter Try.func25, Try.ntmps25
  go_wp2_with (fail)
  refine (HP.out _ HF.out).mono ?_
  rintro e1 w1 ⟨rfl, rfl⟩
  go_wp2_with (fail)
  refine (sink_br n qb Q.length q _).mono ?_
  rintro e2 w2 ⟨rfl, hw2'⟩
  have hw2 := hide hw2'
  clear hw2'
  have HQ : Hid (w2.heap[w.heap.size]? = some (.cells (kv 0 0) 79)) := (hw2.out.block _ (by simp)).trans hR.out
  have hk2 := k4i (HQ.out)
  have hf2 := f4 HQ.out
  go_wp2
  rw [sets4 HQ.out rfl]
  refine bodyPost_ret (v := .agg (kv 2 1)) ?_ rfl ⟨rfl, below_setRow (hB.out.trans (hw2.out.mono (by simp))) (by omega) _⟩
  simp only [results, Try.results25, asAddr]
  simp [run_loadVar_row _ _ 79 79 _ (0, 0) _ (setRow_heap _ _ _ (kv 2 1) 79 (0, 0) HQ.out) Try.underlying79 rfl size101]
abbrev SstB (q : Nat) (a b : Int) (w : World) : Prop := K2 q a b w
set_option maxHeartbeats 4000000 in
theorem start_B (n : Int) (Q : List Nat) (qb : Nat) (q : Nat) (fb : Nat) (v a b : Int) (h0 : 0 ≤ v) (h1 : v < 4294967296) (w : World) (hF : FB n Q qb q fb w) : Calls Try.prog 27 #[.pointer (some ⟨fb, 0, none⟩), .int .u32 v, .agg #[.int .u64 a, .int .u64 b]] w fun e w' => e = .returned (.tuple #[.agg (sv (brStart Q v)), .int .i64 0]) ∧ Below w.heap.size w w' := by
  have HP : Hid (∀ W, Below w.heap.size w W → Calls Try.prog 20 #[.pointer (some ⟨fb, 0, none⟩)] W fun e w' => e = .returned (.iface 61 (.agg (bv n qb Q.length q))) ∧ w' = W) := fun W h => prog_B n Q qb q fb W (hF.on h)
  have HS := hide (fun (W : World) (h : Below w.heap.size w W) => start_br n qb Q.length q Q rfl hF.2.2.2.2 v a b h0 h1 W (hF.on h).2.2.2.1)
  clear hF
  have hz : ((w.alloc (.cells #[.int .u64 a, .int .u64 b] 86)).alloc (.cells z8 36)).drew.heap.size = w.heap.size + 1 + 1 := by simp only [World.size_drew, World.size_alloc]
  have HZ := hide hz
  have hR : Hid (((w.alloc (.cells #[.int .u64 a, .int .u64 b] 86)).alloc (.cells z8 36)).drew.heap[w.heap.size + 1]? = some (.cells z8 36)) := by
    have h1 := at0 (w.alloc (.cells #[.int .u64 a, .int .u64 b] 86)) (.cells z8 36)
    simp only [World.size_alloc] at h1; exact h1
  have hS : Hid (SstB w.heap.size a b ((w.alloc (.cells #[.int .u64 a, .int .u64 b] 86)).alloc (.cells z8 36)).drew) := by
    have h1 := keep (.cells z8 36) (at0 w (.cells #[.int .u64 a, .int .u64 b] 86))
    exact k2 (t := 86) h1
  have HK : Hid (∀ W, Below ((w.alloc (.cells #[.int .u64 a, .int .u64 b] 86)).alloc (.cells z8 36)).drew.heap.size ((w.alloc (.cells #[.int .u64 a, .int .u64 b] 86)).alloc (.cells z8 36)).drew W → SstB w.heap.size a b W) := fun W hB => K2.on hS.out hB (by rw [HZ.out]; omega)
  have HQ : Hid (∀ W, Below ((w.alloc (.cells #[.int .u64 a, .int .u64 b] 86)).alloc (.cells z8 36)).drew.heap.size ((w.alloc (.cells #[.int .u64 a, .int .u64 b] 86)).alloc (.cells z8 36)).drew W → W.heap[w.heap.size + 1]? = some (.cells z8 36)) := fun W hB => (hB.block _ (by rw [HZ.out]; omega)).trans hR.out
  have HW : Hid (∀ W, SstB w.heap.size a b W → SstB w.heap.size a b (W.setRow (w.heap.size + 1) (sv (brStart Q v)))) := fun W h => K2.row h _ (by omega)
  have HB0 : Hid (Below w.heap.size w ((w.alloc (.cells #[.int .u64 a, .int .u64 b] 86)).alloc (.cells z8 36)).drew) := by repeat first | exact Below.refl _ _ | refine belowD ?_ | refine belowN ?_ _ | refine bA ?_ (by first | exact Nat.le_refl _ | (simp only [World.size_alloc]; omega)) _
  have HBZ : Hid (w.heap.size ≤ ((w.alloc (.cells #[.int .u64 a, .int .u64 b] 86)).alloc (.cells z8 36)).drew.heap.size) := HB0.out.size
  clear hz
  go_enter Try.func27, Try.ntmps27
  go_wp2_with (fail)
  go_region_held3 (SstB w.heap.size a b) ((first | with_reducible exact hS.out | with_reducible exact HK.out _ hw2.out | (rw [sets8 (HQ.out _ hw2.out) rfl]; exact HW.out _ (HK.out _ hw2.out)))) ((first | (go_at_call 20; refine (HP.out _ (by repeat first | exact Below.refl _ _ | refine belowD ?_ | refine belowN ?_ _ | refine bA ?_ (by first | exact Nat.le_refl _ | (simp only [World.size_alloc]; omega)) _)).mono ?_; rintro e1 w1 ⟨rfl, hw1⟩; subst w1) | (go_at_call 67; refine (HS.out _ (by repeat first | exact Below.refl _ _ | refine belowD ?_ | refine belowN ?_ _ | refine bA ?_ (by first | exact Nat.le_refl _ | (simp only [World.size_alloc]; omega)) _)).mono ?_; rintro e2 w2 ⟨rfl, hw2'⟩; have hw2 := hide hw2'; clear hw2'; have hk2 := k8 (c := fun _ => 0) (HQ.out _ hw2.out); have hf2 := f8 (HQ.out _ hw2.out))))
  all_goals go_wp2
  all_goals rw [sets8 (HQ.out _ hw2.out) rfl]
  all_goals (refine bodyPost_ret (v := .tuple #[.agg (sv (brStart Q v)), .int .i64 0]) ?_ rfl ⟨rfl, below_setRow (HB0.out.trans (hw2.out.mono HBZ.out)) (by omega) _⟩)
  all_goals simp only [results, Try.results27, asAddr]
  all_goals simp [run_loadVar_row _ _ 36 36 _ (0, 0) _ (setRow_heap _ _ _ ((sv (brStart Q v))) 36 (0, 0) (HQ.out _ hw2.out)) Try.underlying36 rfl size35]
abbrev SscB (q : Nat) (c s : Nat → Int) (x y z : Int) (w : World) : Prop := K4 q c w ∧ K8 (q + 1) s w ∧ K3 (q + 1 + 1) x y z w
set_option maxHeartbeats 4000000 in
theorem scatter_B (n : Int) (Q : List Nat) (qb : Nat) (q : Nat) (fb : Nat) (c s : Nat → Int) (x y z : Int) (k : Bool) (h0 : 0 ≤ x) (h1 : x < 4294967296) (w : World) (hF : FB n Q qb q fb w) : Calls Try.prog 30 #[.pointer (some ⟨fb, 0, none⟩), .agg (cv c), .agg (sv s), .agg (ev x y z), .bool k] w fun e w' => e = .returned (.tuple #[.int .u64 (brSc c s (s 1) k).1, .int .u64 0, .bool (brSc c s (s 1) k).2, .int .i64 0]) ∧ Below w.heap.size w w' := by
  have HP : Hid (∀ W, Below w.heap.size w W → Calls Try.prog 20 #[.pointer (some ⟨fb, 0, none⟩)] W fun e w' => e = .returned (.iface 61 (.agg (bv n qb Q.length q))) ∧ w' = W) := fun W h => prog_B n Q qb q fb W (hF.on h)
  have HS := hide (fun (W : World) (h : Below w.heap.size w W) => scatter_br n qb Q.length q c s x y z k h0 h1 W)
  clear hF
  have hz : (((w.alloc (.cells (cv c) 38)).alloc (.cells (sv s) 36)).alloc (.cells (ev x y z) 53)).drew.heap.size = w.heap.size + 1 + 1 + 1 := by simp only [World.size_drew, World.size_alloc]
  have HZ := hide hz
  have hS : Hid (SscB w.heap.size c s x y z (((w.alloc (.cells (cv c) 38)).alloc (.cells (sv s) 36)).alloc (.cells (ev x y z) 53)).drew) := by
    refine ⟨?_, ?_, ?_⟩
    · have h1 := keep (.cells (ev x y z) 53) (keep (.cells (sv s) 36) (at0 w (.cells (cv c) 38)))
      exact k4 (t := 38) h1
    · have h1 := keep (.cells (ev x y z) 53) (at0 (w.alloc (.cells (cv c) 38)) (.cells (sv s) 36))
      simp only [World.size_alloc] at h1; exact k8 (t := 36) h1
    · have h1 := at0 ((w.alloc (.cells (cv c) 38)).alloc (.cells (sv s) 36)) (.cells (ev x y z) 53)
      simp only [World.size_alloc] at h1; exact k3 (t := 53) h1
  have HK : Hid (∀ W, Below (((w.alloc (.cells (cv c) 38)).alloc (.cells (sv s) 36)).alloc (.cells (ev x y z) 53)).drew.heap.size (((w.alloc (.cells (cv c) 38)).alloc (.cells (sv s) 36)).alloc (.cells (ev x y z) 53)).drew W → SscB w.heap.size c s x y z W) := fun W hB => ⟨K4.on hS.out.1 hB (by rw [HZ.out]; omega), K8.on hS.out.2.1 hB (by rw [HZ.out]; omega), K3.on hS.out.2.2 hB (by rw [HZ.out]; omega)⟩
  have HB0 : Hid (Below w.heap.size w (((w.alloc (.cells (cv c) 38)).alloc (.cells (sv s) 36)).alloc (.cells (ev x y z) 53)).drew) := by repeat first | exact Below.refl _ _ | refine belowD ?_ | refine belowN ?_ _ | refine bA ?_ (by first | exact Nat.le_refl _ | (simp only [World.size_alloc]; omega)) _
  have HBZ : Hid (w.heap.size ≤ (((w.alloc (.cells (cv c) 38)).alloc (.cells (sv s) 36)).alloc (.cells (ev x y z) 53)).drew.heap.size) := HB0.out.size
  clear hz
  go_enter Try.func30, Try.ntmps30
  go_wp2_with (fail)
  go_region_held3 (SscB w.heap.size c s x y z) ((first | with_reducible exact hS.out | with_reducible exact HK.out _ hw2.out)) ((first | (go_at_call 20; refine (HP.out _ (by repeat first | exact Below.refl _ _ | refine belowD ?_ | refine belowN ?_ _ | refine bA ?_ (by first | exact Nat.le_refl _ | (simp only [World.size_alloc]; omega)) _)).mono ?_; rintro e1 w1 ⟨rfl, hw1⟩; subst w1) | (go_at_call 72; refine (HS.out _ (by repeat first | exact Below.refl _ _ | refine belowD ?_ | refine belowN ?_ _ | refine bA ?_ (by first | exact Nat.le_refl _ | (simp only [World.size_alloc]; omega)) _)).mono ?_; rintro e2 w2 ⟨rfl, hw2'⟩; have hw2 := hide hw2'; clear hw2')))
  all_goals go_wp2
  all_goals refine bodyPost_ret (results_tmp4 rfl _ _ _) rfl ?_
  all_goals exact ⟨rfl, HB0.out.trans (hw2.out.mono HBZ.out)⟩
abbrev SapB (q : Nat) (c g s : Nat → Int) (w : World) : Prop := K4 q c w ∧ K8 (q + 1) g w ∧ K8 (q + 1 + 1) s w
set_option maxHeartbeats 4000000 in
theorem apply_B (n : Int) (Q : List Nat) (qb : Nat) (q : Nat) (fb : Nat) (c g : Nat → Int) (v : Int) (s : Nat → Int) (h0 : 0 ≤ c 0) (h1 : c 0 ≤ 1000000) (w : World) (hF : FB n Q qb q fb w) : Calls Try.prog 32 #[.pointer (some ⟨fb, 0, none⟩), .agg (cv c), .agg (sv g), .int .u32 v, .agg (sv s)] w fun e w' => e = .returned (.tuple #[.agg (sv (brAp c s).1), .bool (brAp c s).2, .int .i64 0]) ∧ Below w.heap.size w w' := by
  have HP : Hid (∀ W, Below w.heap.size w W → Calls Try.prog 20 #[.pointer (some ⟨fb, 0, none⟩)] W fun e w' => e = .returned (.iface 61 (.agg (bv n qb Q.length q))) ∧ w' = W) := fun W h => prog_B n Q qb q fb W (hF.on h)
  have HS := hide (fun (W : World) (h : Below w.heap.size w W) => apply_br n qb Q.length q c g v s h0 h1 W)
  clear hF
  have hz : ((((w.alloc (.cells (cv c) 38)).alloc (.cells (sv g) 36)).alloc (.cells (sv s) 36)).alloc (.cells z8 36)).drew.heap.size = w.heap.size + 1 + 1 + 1 + 1 := by simp only [World.size_drew, World.size_alloc]
  have HZ := hide hz
  have hR : Hid (((((w.alloc (.cells (cv c) 38)).alloc (.cells (sv g) 36)).alloc (.cells (sv s) 36)).alloc (.cells z8 36)).drew.heap[w.heap.size + 1 + 1 + 1]? = some (.cells z8 36)) := by
    have h1 := at0 (((w.alloc (.cells (cv c) 38)).alloc (.cells (sv g) 36)).alloc (.cells (sv s) 36)) (.cells z8 36)
    simp only [World.size_alloc] at h1; exact h1
  have hS : Hid (SapB w.heap.size c g s ((((w.alloc (.cells (cv c) 38)).alloc (.cells (sv g) 36)).alloc (.cells (sv s) 36)).alloc (.cells z8 36)).drew) := by
    refine ⟨?_, ?_, ?_⟩
    · have h1 := keep (.cells z8 36) (keep (.cells (sv s) 36) (keep (.cells (sv g) 36) (at0 w (.cells (cv c) 38))))
      exact k4 (t := 38) h1
    · have h1 := keep (.cells z8 36) (keep (.cells (sv s) 36) (at0 (w.alloc (.cells (cv c) 38)) (.cells (sv g) 36)))
      simp only [World.size_alloc] at h1; exact k8 (t := 36) h1
    · have h1 := keep (.cells z8 36) (at0 ((w.alloc (.cells (cv c) 38)).alloc (.cells (sv g) 36)) (.cells (sv s) 36))
      simp only [World.size_alloc] at h1; exact k8 (t := 36) h1
  have HK : Hid (∀ W, Below ((((w.alloc (.cells (cv c) 38)).alloc (.cells (sv g) 36)).alloc (.cells (sv s) 36)).alloc (.cells z8 36)).drew.heap.size ((((w.alloc (.cells (cv c) 38)).alloc (.cells (sv g) 36)).alloc (.cells (sv s) 36)).alloc (.cells z8 36)).drew W → SapB w.heap.size c g s W) := fun W hB => ⟨K4.on hS.out.1 hB (by rw [HZ.out]; omega), K8.on hS.out.2.1 hB (by rw [HZ.out]; omega), K8.on hS.out.2.2 hB (by rw [HZ.out]; omega)⟩
  have HQ : Hid (∀ W, Below ((((w.alloc (.cells (cv c) 38)).alloc (.cells (sv g) 36)).alloc (.cells (sv s) 36)).alloc (.cells z8 36)).drew.heap.size ((((w.alloc (.cells (cv c) 38)).alloc (.cells (sv g) 36)).alloc (.cells (sv s) 36)).alloc (.cells z8 36)).drew W → W.heap[w.heap.size + 1 + 1 + 1]? = some (.cells z8 36)) := fun W hB => (hB.block _ (by rw [HZ.out]; omega)).trans hR.out
  have HW : Hid (∀ W, SapB w.heap.size c g s W → SapB w.heap.size c g s (W.setRow (w.heap.size + 1 + 1 + 1) (sv (brAp c s).1))) := fun W h => ⟨K4.row h.1 _ (by omega), K8.row h.2.1 _ (by omega), K8.row h.2.2 _ (by omega)⟩
  have HB0 : Hid (Below w.heap.size w ((((w.alloc (.cells (cv c) 38)).alloc (.cells (sv g) 36)).alloc (.cells (sv s) 36)).alloc (.cells z8 36)).drew) := by repeat first | exact Below.refl _ _ | refine belowD ?_ | refine belowN ?_ _ | refine bA ?_ (by first | exact Nat.le_refl _ | (simp only [World.size_alloc]; omega)) _
  have HBZ : Hid (w.heap.size ≤ ((((w.alloc (.cells (cv c) 38)).alloc (.cells (sv g) 36)).alloc (.cells (sv s) 36)).alloc (.cells z8 36)).drew.heap.size) := HB0.out.size
  clear hz
  go_enter Try.func32, Try.ntmps32
  go_wp2_with (fail)
  go_region_held3 (SapB w.heap.size c g s) ((first | with_reducible exact hS.out | with_reducible exact HK.out _ hw2.out | (rw [sets8 (HQ.out _ hw2.out) rfl]; exact HW.out _ (HK.out _ hw2.out)))) ((first | (go_at_call 20; refine (HP.out _ (by repeat first | exact Below.refl _ _ | refine belowD ?_ | refine belowN ?_ _ | refine bA ?_ (by first | exact Nat.le_refl _ | (simp only [World.size_alloc]; omega)) _)).mono ?_; rintro e1 w1 ⟨rfl, hw1⟩; subst w1) | (go_at_call 63; refine (HS.out _ (by repeat first | exact Below.refl _ _ | refine belowD ?_ | refine belowN ?_ _ | refine bA ?_ (by first | exact Nat.le_refl _ | (simp only [World.size_alloc]; omega)) _)).mono ?_; rintro e2 w2 ⟨rfl, hw2'⟩; have hw2 := hide hw2'; clear hw2'; have hk2 := k8 (c := fun _ => 0) (HQ.out _ hw2.out); have hf2 := f8 (HQ.out _ hw2.out))))
  all_goals go_wp2
  all_goals rw [sets8 (HQ.out _ hw2.out) rfl]
  all_goals (refine bodyPost_ret (v := .tuple #[.agg (sv (brAp c s).1), .bool (brAp c s).2, .int .i64 0]) ?_ rfl ⟨rfl, below_setRow (HB0.out.trans (hw2.out.mono HBZ.out)) (by omega) _⟩)
  all_goals simp only [results, Try.results32, asAddr]
  all_goals simp [run_loadVar_row _ _ 36 36 _ (0, 0) _ (setRow_heap _ _ _ ((sv (brAp c s).1)) 36 (0, 0) (HQ.out _ hw2.out)) Try.underlying36 rfl size35]
abbrev SfoB (q : Nat) (c g s : Nat → Int) (w : World) : Prop := K4 q c w ∧ K8 (q + 1) g w ∧ K8 (q + 1 + 1) s w
set_option maxHeartbeats 4000000 in
theorem fold_B (n : Int) (Q : List Nat) (qb : Nat) (q : Nat) (fb : Nat) (c g : Nat → Int) (v : Int) (s : Nat → Int) (g0 : 0 ≤ g 0) (g1 : g 0 ≤ 1000000) (w : World) (hF : FB n Q qb q fb w) : Calls Try.prog 35 #[.pointer (some ⟨fb, 0, none⟩), .agg (cv c), .agg (sv g), .int .u32 v, .agg (sv s)] w fun e w' => e = .returned (.tuple #[.agg (sv (brFo g s)), .int .i64 0]) ∧ Below w.heap.size w w' := by
  have HP : Hid (∀ W, Below w.heap.size w W → Calls Try.prog 20 #[.pointer (some ⟨fb, 0, none⟩)] W fun e w' => e = .returned (.iface 61 (.agg (bv n qb Q.length q))) ∧ w' = W) := fun W h => prog_B n Q qb q fb W (hF.on h)
  have HS := hide (fun (W : World) (h : Below w.heap.size w W) => fold_br n qb Q.length q c g v s g0 g1 W)
  clear hF
  have hz : ((((w.alloc (.cells (cv c) 38)).alloc (.cells (sv g) 36)).alloc (.cells (sv s) 36)).alloc (.cells z8 36)).drew.heap.size = w.heap.size + 1 + 1 + 1 + 1 := by simp only [World.size_drew, World.size_alloc]
  have HZ := hide hz
  have hR : Hid (((((w.alloc (.cells (cv c) 38)).alloc (.cells (sv g) 36)).alloc (.cells (sv s) 36)).alloc (.cells z8 36)).drew.heap[w.heap.size + 1 + 1 + 1]? = some (.cells z8 36)) := by
    have h1 := at0 (((w.alloc (.cells (cv c) 38)).alloc (.cells (sv g) 36)).alloc (.cells (sv s) 36)) (.cells z8 36)
    simp only [World.size_alloc] at h1; exact h1
  have hS : Hid (SfoB w.heap.size c g s ((((w.alloc (.cells (cv c) 38)).alloc (.cells (sv g) 36)).alloc (.cells (sv s) 36)).alloc (.cells z8 36)).drew) := by
    refine ⟨?_, ?_, ?_⟩
    · have h1 := keep (.cells z8 36) (keep (.cells (sv s) 36) (keep (.cells (sv g) 36) (at0 w (.cells (cv c) 38))))
      exact k4 (t := 38) h1
    · have h1 := keep (.cells z8 36) (keep (.cells (sv s) 36) (at0 (w.alloc (.cells (cv c) 38)) (.cells (sv g) 36)))
      simp only [World.size_alloc] at h1; exact k8 (t := 36) h1
    · have h1 := keep (.cells z8 36) (at0 ((w.alloc (.cells (cv c) 38)).alloc (.cells (sv g) 36)) (.cells (sv s) 36))
      simp only [World.size_alloc] at h1; exact k8 (t := 36) h1
  have HK : Hid (∀ W, Below ((((w.alloc (.cells (cv c) 38)).alloc (.cells (sv g) 36)).alloc (.cells (sv s) 36)).alloc (.cells z8 36)).drew.heap.size ((((w.alloc (.cells (cv c) 38)).alloc (.cells (sv g) 36)).alloc (.cells (sv s) 36)).alloc (.cells z8 36)).drew W → SfoB w.heap.size c g s W) := fun W hB => ⟨K4.on hS.out.1 hB (by rw [HZ.out]; omega), K8.on hS.out.2.1 hB (by rw [HZ.out]; omega), K8.on hS.out.2.2 hB (by rw [HZ.out]; omega)⟩
  have HQ : Hid (∀ W, Below ((((w.alloc (.cells (cv c) 38)).alloc (.cells (sv g) 36)).alloc (.cells (sv s) 36)).alloc (.cells z8 36)).drew.heap.size ((((w.alloc (.cells (cv c) 38)).alloc (.cells (sv g) 36)).alloc (.cells (sv s) 36)).alloc (.cells z8 36)).drew W → W.heap[w.heap.size + 1 + 1 + 1]? = some (.cells z8 36)) := fun W hB => (hB.block _ (by rw [HZ.out]; omega)).trans hR.out
  have HW : Hid (∀ W, SfoB w.heap.size c g s W → SfoB w.heap.size c g s (W.setRow (w.heap.size + 1 + 1 + 1) (sv (brFo g s)))) := fun W h => ⟨K4.row h.1 _ (by omega), K8.row h.2.1 _ (by omega), K8.row h.2.2 _ (by omega)⟩
  have HB0 : Hid (Below w.heap.size w ((((w.alloc (.cells (cv c) 38)).alloc (.cells (sv g) 36)).alloc (.cells (sv s) 36)).alloc (.cells z8 36)).drew) := by repeat first | exact Below.refl _ _ | refine belowD ?_ | refine belowN ?_ _ | refine bA ?_ (by first | exact Nat.le_refl _ | (simp only [World.size_alloc]; omega)) _
  have HBZ : Hid (w.heap.size ≤ ((((w.alloc (.cells (cv c) 38)).alloc (.cells (sv g) 36)).alloc (.cells (sv s) 36)).alloc (.cells z8 36)).drew.heap.size) := HB0.out.size
  clear hz
  go_enter Try.func35, Try.ntmps35
  go_wp2_with (fail)
  go_region_held3 (SfoB w.heap.size c g s) ((first | with_reducible exact hS.out | with_reducible exact HK.out _ hw2.out | (rw [sets8 (HQ.out _ hw2.out) rfl]; exact HW.out _ (HK.out _ hw2.out)))) ((first | (go_at_call 20; refine (HP.out _ (by repeat first | exact Below.refl _ _ | refine belowD ?_ | refine belowN ?_ _ | refine bA ?_ (by first | exact Nat.le_refl _ | (simp only [World.size_alloc]; omega)) _)).mono ?_; rintro e1 w1 ⟨rfl, hw1⟩; subst w1) | (go_at_call 65; refine (HS.out _ (by repeat first | exact Below.refl _ _ | refine belowD ?_ | refine belowN ?_ _ | refine bA ?_ (by first | exact Nat.le_refl _ | (simp only [World.size_alloc]; omega)) _)).mono ?_; rintro e2 w2 ⟨rfl, hw2'⟩; have hw2 := hide hw2'; clear hw2'; have hk2 := k8 (c := fun _ => 0) (HQ.out _ hw2.out); have hf2 := f8 (HQ.out _ hw2.out))))
  all_goals go_wp2
  all_goals rw [sets8 (HQ.out _ hw2.out) rfl]
  all_goals (refine bodyPost_ret (v := .tuple #[.agg (sv (brFo g s)), .int .i64 0]) ?_ rfl ⟨rfl, below_setRow (HB0.out.trans (hw2.out.mono HBZ.out)) (by omega) _⟩)
  all_goals simp only [results, Try.results35, asAddr]
  all_goals simp [run_loadVar_row _ _ 36 36 _ (0, 0) _ (setRow_heap _ _ _ ((sv (brFo g s))) 36 (0, 0) (HQ.out _ hw2.out)) Try.underlying36 rfl size35]
abbrev StuB (q : Nat) (c g : Nat → Int) (w : World) : Prop := K4 q c w ∧ K8 (q + 1) g w
set_option maxHeartbeats 4000000 in
theorem turn_B (n : Int) (Q : List Nat) (qb : Nat) (q : Nat) (fb : Nat) (c g : Nat → Int) (ch r : Int) (h0 : 0 ≤ n) (h1 : n < 4294967296) (h2 : 0 ≤ r) (h3 : r ≤ 1000000) (w : World) (hF : FB n Q qb q fb w) : Calls Try.prog 33 #[.pointer (some ⟨fb, 0, none⟩), .agg (cv c), .agg (sv g), .int .u64 ch, .int .i64 r] w fun e w' => e = .returned (.tuple #[.agg (cv (ctlN c r)), .bool (ch == 0 || decide (n ≤ c 0)), .int .i64 0]) ∧ Below w.heap.size w w' := by
  have HP : Hid (∀ W, Below w.heap.size w W → Calls Try.prog 20 #[.pointer (some ⟨fb, 0, none⟩)] W fun e w' => e = .returned (.iface 61 (.agg (bv n qb Q.length q))) ∧ w' = W) := fun W h => prog_B n Q qb q fb W (hF.on h)
  have HS := hide (fun (W : World) (h : Below w.heap.size w W) => turn_pace n c g ch r h0 h1 h2 h3 W)
  clear hF
  have hz : (((w.alloc (.cells (cv c) 38)).alloc (.cells (sv g) 36)).alloc (.cells z4 38)).drew.heap.size = w.heap.size + 1 + 1 + 1 := by simp only [World.size_drew, World.size_alloc]
  have HZ := hide hz
  have hR : Hid ((((w.alloc (.cells (cv c) 38)).alloc (.cells (sv g) 36)).alloc (.cells z4 38)).drew.heap[w.heap.size + 1 + 1]? = some (.cells z4 38)) := by
    have h1 := at0 ((w.alloc (.cells (cv c) 38)).alloc (.cells (sv g) 36)) (.cells z4 38)
    simp only [World.size_alloc] at h1; exact h1
  have hS : Hid (StuB w.heap.size c g (((w.alloc (.cells (cv c) 38)).alloc (.cells (sv g) 36)).alloc (.cells z4 38)).drew) := by
    refine ⟨?_, ?_⟩
    · have h1 := keep (.cells z4 38) (keep (.cells (sv g) 36) (at0 w (.cells (cv c) 38)))
      exact k4 (t := 38) h1
    · have h1 := keep (.cells z4 38) (at0 (w.alloc (.cells (cv c) 38)) (.cells (sv g) 36))
      simp only [World.size_alloc] at h1; exact k8 (t := 36) h1
  have HK : Hid (∀ W, Below (((w.alloc (.cells (cv c) 38)).alloc (.cells (sv g) 36)).alloc (.cells z4 38)).drew.heap.size (((w.alloc (.cells (cv c) 38)).alloc (.cells (sv g) 36)).alloc (.cells z4 38)).drew W → StuB w.heap.size c g W) := fun W hB => ⟨K4.on hS.out.1 hB (by rw [HZ.out]; omega), K8.on hS.out.2 hB (by rw [HZ.out]; omega)⟩
  have HQ : Hid (∀ W, Below (((w.alloc (.cells (cv c) 38)).alloc (.cells (sv g) 36)).alloc (.cells z4 38)).drew.heap.size (((w.alloc (.cells (cv c) 38)).alloc (.cells (sv g) 36)).alloc (.cells z4 38)).drew W → W.heap[w.heap.size + 1 + 1]? = some (.cells z4 38)) := fun W hB => (hB.block _ (by rw [HZ.out]; omega)).trans hR.out
  have HW : Hid (∀ W, StuB w.heap.size c g W → StuB w.heap.size c g (W.setRow (w.heap.size + 1 + 1) (cv (ctlN c r)))) := fun W h => ⟨K4.row h.1 _ (by omega), K8.row h.2 _ (by omega)⟩
  have HB0 : Hid (Below w.heap.size w (((w.alloc (.cells (cv c) 38)).alloc (.cells (sv g) 36)).alloc (.cells z4 38)).drew) := by repeat first | exact Below.refl _ _ | refine belowD ?_ | refine belowN ?_ _ | refine bA ?_ (by first | exact Nat.le_refl _ | (simp only [World.size_alloc]; omega)) _
  have HBZ : Hid (w.heap.size ≤ (((w.alloc (.cells (cv c) 38)).alloc (.cells (sv g) 36)).alloc (.cells z4 38)).drew.heap.size) := HB0.out.size
  clear hz
  go_enter Try.func33, Try.ntmps33
  go_wp2_with (fail)
  go_region_held3 (StuB w.heap.size c g) ((first | with_reducible exact hS.out | with_reducible exact HK.out _ hw2.out | (rw [sets4 (HQ.out _ hw2.out) rfl]; exact HW.out _ (HK.out _ hw2.out)))) ((first | (go_at_call 20; refine (HP.out _ (by repeat first | exact Below.refl _ _ | refine belowD ?_ | refine belowN ?_ _ | refine bA ?_ (by first | exact Nat.le_refl _ | (simp only [World.size_alloc]; omega)) _)).mono ?_; rintro e1 w1 ⟨rfl, hw1⟩; subst w1) | (go_at_call 61; refine (HS.out _ (by repeat first | exact Below.refl _ _ | refine belowD ?_ | refine belowN ?_ _ | refine bA ?_ (by first | exact Nat.le_refl _ | (simp only [World.size_alloc]; omega)) _)).mono ?_; rintro e2 w2 ⟨rfl, hw2'⟩; have hw2 := hide hw2'; clear hw2'; have hk2 := k4 (c := fun _ => 0) (HQ.out _ hw2.out); have hf2 := f4 (HQ.out _ hw2.out))))
  all_goals go_wp2
  all_goals rw [sets4 (HQ.out _ hw2.out) rfl]
  all_goals (refine bodyPost_ret (v := .tuple #[.agg (cv (ctlN c r)), .bool (ch == 0 || decide (n ≤ c 0)), .int .i64 0]) ?_ rfl ⟨rfl, below_setRow (HB0.out.trans (hw2.out.mono HBZ.out)) (by omega) _⟩)
  all_goals simp only [results, Try.results33, asAddr]
  all_goals simp [run_loadVar_row _ _ 38 38 _ (0, 0) _ (setRow_heap _ _ _ ((cv (ctlN c r))) 38 (0, 0) (HQ.out _ hw2.out)) Try.underlying38 rfl size37]
end Wp
end Go.Proofs.Ytlhpnhjfibkgpab
