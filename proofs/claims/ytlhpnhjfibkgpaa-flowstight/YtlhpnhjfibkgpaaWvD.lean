import Derived.Test.YtlhpnhjfibkgpaaWvC
namespace Go.Proofs.Ytlhpnhjfibkgpaa
namespace Wp
open Go.RowKit
set_option linter.unusedVariables false
set_option maxRecDepth 8000
/-- A Flow whose program it is. -/
def FW (n : Int) (s0 : Int) (k : Int) (wb : Nat) (fb : Nat) (w : World) : Prop := fb < w.heap.size ∧ w.heap[fb]? = some (.cells #[.iface 86 (.pointer (some ⟨wb, 0, none⟩))] 79 (0, 0)) ∧ WO w wb n s0 k
theorem FW.on {n : Int} {s0 : Int} {k : Int} {wb : Nat} {fb : Nat} {w w' : World} (h : FW n s0 k wb fb w) (hb : Below w.heap.size w w') : FW n s0 k wb fb w' := ⟨Nat.lt_of_lt_of_le h.1 hb.size, (hb.block _ h.1).trans h.2.1, h.2.2.on hb⟩
theorem pW (x : Addr) (W : World) : (binOp .eql 28 (.pointer (some x)) (.pointer none)).run Try.prog W = .ok (.bool false) W := rfl
theorem iW (n : Int) (s0 : Int) (k : Int) (wb : Nat) (W : World) : (binOp .eql 77 (.iface 86 (.pointer (some ⟨wb, 0, none⟩))) .nilIface).run Try.prog W = .ok (.bool false) W := rfl
set_option maxHeartbeats 1000000 in
theorem prog_W (n : Int) (s0 : Int) (k : Int) (wb : Nat) (fb : Nat) (w : World) (hF : FW n s0 k wb fb w) : Calls Try.prog 34 #[.pointer (some ⟨fb, 0, none⟩)] w fun e w' => e = .returned (.iface 86 (.pointer (some ⟨wb, 0, none⟩))) ∧ w' = w := by
  have hp := pW
  have hi := iW n s0 k wb
  have hc : w.cell? ⟨fb, 0, none⟩ = some (.iface 86 (.pointer (some ⟨wb, 0, none⟩))) := (cell_of_row w fb _ _ 79 (0, 0) hF.2.1).trans rfl
  clear hF
  go_enter Try.func34, Try.ntmps34
  go_wp2
  all_goals go_ret
  all_goals exact ⟨rfl, rfl⟩
set_option maxHeartbeats 1000000 in
theorem words_W (n : Int) (s0 : Int) (k : Int) (wb : Nat) (fb : Nat) (w : World) (hF : FW n s0 k wb fb w) : Calls Try.prog 39 #[.pointer (some ⟨fb, 0, none⟩)] w fun e w' => e = .returned (.int .i64 4) ∧ Below w.heap.size w w' := by
  have HP := hide (prog_W n s0 k wb fb)
  have HF := hide hF
  clear hF
  go_enter Try.func39, Try.ntmps39
  go_wp2_with (fail)
  refine (HP.out _ HF.out).mono ?_
  rintro e1 w1 ⟨rfl, rfl⟩
  go_wp2_with (fail)
  refine (words_wy wb _).mono ?_
  rintro e2 w2 ⟨rfl, hw2⟩
  try subst w2
  go_wp2
  go_ret
  exact ⟨rfl, by first | exact hw2 | (repeat first | exact Below.refl _ _ | refine belowD ?_ | refine belowN ?_ _ | refine bA ?_ (by first | exact Nat.le_refl _ | (simp only [World.size_alloc]; omega)) _)⟩
set_option maxHeartbeats 1000000 in
theorem both_W (n : Int) (s0 : Int) (k : Int) (wb : Nat) (fb : Nat) (w : World) (hF : FW n s0 k wb fb w) : Calls Try.prog 16 #[.pointer (some ⟨fb, 0, none⟩)] w fun e w' => e = .returned (.bool false) ∧ Below w.heap.size w w' := by
  have HP := hide (prog_W n s0 k wb fb)
  have HF := hide hF
  clear hF
  go_enter Try.func16, Try.ntmps16
  go_wp2_with (fail)
  refine (HP.out _ HF.out).mono ?_
  rintro e1 w1 ⟨rfl, rfl⟩
  go_wp2_with (fail)
  refine (both_wy wb _).mono ?_
  rintro e2 w2 ⟨rfl, hw2⟩
  try subst w2
  go_wp2
  go_ret
  exact ⟨rfl, by first | exact hw2 | (repeat first | exact Below.refl _ _ | refine belowD ?_ | refine belowN ?_ _ | refine bA ?_ (by first | exact Nat.le_refl _ | (simp only [World.size_alloc]; omega)) _)⟩
set_option maxHeartbeats 1000000 in
theorem sink_W (n : Int) (s0 : Int) (k : Int) (wb : Nat) (fb : Nat) (w : World) (hF : FW n s0 k wb fb w) : Calls Try.prog 40 #[.pointer (some ⟨fb, 0, none⟩)] w fun e w' => e = .returned (.agg (kv 3 3)) ∧ Below w.heap.size w w' := by
  have HP := hide (prog_W n s0 k wb fb)
  have HF : Hid (FW n s0 k wb fb (w.alloc (.cells (kv 0 0) 101))) := hF.on (by repeat first | exact Below.refl _ _ | refine belowD ?_ | refine belowN ?_ _ | refine bA ?_ (by first | exact Nat.le_refl _ | (simp only [World.size_alloc]; omega)) _)
  have hR : Hid ((w.alloc (.cells (kv 0 0) 101)).heap[w.heap.size]? = some (.cells (kv 0 0) 101)) := at0 _ _
  have hB : Hid (Below w.heap.size w (w.alloc (.cells (kv 0 0) 101))) := (by repeat first | exact Below.refl _ _ | refine belowD ?_ | refine belowN ?_ _ | refine bA ?_ (by first | exact Nat.le_refl _ | (simp only [World.size_alloc]; omega)) _)
  clear hF
  go_enter Try.func40, Try.ntmps40
  go_wp2_with (fail)
  refine (HP.out _ HF.out).mono ?_
  rintro e1 w1 ⟨rfl, rfl⟩
  go_wp2_with (fail)
  refine (sink_wy wb _).mono ?_
  rintro e2 w2 ⟨rfl, hw2'⟩
  have hw2 := hide hw2'
  clear hw2'
  have HQ : Hid (w2.heap[w.heap.size]? = some (.cells (kv 0 0) 101)) := (hw2.out.block _ (by simp)).trans hR.out
  have hk2 := k4i (HQ.out)
  have hf2 := f4 HQ.out
  go_wp2
  rw [sets4 HQ.out rfl]
  refine bodyPost_ret (v := .agg (kv 3 3)) ?_ rfl ⟨rfl, below_setRow (hB.out.trans (hw2.out.mono (by simp))) (by omega) _⟩
  simp only [results, Try.results40, asAddr]
  simp [run_loadVar_row _ _ 101 101 _ (0, 0) _ (setRow_heap _ _ _ (kv 3 3) 101 (0, 0) HQ.out) Try.underlying101 rfl size101]
abbrev SstW (q : Nat) (a b : Int) (w : World) : Prop := K2 q a b w
set_option maxHeartbeats 4000000 in
theorem start_W (n : Int) (s0 : Int) (k : Int) (wb : Nat) (fb : Nat) (v a b : Int)  (w : World) (hF : FW n s0 k wb fb w) : Calls Try.prog 42 #[.pointer (some ⟨fb, 0, none⟩), .int .u32 v, .agg #[.int .u64 a, .int .u64 b]] w fun e w' => e = .returned (.tuple #[.agg (sv (wyStart s0 v)), .int .i64 0]) ∧ Below w.heap.size w w' := by
  have HP : Hid (∀ W, Below w.heap.size w W → Calls Try.prog 34 #[.pointer (some ⟨fb, 0, none⟩)] W fun e w' => e = .returned (.iface 86 (.pointer (some ⟨wb, 0, none⟩))) ∧ w' = W) := fun W h => prog_W n s0 k wb fb W (hF.on h)
  have HS := hide (fun (W : World) (h : Below w.heap.size w W) => start_wy wb n s0 k v a b W (hF.on h).2.2)
  clear hF
  have hz : ((w.alloc (.cells #[.int .u64 a, .int .u64 b] 108)).alloc (.cells z8 35)).drew.heap.size = w.heap.size + 1 + 1 := by simp only [World.size_drew, World.size_alloc]
  have HZ := hide hz
  have hR : Hid (((w.alloc (.cells #[.int .u64 a, .int .u64 b] 108)).alloc (.cells z8 35)).drew.heap[w.heap.size + 1]? = some (.cells z8 35)) := by
    have h1 := at0 (w.alloc (.cells #[.int .u64 a, .int .u64 b] 108)) (.cells z8 35)
    simp only [World.size_alloc] at h1; exact h1
  have hS : Hid (SstW w.heap.size a b ((w.alloc (.cells #[.int .u64 a, .int .u64 b] 108)).alloc (.cells z8 35)).drew) := by
    have h1 := keep (.cells z8 35) (at0 w (.cells #[.int .u64 a, .int .u64 b] 108))
    exact k2 (t := 108) h1
  have HK : Hid (∀ W, Below ((w.alloc (.cells #[.int .u64 a, .int .u64 b] 108)).alloc (.cells z8 35)).drew.heap.size ((w.alloc (.cells #[.int .u64 a, .int .u64 b] 108)).alloc (.cells z8 35)).drew W → SstW w.heap.size a b W) := fun W hB => K2.on hS.out hB (by rw [HZ.out]; omega)
  have HQ : Hid (∀ W, Below ((w.alloc (.cells #[.int .u64 a, .int .u64 b] 108)).alloc (.cells z8 35)).drew.heap.size ((w.alloc (.cells #[.int .u64 a, .int .u64 b] 108)).alloc (.cells z8 35)).drew W → W.heap[w.heap.size + 1]? = some (.cells z8 35)) := fun W hB => (hB.block _ (by rw [HZ.out]; omega)).trans hR.out
  have HW : Hid (∀ W, SstW w.heap.size a b W → SstW w.heap.size a b (W.setRow (w.heap.size + 1) (sv (wyStart s0 v)))) := fun W h => K2.row h _ (by omega)
  have HB0 : Hid (Below w.heap.size w ((w.alloc (.cells #[.int .u64 a, .int .u64 b] 108)).alloc (.cells z8 35)).drew) := by repeat first | exact Below.refl _ _ | refine belowD ?_ | refine belowN ?_ _ | refine bA ?_ (by first | exact Nat.le_refl _ | (simp only [World.size_alloc]; omega)) _
  have HBZ : Hid (w.heap.size ≤ ((w.alloc (.cells #[.int .u64 a, .int .u64 b] 108)).alloc (.cells z8 35)).drew.heap.size) := HB0.out.size
  clear hz
  go_enter Try.func42, Try.ntmps42
  go_wp2_with (fail)
  go_region_held3 (SstW w.heap.size a b) ((first | with_reducible exact hS.out | with_reducible exact HK.out _ hw2.out | (rw [sets8 (HQ.out _ hw2.out) rfl]; exact HW.out _ (HK.out _ hw2.out)))) ((first | (go_at_call 34; refine (HP.out _ (by repeat first | exact Below.refl _ _ | refine belowD ?_ | refine belowN ?_ _ | refine bA ?_ (by first | exact Nat.le_refl _ | (simp only [World.size_alloc]; omega)) _)).mono ?_; rintro e1 w1 ⟨rfl, hw1⟩; subst w1) | (go_at_call 96; refine (HS.out _ (by repeat first | exact Below.refl _ _ | refine belowD ?_ | refine belowN ?_ _ | refine bA ?_ (by first | exact Nat.le_refl _ | (simp only [World.size_alloc]; omega)) _)).mono ?_; rintro e2 w2 ⟨rfl, hw2'⟩; have hw2 := hide hw2'; clear hw2'; have hk2 := k8 (c := fun _ => 0) (HQ.out _ hw2.out); have hf2 := f8 (HQ.out _ hw2.out))))
  all_goals go_wp2
  all_goals rw [sets8 (HQ.out _ hw2.out) rfl]
  all_goals (refine bodyPost_ret (v := .tuple #[.agg (sv (wyStart s0 v)), .int .i64 0]) ?_ rfl ⟨rfl, below_setRow (HB0.out.trans (hw2.out.mono HBZ.out)) (by omega) _⟩)
  all_goals simp only [results, Try.results42, asAddr]
  all_goals simp [run_loadVar_row _ _ 35 35 _ (0, 0) _ (setRow_heap _ _ _ ((sv (wyStart s0 v))) 35 (0, 0) (HQ.out _ hw2.out)) Try.underlying35 rfl size35]
abbrev SscW (q : Nat) (c s : Nat → Int) (x y z : Int) (w : World) : Prop := K4 q c w ∧ K8 (q + 1) s w ∧ K3 (q + 1 + 1) x y z w
set_option maxHeartbeats 4000000 in
theorem scatter_W (n : Int) (s0 : Int) (k : Int) (wb : Nat) (fb : Nat) (c s : Nat → Int) (x y z : Int) (b : Bool) (h0 : 0 ≤ n) (h1 : n < 4294967296) (hok : s 0 ≠ 9223372036854775807 → -9223372036854775808 ≤ wrap64 (s 0) + wt k z ∧ wrap64 (s 0) + wt k z ≤ 9223372036854775807) (w : World) (hF : FW n s0 k wb fb w) : Calls Try.prog 45 #[.pointer (some ⟨fb, 0, none⟩), .agg (cv c), .agg (sv s), .agg (ev x y z), .bool b] w fun e w' => e = .returned (.tuple #[.int .u64 (wySc n k c s z b).1, .int .u64 0, .bool (wySc n k c s z b).2, .int .i64 0]) ∧ Below w.heap.size w w' := by
  have HP : Hid (∀ W, Below w.heap.size w W → Calls Try.prog 34 #[.pointer (some ⟨fb, 0, none⟩)] W fun e w' => e = .returned (.iface 86 (.pointer (some ⟨wb, 0, none⟩))) ∧ w' = W) := fun W h => prog_W n s0 k wb fb W (hF.on h)
  have HS := hide (fun (W : World) (h : Below w.heap.size w W) => scatter_wy wb n s0 k c s x y z b h0 h1 hok W (hF.on h).2.2)
  clear hF
  have hz : (((w.alloc (.cells (cv c) 37)).alloc (.cells (sv s) 35)).alloc (.cells (ev x y z) 45)).drew.heap.size = w.heap.size + 1 + 1 + 1 := by simp only [World.size_drew, World.size_alloc]
  have HZ := hide hz
  have hS : Hid (SscW w.heap.size c s x y z (((w.alloc (.cells (cv c) 37)).alloc (.cells (sv s) 35)).alloc (.cells (ev x y z) 45)).drew) := by
    refine ⟨?_, ?_, ?_⟩
    · have h1 := keep (.cells (ev x y z) 45) (keep (.cells (sv s) 35) (at0 w (.cells (cv c) 37)))
      exact k4 (t := 37) h1
    · have h1 := keep (.cells (ev x y z) 45) (at0 (w.alloc (.cells (cv c) 37)) (.cells (sv s) 35))
      simp only [World.size_alloc] at h1; exact k8 (t := 35) h1
    · have h1 := at0 ((w.alloc (.cells (cv c) 37)).alloc (.cells (sv s) 35)) (.cells (ev x y z) 45)
      simp only [World.size_alloc] at h1; exact k3 (t := 45) h1
  have HK : Hid (∀ W, Below (((w.alloc (.cells (cv c) 37)).alloc (.cells (sv s) 35)).alloc (.cells (ev x y z) 45)).drew.heap.size (((w.alloc (.cells (cv c) 37)).alloc (.cells (sv s) 35)).alloc (.cells (ev x y z) 45)).drew W → SscW w.heap.size c s x y z W) := fun W hB => ⟨K4.on hS.out.1 hB (by rw [HZ.out]; omega), K8.on hS.out.2.1 hB (by rw [HZ.out]; omega), K3.on hS.out.2.2 hB (by rw [HZ.out]; omega)⟩
  have HB0 : Hid (Below w.heap.size w (((w.alloc (.cells (cv c) 37)).alloc (.cells (sv s) 35)).alloc (.cells (ev x y z) 45)).drew) := by repeat first | exact Below.refl _ _ | refine belowD ?_ | refine belowN ?_ _ | refine bA ?_ (by first | exact Nat.le_refl _ | (simp only [World.size_alloc]; omega)) _
  have HBZ : Hid (w.heap.size ≤ (((w.alloc (.cells (cv c) 37)).alloc (.cells (sv s) 35)).alloc (.cells (ev x y z) 45)).drew.heap.size) := HB0.out.size
  clear hz
  go_enter Try.func45, Try.ntmps45
  go_wp2_with (fail)
  go_region_held3 (SscW w.heap.size c s x y z) ((first | with_reducible exact hS.out | with_reducible exact HK.out _ hw2.out)) ((first | (go_at_call 34; refine (HP.out _ (by repeat first | exact Below.refl _ _ | refine belowD ?_ | refine belowN ?_ _ | refine bA ?_ (by first | exact Nat.le_refl _ | (simp only [World.size_alloc]; omega)) _)).mono ?_; rintro e1 w1 ⟨rfl, hw1⟩; subst w1) | (go_at_call 94; refine (HS.out _ (by repeat first | exact Below.refl _ _ | refine belowD ?_ | refine belowN ?_ _ | refine bA ?_ (by first | exact Nat.le_refl _ | (simp only [World.size_alloc]; omega)) _)).mono ?_; rintro e2 w2 ⟨rfl, hw2'⟩; have hw2 := hide hw2'; clear hw2')))
  all_goals go_wp2
  all_goals refine bodyPost_ret (results_tmp4 rfl _ _ _) rfl ?_
  all_goals exact ⟨rfl, HB0.out.trans (hw2.out.mono HBZ.out)⟩
abbrev SapW (q : Nat) (c g s : Nat → Int) (w : World) : Prop := K4 q c w ∧ K8 (q + 1) g w ∧ K8 (q + 1 + 1) s w
set_option maxHeartbeats 4000000 in
theorem apply_W (n : Int) (s0 : Int) (k : Int) (wb : Nat) (fb : Nat) (c g : Nat → Int) (v : Int) (s : Nat → Int) (h0 : 0 ≤ n) (h1 : n < 4294967296) (c0 : 0 ≤ c 0) (c1 : c 0 ≤ 1000000) (w : World) (hF : FW n s0 k wb fb w) : Calls Try.prog 47 #[.pointer (some ⟨fb, 0, none⟩), .agg (cv c), .agg (sv g), .int .u32 v, .agg (sv s)] w fun e w' => e = .returned (.tuple #[.agg (sv (wyAp n c s).1), .bool (wyAp n c s).2, .int .i64 0]) ∧ Below w.heap.size w w' := by
  have HP : Hid (∀ W, Below w.heap.size w W → Calls Try.prog 34 #[.pointer (some ⟨fb, 0, none⟩)] W fun e w' => e = .returned (.iface 86 (.pointer (some ⟨wb, 0, none⟩))) ∧ w' = W) := fun W h => prog_W n s0 k wb fb W (hF.on h)
  have HS := hide (fun (W : World) (h : Below w.heap.size w W) => apply_wy wb n s0 k c g v s h0 h1 c0 c1 W (hF.on h).2.2)
  clear hF
  have hz : ((((w.alloc (.cells (cv c) 37)).alloc (.cells (sv g) 35)).alloc (.cells (sv s) 35)).alloc (.cells z8 35)).drew.heap.size = w.heap.size + 1 + 1 + 1 + 1 := by simp only [World.size_drew, World.size_alloc]
  have HZ := hide hz
  have hR : Hid (((((w.alloc (.cells (cv c) 37)).alloc (.cells (sv g) 35)).alloc (.cells (sv s) 35)).alloc (.cells z8 35)).drew.heap[w.heap.size + 1 + 1 + 1]? = some (.cells z8 35)) := by
    have h1 := at0 (((w.alloc (.cells (cv c) 37)).alloc (.cells (sv g) 35)).alloc (.cells (sv s) 35)) (.cells z8 35)
    simp only [World.size_alloc] at h1; exact h1
  have hS : Hid (SapW w.heap.size c g s ((((w.alloc (.cells (cv c) 37)).alloc (.cells (sv g) 35)).alloc (.cells (sv s) 35)).alloc (.cells z8 35)).drew) := by
    refine ⟨?_, ?_, ?_⟩
    · have h1 := keep (.cells z8 35) (keep (.cells (sv s) 35) (keep (.cells (sv g) 35) (at0 w (.cells (cv c) 37))))
      exact k4 (t := 37) h1
    · have h1 := keep (.cells z8 35) (keep (.cells (sv s) 35) (at0 (w.alloc (.cells (cv c) 37)) (.cells (sv g) 35)))
      simp only [World.size_alloc] at h1; exact k8 (t := 35) h1
    · have h1 := keep (.cells z8 35) (at0 ((w.alloc (.cells (cv c) 37)).alloc (.cells (sv g) 35)) (.cells (sv s) 35))
      simp only [World.size_alloc] at h1; exact k8 (t := 35) h1
  have HK : Hid (∀ W, Below ((((w.alloc (.cells (cv c) 37)).alloc (.cells (sv g) 35)).alloc (.cells (sv s) 35)).alloc (.cells z8 35)).drew.heap.size ((((w.alloc (.cells (cv c) 37)).alloc (.cells (sv g) 35)).alloc (.cells (sv s) 35)).alloc (.cells z8 35)).drew W → SapW w.heap.size c g s W) := fun W hB => ⟨K4.on hS.out.1 hB (by rw [HZ.out]; omega), K8.on hS.out.2.1 hB (by rw [HZ.out]; omega), K8.on hS.out.2.2 hB (by rw [HZ.out]; omega)⟩
  have HQ : Hid (∀ W, Below ((((w.alloc (.cells (cv c) 37)).alloc (.cells (sv g) 35)).alloc (.cells (sv s) 35)).alloc (.cells z8 35)).drew.heap.size ((((w.alloc (.cells (cv c) 37)).alloc (.cells (sv g) 35)).alloc (.cells (sv s) 35)).alloc (.cells z8 35)).drew W → W.heap[w.heap.size + 1 + 1 + 1]? = some (.cells z8 35)) := fun W hB => (hB.block _ (by rw [HZ.out]; omega)).trans hR.out
  have HW : Hid (∀ W, SapW w.heap.size c g s W → SapW w.heap.size c g s (W.setRow (w.heap.size + 1 + 1 + 1) (sv (wyAp n c s).1))) := fun W h => ⟨K4.row h.1 _ (by omega), K8.row h.2.1 _ (by omega), K8.row h.2.2 _ (by omega)⟩
  have HB0 : Hid (Below w.heap.size w ((((w.alloc (.cells (cv c) 37)).alloc (.cells (sv g) 35)).alloc (.cells (sv s) 35)).alloc (.cells z8 35)).drew) := by repeat first | exact Below.refl _ _ | refine belowD ?_ | refine belowN ?_ _ | refine bA ?_ (by first | exact Nat.le_refl _ | (simp only [World.size_alloc]; omega)) _
  have HBZ : Hid (w.heap.size ≤ ((((w.alloc (.cells (cv c) 37)).alloc (.cells (sv g) 35)).alloc (.cells (sv s) 35)).alloc (.cells z8 35)).drew.heap.size) := HB0.out.size
  clear hz
  go_enter Try.func47, Try.ntmps47
  go_wp2_with (fail)
  go_region_held3 (SapW w.heap.size c g s) ((first | with_reducible exact hS.out | with_reducible exact HK.out _ hw2.out | (rw [sets8 (HQ.out _ hw2.out) rfl]; exact HW.out _ (HK.out _ hw2.out)))) ((first | (go_at_call 34; refine (HP.out _ (by repeat first | exact Below.refl _ _ | refine belowD ?_ | refine belowN ?_ _ | refine bA ?_ (by first | exact Nat.le_refl _ | (simp only [World.size_alloc]; omega)) _)).mono ?_; rintro e1 w1 ⟨rfl, hw1⟩; subst w1) | (go_at_call 91; refine (HS.out _ (by repeat first | exact Below.refl _ _ | refine belowD ?_ | refine belowN ?_ _ | refine bA ?_ (by first | exact Nat.le_refl _ | (simp only [World.size_alloc]; omega)) _)).mono ?_; rintro e2 w2 ⟨rfl, hw2'⟩; have hw2 := hide hw2'; clear hw2'; have hk2 := k8 (c := fun _ => 0) (HQ.out _ hw2.out); have hf2 := f8 (HQ.out _ hw2.out))))
  all_goals go_wp2
  all_goals rw [sets8 (HQ.out _ hw2.out) rfl]
  all_goals (refine bodyPost_ret (v := .tuple #[.agg (sv (wyAp n c s).1), .bool (wyAp n c s).2, .int .i64 0]) ?_ rfl ⟨rfl, below_setRow (HB0.out.trans (hw2.out.mono HBZ.out)) (by omega) _⟩)
  all_goals simp only [results, Try.results47, asAddr]
  all_goals simp [run_loadVar_row _ _ 35 35 _ (0, 0) _ (setRow_heap _ _ _ ((sv (wyAp n c s).1)) 35 (0, 0) (HQ.out _ hw2.out)) Try.underlying35 rfl size35]
abbrev SfoW (q : Nat) (c g s : Nat → Int) (w : World) : Prop := K4 q c w ∧ K8 (q + 1) g w ∧ K8 (q + 1 + 1) s w
set_option maxHeartbeats 4000000 in
theorem fold_W (n : Int) (s0 : Int) (k : Int) (wb : Nat) (fb : Nat) (c g : Nat → Int) (v : Int) (s : Nat → Int) (g0 : 0 ≤ g 0) (g1 : g 0 ≤ 1000000) (w : World) (hF : FW n s0 k wb fb w) : Calls Try.prog 54 #[.pointer (some ⟨fb, 0, none⟩), .agg (cv c), .agg (sv g), .int .u32 v, .agg (sv s)] w fun e w' => e = .returned (.tuple #[.agg (sv (wyFo g s)), .int .i64 0]) ∧ Below w.heap.size w w' := by
  have HP : Hid (∀ W, Below w.heap.size w W → Calls Try.prog 34 #[.pointer (some ⟨fb, 0, none⟩)] W fun e w' => e = .returned (.iface 86 (.pointer (some ⟨wb, 0, none⟩))) ∧ w' = W) := fun W h => prog_W n s0 k wb fb W (hF.on h)
  have HS := hide (fun (W : World) (h : Below w.heap.size w W) => fold_wy wb c g v s g0 g1 W)
  clear hF
  have hz : ((((w.alloc (.cells (cv c) 37)).alloc (.cells (sv g) 35)).alloc (.cells (sv s) 35)).alloc (.cells z8 35)).drew.heap.size = w.heap.size + 1 + 1 + 1 + 1 := by simp only [World.size_drew, World.size_alloc]
  have HZ := hide hz
  have hR : Hid (((((w.alloc (.cells (cv c) 37)).alloc (.cells (sv g) 35)).alloc (.cells (sv s) 35)).alloc (.cells z8 35)).drew.heap[w.heap.size + 1 + 1 + 1]? = some (.cells z8 35)) := by
    have h1 := at0 (((w.alloc (.cells (cv c) 37)).alloc (.cells (sv g) 35)).alloc (.cells (sv s) 35)) (.cells z8 35)
    simp only [World.size_alloc] at h1; exact h1
  have hS : Hid (SfoW w.heap.size c g s ((((w.alloc (.cells (cv c) 37)).alloc (.cells (sv g) 35)).alloc (.cells (sv s) 35)).alloc (.cells z8 35)).drew) := by
    refine ⟨?_, ?_, ?_⟩
    · have h1 := keep (.cells z8 35) (keep (.cells (sv s) 35) (keep (.cells (sv g) 35) (at0 w (.cells (cv c) 37))))
      exact k4 (t := 37) h1
    · have h1 := keep (.cells z8 35) (keep (.cells (sv s) 35) (at0 (w.alloc (.cells (cv c) 37)) (.cells (sv g) 35)))
      simp only [World.size_alloc] at h1; exact k8 (t := 35) h1
    · have h1 := keep (.cells z8 35) (at0 ((w.alloc (.cells (cv c) 37)).alloc (.cells (sv g) 35)) (.cells (sv s) 35))
      simp only [World.size_alloc] at h1; exact k8 (t := 35) h1
  have HK : Hid (∀ W, Below ((((w.alloc (.cells (cv c) 37)).alloc (.cells (sv g) 35)).alloc (.cells (sv s) 35)).alloc (.cells z8 35)).drew.heap.size ((((w.alloc (.cells (cv c) 37)).alloc (.cells (sv g) 35)).alloc (.cells (sv s) 35)).alloc (.cells z8 35)).drew W → SfoW w.heap.size c g s W) := fun W hB => ⟨K4.on hS.out.1 hB (by rw [HZ.out]; omega), K8.on hS.out.2.1 hB (by rw [HZ.out]; omega), K8.on hS.out.2.2 hB (by rw [HZ.out]; omega)⟩
  have HQ : Hid (∀ W, Below ((((w.alloc (.cells (cv c) 37)).alloc (.cells (sv g) 35)).alloc (.cells (sv s) 35)).alloc (.cells z8 35)).drew.heap.size ((((w.alloc (.cells (cv c) 37)).alloc (.cells (sv g) 35)).alloc (.cells (sv s) 35)).alloc (.cells z8 35)).drew W → W.heap[w.heap.size + 1 + 1 + 1]? = some (.cells z8 35)) := fun W hB => (hB.block _ (by rw [HZ.out]; omega)).trans hR.out
  have HW : Hid (∀ W, SfoW w.heap.size c g s W → SfoW w.heap.size c g s (W.setRow (w.heap.size + 1 + 1 + 1) (sv (wyFo g s)))) := fun W h => ⟨K4.row h.1 _ (by omega), K8.row h.2.1 _ (by omega), K8.row h.2.2 _ (by omega)⟩
  have HB0 : Hid (Below w.heap.size w ((((w.alloc (.cells (cv c) 37)).alloc (.cells (sv g) 35)).alloc (.cells (sv s) 35)).alloc (.cells z8 35)).drew) := by repeat first | exact Below.refl _ _ | refine belowD ?_ | refine belowN ?_ _ | refine bA ?_ (by first | exact Nat.le_refl _ | (simp only [World.size_alloc]; omega)) _
  have HBZ : Hid (w.heap.size ≤ ((((w.alloc (.cells (cv c) 37)).alloc (.cells (sv g) 35)).alloc (.cells (sv s) 35)).alloc (.cells z8 35)).drew.heap.size) := HB0.out.size
  clear hz
  go_enter Try.func54, Try.ntmps54
  go_wp2_with (fail)
  go_region_held3 (SfoW w.heap.size c g s) ((first | with_reducible exact hS.out | with_reducible exact HK.out _ hw2.out | (rw [sets8 (HQ.out _ hw2.out) rfl]; exact HW.out _ (HK.out _ hw2.out)))) ((first | (go_at_call 34; refine (HP.out _ (by repeat first | exact Below.refl _ _ | refine belowD ?_ | refine belowN ?_ _ | refine bA ?_ (by first | exact Nat.le_refl _ | (simp only [World.size_alloc]; omega)) _)).mono ?_; rintro e1 w1 ⟨rfl, hw1⟩; subst w1) | (go_at_call 93; refine (HS.out _ (by repeat first | exact Below.refl _ _ | refine belowD ?_ | refine belowN ?_ _ | refine bA ?_ (by first | exact Nat.le_refl _ | (simp only [World.size_alloc]; omega)) _)).mono ?_; rintro e2 w2 ⟨rfl, hw2'⟩; have hw2 := hide hw2'; clear hw2'; have hk2 := k8 (c := fun _ => 0) (HQ.out _ hw2.out); have hf2 := f8 (HQ.out _ hw2.out))))
  all_goals go_wp2
  all_goals rw [sets8 (HQ.out _ hw2.out) rfl]
  all_goals (refine bodyPost_ret (v := .tuple #[.agg (sv (wyFo g s)), .int .i64 0]) ?_ rfl ⟨rfl, below_setRow (HB0.out.trans (hw2.out.mono HBZ.out)) (by omega) _⟩)
  all_goals simp only [results, Try.results54, asAddr]
  all_goals simp [run_loadVar_row _ _ 35 35 _ (0, 0) _ (setRow_heap _ _ _ ((sv (wyFo g s))) 35 (0, 0) (HQ.out _ hw2.out)) Try.underlying35 rfl size35]
theorem turnInfo : (Try.prog.info? 86).map (fun i => (i.methods.find? (·.name == "Turn")).map (fun m => (m.path.toList.map (fun s => (s.struct, s.index, s.deref)), m.func))) = some (some ([(123, 0, true)], some (81, false))) := by kernel_rfl
theorem fp0 (wb : Nat) (W : World) : (follow [⟨123, 0, true⟩] 86 (.val (.pointer (some ⟨wb, 0, none⟩)))).run Try.prog W = .ok (73, .var ⟨wb, 0, none⟩) W := by kernel_rfl
theorem rc0 (wb : Nat) (W : World) : (receiverAt 73 (.var ⟨wb, 0, none⟩) false none).run Try.prog W = (loadVar 73 ⟨wb, 0, none⟩).run Try.prog W := by kernel_rfl
theorem lv0 (wb : Nat) (n : Int) (W : World) (h : W.cell? ⟨wb, 0, none⟩ = some (.int .u32 n)) : (loadVar 73 ⟨wb, 0, none⟩).run Try.prog W = .ok (.agg #[.int .u32 n]) W := by
  go_simp
theorem turn_method (wb : Nat) (n : Int) (W : World) (h : W.cell? ⟨wb, 0, none⟩ = some (.int .u32 n)) : (method 265 86 (.pointer (some ⟨wb, 0, none⟩)) "Turn").run Try.prog W = .ok (81, .agg #[.int .u32 n]) W := by
  have ht := turnInfo
  have hv := lv0 wb n W h
  have hr0 := rc0 wb W
  have hf0 := fp0 wb W
  cases hi : Try.prog.info? 86 with
  | none => rw [hi] at ht; cases ht
  | some i =>
    rw [hi] at ht
    simp only [Option.map_some, Option.some.injEq] at ht
    cases hm : i.methods.find? (·.name == "Turn") with
    | none => rw [hm] at ht; cases ht
    | some m =>
      rw [hm] at ht
      simp only [Option.map_some, Option.some.injEq, Prod.mk.injEq] at ht
      obtain ⟨hp, hf⟩ := ht
      have hl : m.path.toList = [⟨123, 0, true⟩] := by
        cases hq : m.path.toList with
        | nil => rw [hq] at hp; cases hp
        | cons s r =>
          rw [hq] at hp
          cases r with
          | nil =>
            simp only [List.map_cons, List.map_nil, List.cons.injEq, Prod.mk.injEq, and_true] at hp
            obtain ⟨h1, h2, h3⟩ := hp
            cases s
            simp only at h1 h2 h3
            subst h1 h2 h3
            rfl
          | cons a b => simp at hp
      have he : ¬ m.path = #[] := fun e => by rw [e] at hl; cases hl
      unfold method
      simp [typeInfo, hi, hm, hf, hl, he, hf0, hr0, hv, Result.andThen]
abbrev StuW (q : Nat) (c g : Nat → Int) (w : World) : Prop := K4 q c w ∧ K8 (q + 1) g w
set_option maxHeartbeats 4000000 in
theorem turn_W (n : Int) (s0 : Int) (k : Int) (wb : Nat) (fb : Nat) (c g : Nat → Int) (ch r : Int) (h0 : 0 ≤ n) (h1 : n < 4294967296) (h2 : 0 ≤ r) (h3 : r ≤ 1000000) (w : World) (hF : FW n s0 k wb fb w) : Calls Try.prog 48 #[.pointer (some ⟨fb, 0, none⟩), .agg (cv c), .agg (sv g), .int .u64 ch, .int .i64 r] w fun e w' => e = .returned (.tuple #[.agg (cv (ctlN c r)), .bool (ch == 0 || decide (n ≤ c 0)), .int .i64 0]) ∧ Below w.heap.size w w' := by
  have HP : Hid (∀ W, Below w.heap.size w W → Calls Try.prog 34 #[.pointer (some ⟨fb, 0, none⟩)] W fun e w' => e = .returned (.iface 86 (.pointer (some ⟨wb, 0, none⟩))) ∧ w' = W) := fun W h => prog_W n s0 k wb fb W (hF.on h)
  have HS := hide (fun (W : World) (h : Below w.heap.size w W) => turn_pace n c g ch r h0 h1 h2 h3 W)
  have hcw : (((w.alloc (.cells (cv c) 37)).alloc (.cells (sv g) 35)).alloc (.cells z4 37)).drew.cell? ⟨wb, 0, none⟩ = some (.int .u32 n) := (hF.2.2.on (by repeat first | exact Below.refl _ _ | refine belowD ?_ | refine belowN ?_ _ | refine bA ?_ (by first | exact Nat.le_refl _ | (simp only [World.size_alloc]; omega)) _)).w5.1
  have hmt := turn_method wb n _ hcw
  clear hF
  have hz : (((w.alloc (.cells (cv c) 37)).alloc (.cells (sv g) 35)).alloc (.cells z4 37)).drew.heap.size = w.heap.size + 1 + 1 + 1 := by simp only [World.size_drew, World.size_alloc]
  have HZ := hide hz
  have hR : Hid ((((w.alloc (.cells (cv c) 37)).alloc (.cells (sv g) 35)).alloc (.cells z4 37)).drew.heap[w.heap.size + 1 + 1]? = some (.cells z4 37)) := by
    have h1 := at0 ((w.alloc (.cells (cv c) 37)).alloc (.cells (sv g) 35)) (.cells z4 37)
    simp only [World.size_alloc] at h1; exact h1
  have hS : Hid (StuW w.heap.size c g (((w.alloc (.cells (cv c) 37)).alloc (.cells (sv g) 35)).alloc (.cells z4 37)).drew) := by
    refine ⟨?_, ?_⟩
    · have h1 := keep (.cells z4 37) (keep (.cells (sv g) 35) (at0 w (.cells (cv c) 37)))
      exact k4 (t := 37) h1
    · have h1 := keep (.cells z4 37) (at0 (w.alloc (.cells (cv c) 37)) (.cells (sv g) 35))
      simp only [World.size_alloc] at h1; exact k8 (t := 35) h1
  have HK : Hid (∀ W, Below (((w.alloc (.cells (cv c) 37)).alloc (.cells (sv g) 35)).alloc (.cells z4 37)).drew.heap.size (((w.alloc (.cells (cv c) 37)).alloc (.cells (sv g) 35)).alloc (.cells z4 37)).drew W → StuW w.heap.size c g W) := fun W hB => ⟨K4.on hS.out.1 hB (by rw [HZ.out]; omega), K8.on hS.out.2 hB (by rw [HZ.out]; omega)⟩
  have HQ : Hid (∀ W, Below (((w.alloc (.cells (cv c) 37)).alloc (.cells (sv g) 35)).alloc (.cells z4 37)).drew.heap.size (((w.alloc (.cells (cv c) 37)).alloc (.cells (sv g) 35)).alloc (.cells z4 37)).drew W → W.heap[w.heap.size + 1 + 1]? = some (.cells z4 37)) := fun W hB => (hB.block _ (by rw [HZ.out]; omega)).trans hR.out
  have HW : Hid (∀ W, StuW w.heap.size c g W → StuW w.heap.size c g (W.setRow (w.heap.size + 1 + 1) (cv (ctlN c r)))) := fun W h => ⟨K4.row h.1 _ (by omega), K8.row h.2 _ (by omega)⟩
  have HB0 : Hid (Below w.heap.size w (((w.alloc (.cells (cv c) 37)).alloc (.cells (sv g) 35)).alloc (.cells z4 37)).drew) := by repeat first | exact Below.refl _ _ | refine belowD ?_ | refine belowN ?_ _ | refine bA ?_ (by first | exact Nat.le_refl _ | (simp only [World.size_alloc]; omega)) _
  have HBZ : Hid (w.heap.size ≤ (((w.alloc (.cells (cv c) 37)).alloc (.cells (sv g) 35)).alloc (.cells z4 37)).drew.heap.size) := HB0.out.size
  clear hz
  go_enter Try.func48, Try.ntmps48
  go_wp2_with (fail)
  go_region_held3 (StuW w.heap.size c g) ((first | with_reducible exact hS.out | with_reducible exact HK.out _ hw2.out | (rw [sets4 (HQ.out _ hw2.out) rfl]; exact HW.out _ (HK.out _ hw2.out)))) ((first | (go_at_call 34; refine (HP.out _ (by repeat first | exact Below.refl _ _ | refine belowD ?_ | refine belowN ?_ _ | refine bA ?_ (by first | exact Nat.le_refl _ | (simp only [World.size_alloc]; omega)) _)).mono ?_; rintro e1 w1 ⟨rfl, hw1⟩; subst w1) | (go_at_call 81; refine (HS.out _ (by repeat first | exact Below.refl _ _ | refine belowD ?_ | refine belowN ?_ _ | refine bA ?_ (by first | exact Nat.le_refl _ | (simp only [World.size_alloc]; omega)) _)).mono ?_; rintro e2 w2 ⟨rfl, hw2'⟩; have hw2 := hide hw2'; clear hw2'; have hk2 := k4 (c := fun _ => 0) (HQ.out _ hw2.out); have hf2 := f4 (HQ.out _ hw2.out))))
  all_goals go_wp2
  all_goals rw [sets4 (HQ.out _ hw2.out) rfl]
  all_goals (refine bodyPost_ret (v := .tuple #[.agg (cv (ctlN c r)), .bool (ch == 0 || decide (n ≤ c 0)), .int .i64 0]) ?_ rfl ⟨rfl, below_setRow (HB0.out.trans (hw2.out.mono HBZ.out)) (by omega) _⟩)
  all_goals simp only [results, Try.results48, asAddr]
  all_goals simp [run_loadVar_row _ _ 37 37 _ (0, 0) _ (setRow_heap _ _ _ ((cv (ctlN c r))) 37 (0, 0) (HQ.out _ hw2.out)) Try.underlying37 rfl size37]
end Wp
end Go.Proofs.Ytlhpnhjfibkgpaa
