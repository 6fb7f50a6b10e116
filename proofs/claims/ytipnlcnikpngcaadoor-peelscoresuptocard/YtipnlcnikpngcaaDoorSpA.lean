import Derived.Test.YtipnlcnikpngcaaDoorPeP
namespace Go.Proofs.YtipnlcnikpngcaaDoor
namespace Wp
open Go.RowKit
set_option linter.unusedVariables false
set_option maxRecDepth 8000
abbrev all64 : Int := 18446744073709551615
def w5 (a b c d e : Int) : Nat → Int := fun i => match i with | 0 => a | 1 => b | 2 => c | 3 => d | 4 => e | _ => 0
theorem sv_w5 (a b c d e : Int) : sv (w5 a b c d e) = #[.int .u64 a, .int .u64 b, .int .u64 c, .int .u64 d, .int .u64 e, .int .u64 0, .int .u64 0, .int .u64 0] := rfl
/-- A vertex's place in the order. -/
def pr (N A C v : Nat) : Nat := (A * v + C) % N
set_option maxHeartbeats 2000000 in
theorem prio_at (N A C v : Nat) (h : v < N) (hN : N ≤ 2147483647) (hA : A < N) (hC : C < N) (w : World) : Calls Tryd.prog 79 #[.agg (rk N A C), .int .u32 (v : Int)] w fun e w' => e = .returned (.tuple #[.int .u64 ((pr N A C v : Nat) : Int), .int .i64 0]) ∧ w' = w.alloc (.cells (rk N A C) 55) := by
  have h1 : ¬ (N : Int) = 0 := by omega
  have h2 : ((N : Int) == 0) = false := by simp; omega
  unfold pr
  obtain ⟨q, hq⟩ : ∃ q : Nat, A * v = q := ⟨_, rfl⟩
  have hq2 : q ≤ 2147483647 * 2147483647 := by rw [← hq]; exact Nat.mul_le_mul (by omega) (by omega)
  have hq3 : (A : Int) * (v : Int) = (q : Int) := by rw [← hq]; push_cast; rfl
  rw [hq]
  clear hq
  go_enter Tryd.func79, Tryd.ntmps79
  go_wp2
  all_goals go_ret2
  all_goals exact ⟨rfl, rfl⟩
set_option maxHeartbeats 1000000 in
theorem teller_any (x y z : Int) (k : Bool) (w : World) : Calls Tryd.prog 83 #[.agg (ev x y z), .bool k] w fun e w' => e = .returned (.int .u32 (if k = true then y else x)) ∧ w' = w.alloc (.cells (ev x y z) 52) := by
  cases k
  · go_enter Tryd.func83, Tryd.ntmps83
    go_wp2
    all_goals go_ret
    all_goals exact ⟨rfl, rfl⟩
  · go_enter Tryd.func83, Tryd.ntmps83
    go_wp2
    all_goals go_ret
    all_goals exact ⟨rfl, rfl⟩
set_option maxHeartbeats 1000000 in
theorem ssink (N A C : Int) (w : World) : Calls Tryd.prog 76 #[.agg (rk N A C)] w fun e w' => e = .returned (.agg (kv 2 1 3 7)) ∧ Below w.heap.size w w' := by
  go_enter Tryd.func76, Tryd.ntmps76
  go_wp2
  refine bodyPost_ret (v := .agg (kv 2 1 3 7)) ?_ rfl ⟨rfl, by repeat first | exact Below.refl _ _ | refine belowD ?_ | refine belowN ?_ _ | refine bA ?_ (by first | exact Nat.le_refl _ | (simp only [World.size_alloc]; omega)) _⟩
  simp only [results, Tryd.results76, asAddr]
  go_simp
def setSt : Nat → Int := w5 0 0 all64 0 0
set_option maxHeartbeats 2000000 in
theorem sstart (N A C v : Nat) (a b : Int) (h : v < N) (hN : N ≤ 2147483647) (hA : A < N) (hC : C < N) (w : World) : Calls Tryd.prog 77 #[.agg (rk N A C), .int .u32 (v : Int), .agg #[.int .u64 a, .int .u64 b]] w fun e w' => e = .returned (.tuple #[.agg (sv setSt), .int .i64 0]) ∧ Below w.heap.size w w' := by
  have HP := hide (prio_at N A C v h hN hA hC)
  generalize pr N A C v = q at HP
  clear h hN hA hC
  go_enter Tryd.func77, Tryd.ntmps77
  go_wp2_with (fail)
  refine (HP.out _).mono ?_
  rintro e1 w1 ⟨rfl, hw1⟩
  subst w1
  go_wp2
  refine bodyPost_ret (v := .tuple #[.agg (sv setSt), .int .i64 0]) ?_ rfl ⟨rfl, by repeat first | exact Below.refl _ _ | refine belowD ?_ | refine belowN ?_ _ | refine bA ?_ (by first | exact Nat.le_refl _ | (simp only [World.size_alloc]; omega)) _⟩
  simp only [results, Tryd.results77, asAddr]
  go_simp
  simp [setSt, w5]
/-- The aggregate with one more that waits. -/
def setFo (g s : Nat → Int) : Nat → Int := if s 1 = 0 then up g 0 (IntKind.u64.wrap (g 0 + 1)) else g
set_option maxHeartbeats 2000000 in
theorem sfold (N A C : Int) (g s : Nat → Int) (w : World) : Calls Tryd.prog 75 #[.agg (rk N A C), .agg (sv g), .agg (sv s)] w fun e w' => e = .returned (.tuple #[.agg (sv (setFo g s)), .int .i64 0]) ∧ Below w.heap.size w w' := by
  by_cases h : s 1 = 0
  · obtain ⟨x, hx⟩ : ∃ x, IntKind.u64.wrap (g 0 + 1) = x := ⟨_, rfl⟩
    have hE : Hid (sv (setFo g s) = #[.int .u64 x, .int .u64 (g 1), .int .u64 (g 2), .int .u64 (g 3), .int .u64 (g 4), .int .u64 (g 5), .int .u64 (g 6), .int .u64 (g 7)]) := by show _ = _; unfold setFo; rw [if_pos h, hx]; rfl
    have hb : (s 1 == 0) = true := by simp [h]
    clear h
    go_enter Tryd.func75, Tryd.ntmps75
    go_wp2
    refine bodyPost_ret (v := .tuple #[.agg (sv (setFo g s)), .int .i64 0]) ?_ rfl ⟨rfl, by repeat first | exact Below.refl _ _ | refine belowD ?_ | refine belowN ?_ _ | refine bA ?_ (by first | exact Nat.le_refl _ | (simp only [World.size_alloc]; omega)) _⟩
    simp only [results, Tryd.results75, asAddr, hE.out]
    go_simp
    try (rw [← hx])
    try rfl
  · have hE : Hid (sv (setFo g s) = sv g) := by show _ = _; unfold setFo; rw [if_neg h]
    have hb : (s 1 == 0) = false := by simp [h]
    clear h
    go_enter Tryd.func75, Tryd.ntmps75
    go_wp2
    refine bodyPost_ret (v := .tuple #[.agg (sv (setFo g s)), .int .i64 0]) ?_ rfl ⟨rfl, by repeat first | exact Below.refl _ _ | refine belowD ?_ | refine belowN ?_ _ | refine bA ?_ (by first | exact Nat.le_refl _ | (simp only [World.size_alloc]; omega)) _⟩
    simp only [results, Tryd.results75, asAddr, hE.out]
    go_simp
set_option maxHeartbeats 2000000 in
theorem sturn (N A C : Int) (c g : Nat → Int) (w : World) : Calls Tryd.prog 78 #[.agg (rk N A C), .agg (cv c), .agg (sv g)] w fun e w' => e = .returned (.tuple #[.agg (cv c), .bool (g 0 == 0), .int .i64 0]) ∧ Below w.heap.size w w' := by
  go_enter Tryd.func78, Tryd.ntmps78
  go_wp2
  go_region
  all_goals go_wp2
  all_goals refine bodyPost_ret (v := .tuple #[.agg (cv c), .bool (g 0 == 0), .int .i64 0]) ?_ rfl ⟨rfl, by repeat first | exact Below.refl _ _ | refine belowD ?_ | refine belowN ?_ _ | refine bA ?_ (by first | exact Nat.le_refl _ | (simp only [World.size_alloc]; omega)) _⟩
  all_goals simp only [results, Tryd.results78, asAddr]
  all_goals go_simp
end Wp
end Go.Proofs.YtipnlcnikpngcaaDoor
