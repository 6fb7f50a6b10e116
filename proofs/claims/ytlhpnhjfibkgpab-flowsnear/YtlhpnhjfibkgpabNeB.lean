import Derived.Test.YtlhpnhjfibkgpabNeA
namespace Go.Proofs.Ytlhpnhjfibkgpab
namespace Wp
open Go.RowKit
set_option linter.unusedVariables false
set_option maxRecDepth 8000
def brSc (c s : Nat → Int) (x : Int) (k : Bool) : Int × Bool := if k = false ∧ s 0 = c 0 then (x, true) else (0, false)
set_option maxHeartbeats 2000000 in
theorem send_br (n : Int) (qb ql q : Nat) (c s : Nat → Int) (x : Int) (k : Bool) (w : World) : Calls Try.prog 73 #[.agg (bv n qb ql q), .agg (cv c), .agg (sv s), .int .u64 x, .bool k] w fun e w' => e = .returned (.tuple #[.int .u64 (brSc c s x k).1, .int .u64 0, .bool (brSc c s x k).2, .int .i64 0]) ∧ Below w.heap.size w w' := by
  have HN := hide (news_pace n c (s 0))
  cases k with
  | true =>
    have hE : Hid (brSc c s x true = (0, false)) := by show _ = _; unfold brSc; rw [if_neg (by simp)]
    rw [hE.out]
    go_enter Try.func73, Try.ntmps73
    go_wp2
    all_goals refine bodyPost_ret (results_tmp4 rfl _ _ _) rfl ?_
    all_goals exact ⟨rfl, by repeat first | exact Below.refl _ _ | refine belowD ?_ | refine belowN ?_ _ | refine bA ?_ (by first | exact Nat.le_refl _ | (simp only [World.size_alloc]; omega)) _⟩
  | false =>
    by_cases h : s 0 = c 0
    · have hb : (s 0 == c 0) = true := by simp [h]
      have hE : Hid (brSc c s x false = (x, true)) := by show _ = _; unfold brSc; rw [if_pos ⟨rfl, h⟩]
      clear h
      rw [hE.out]
      go_enter Try.func73, Try.ntmps73
      go_wp2_with (fail)
      refine (HN.out _).mono ?_
      rintro e1 w1 ⟨rfl, hw1⟩
      subst w1
      go_wp2
      all_goals refine bodyPost_ret (results_tmp4 rfl _ _ _) rfl ?_
      all_goals exact ⟨rfl, by repeat first | exact Below.refl _ _ | refine belowD ?_ | refine belowN ?_ _ | refine bA ?_ (by first | exact Nat.le_refl _ | (simp only [World.size_alloc]; omega)) _⟩
    · have hb : (s 0 == c 0) = false := by simp [h]
      have hE : Hid (brSc c s x false = (0, false)) := by show _ = _; unfold brSc; rw [if_neg (fun k => h k.2)]
      clear h
      rw [hE.out]
      go_enter Try.func73, Try.ntmps73
      go_wp2_with (fail)
      refine (HN.out _).mono ?_
      rintro e1 w1 ⟨rfl, hw1⟩
      subst w1
      go_wp2
      all_goals refine bodyPost_ret (results_tmp4 rfl _ _ _) rfl ?_
      all_goals exact ⟨rfl, by repeat first | exact Below.refl _ _ | refine belowD ?_ | refine belowN ?_ _ | refine bA ?_ (by first | exact Nat.le_refl _ | (simp only [World.size_alloc]; omega)) _⟩
set_option maxHeartbeats 2000000 in
theorem scatter_br (n : Int) (qb ql q : Nat) (c s : Nat → Int) (x y z : Int) (k : Bool) (h0 : 0 ≤ x) (h1 : x < 4294967296) (w : World) : Calls Try.prog 72 #[.agg (bv n qb ql q), .agg (cv c), .agg (sv s), .agg (ev x y z), .bool k] w fun e w' => e = .returned (.tuple #[.int .u64 (brSc c s (s 1) k).1, .int .u64 0, .bool (brSc c s (s 1) k).2, .int .i64 0]) ∧ Below w.heap.size w w' := by
  have HS := hide (send_br n qb ql q c s (s 1) k)
  have hv : IntKind.u64.wrap x = x := wu x h0 (by omega)
  have HX : Hid (Below w.heap.size w ((((w.alloc (.cells (bv n qb ql q) 61)).alloc (.cells (cv c) 38)).alloc (.cells (sv s) 36)).alloc (.cells (ev x y z) 53))) := by repeat first | exact Below.refl _ _ | refine bA ?_ (by first | exact Nat.le_refl _ | (simp only [World.size_alloc]; omega)) _
  generalize brSc c s (s 1) k = r at *
  go_enter Try.func72, Try.ntmps72
  go_wp2_with (fail)
  refine (HS.out _).mono ?_
  rintro e1 w1 ⟨rfl, hw1⟩
  have HW1 := hide hw1
  clear hw1
  go_wp2
  all_goals refine bodyPost_ret (results_tmp4 rfl _ _ _) rfl ?_
  all_goals exact ⟨rfl, HX.out.trans (HW1.out.mono HX.out.size)⟩
def brAp (c s : Nat → Int) : (Nat → Int) × Bool := if s 0 = 18446744073709551615 ∧ s 2 ≠ 18446744073709551615 then (up (up s 0 (c 0 + 1)) 1 (s 2), true) else (s, false)
set_option maxHeartbeats 4000000 in
theorem apply_br (n : Int) (qb ql q : Nat) (c g : Nat → Int) (v : Int) (s : Nat → Int) (h0 : 0 ≤ c 0) (h1 : c 0 ≤ 1000000) (w : World) : Calls Try.prog 63 #[.agg (bv n qb ql q), .agg (cv c), .agg (sv g), .int .u32 v, .agg (sv s)] w fun e w' => e = .returned (.tuple #[.agg (sv (brAp c s).1), .bool (brAp c s).2, .int .i64 0]) ∧ Below w.heap.size w w' := by
  have HR := hide (round_pace n c h0 h1)
  by_cases ha : s 0 = 18446744073709551615
  · have hba : (s 0 == 18446744073709551615) = true := by simp [ha]
    by_cases hz : s 2 = 18446744073709551615
    · have hbz : (s 2 != 18446744073709551615) = false := by simp [hz]
      have hE : Hid (brAp c s = (s, false)) := by show _ = _; unfold brAp; rw [if_neg (fun k => k.2 hz)]
      rw [hE.out]
      clear ha hz
      go_enter Try.func63, Try.ntmps63
      go_wp2
      all_goals (refine bodyPost_ret (v := .tuple #[.agg (sv s), .bool false, .int .i64 0]) ?_ rfl ⟨rfl, by repeat first | exact Below.refl _ _ | refine belowD ?_ | refine belowN ?_ _ | refine bA ?_ (by first | exact Nat.le_refl _ | (simp only [World.size_alloc]; omega)) _⟩)
      all_goals simp only [results, Try.results63, asAddr]
      all_goals go_simp
    · have hbz : (s 2 != 18446744073709551615) = true := by simp [hz]
      have hE : Hid (brAp c s = (up (up s 0 (c 0 + 1)) 1 (s 2), true)) := by show _ = _; unfold brAp; rw [if_pos ⟨ha, hz⟩]
      have hE2 : Hid (sv (up (up s 0 (c 0 + 1)) 1 (s 2)) = #[.int .u64 (c 0 + 1), .int .u64 (s 2), .int .u64 (s 2), .int .u64 (s 3), .int .u64 (s 4), .int .u64 (s 5), .int .u64 (s 6), .int .u64 (s 7)]) := by show _ = _; simp [up]
      rw [hE.out]
      clear ha hz
      go_enter Try.func63, Try.ntmps63
      go_wp2_with (fail)
      go_region_with (first | (go_at_call 69; refine (HR.out _).mono ?_; rintro e1 w1 ⟨rfl, hw1⟩; subst w1))
      all_goals go_wp2
      all_goals (refine bodyPost_ret (v := .tuple #[.agg (sv (up (up s 0 (c 0 + 1)) 1 (s 2))), .bool true, .int .i64 0]) ?_ rfl ⟨rfl, by repeat first | exact Below.refl _ _ | refine belowD ?_ | refine belowN ?_ _ | refine bA ?_ (by first | exact Nat.le_refl _ | (simp only [World.size_alloc]; omega)) _⟩)
      all_goals simp only [results, Try.results63, asAddr, hE2.out]
      all_goals go_simp
  · have hba : (s 0 == 18446744073709551615) = false := by simp [ha]
    have hE : Hid (brAp c s = (s, false)) := by show _ = _; unfold brAp; rw [if_neg (fun k => ha k.1)]
    rw [hE.out]
    clear ha
    go_enter Try.func63, Try.ntmps63
    go_wp2
    all_goals (refine bodyPost_ret (v := .tuple #[.agg (sv s), .bool false, .int .i64 0]) ?_ rfl ⟨rfl, by repeat first | exact Below.refl _ _ | refine belowD ?_ | refine belowN ?_ _ | refine bA ?_ (by first | exact Nat.le_refl _ | (simp only [World.size_alloc]; omega)) _⟩)
    all_goals simp only [results, Try.results63, asAddr]
    all_goals go_simp
def brFo (g s : Nat → Int) : Nat → Int := if s 0 = 18446744073709551615 then g else up (up g 0 (g 0 + 1)) 1 (max (g 1) (s 0))
set_option maxHeartbeats 2000000 in
theorem fold_br (n : Int) (qb ql q : Nat) (c g : Nat → Int) (v : Int) (s : Nat → Int) (g0 : 0 ≤ g 0) (g1 : g 0 ≤ 1000000) (w : World) : Calls Try.prog 65 #[.agg (bv n qb ql q), .agg (cv c), .agg (sv g), .int .u32 v, .agg (sv s)] w fun e w' => e = .returned (.tuple #[.agg (sv (brFo g s)), .int .i64 0]) ∧ Below w.heap.size w w' := by
  have hg : IntKind.u64.wrap (g 0 + 1) = g 0 + 1 := wu _ (by omega) (by omega)
  by_cases h : s 0 = 18446744073709551615
  · have hb : (s 0 != 18446744073709551615) = false := by simp [h]
    have hE : Hid (brFo g s = g) := by show _ = _; unfold brFo; rw [if_pos h]
    clear h
    rw [hE.out]
    go_enter Try.func65, Try.ntmps65
    go_wp2
    all_goals (refine bodyPost_ret (v := .tuple #[.agg (sv g), .int .i64 0]) ?_ rfl ⟨rfl, by repeat first | exact Below.refl _ _ | refine belowD ?_ | refine belowN ?_ _ | refine bA ?_ (by first | exact Nat.le_refl _ | (simp only [World.size_alloc]; omega)) _⟩)
    all_goals simp only [results, Try.results65, asAddr]
    all_goals go_simp
  · have hb : (s 0 != 18446744073709551615) = true := by simp [h]
    have hE : Hid (brFo g s = up (up g 0 (g 0 + 1)) 1 (max (g 1) (s 0))) := by show _ = _; unfold brFo; rw [if_neg h]
    have hE2 : Hid (sv (up (up g 0 (g 0 + 1)) 1 (max (g 1) (s 0))) = #[.int .u64 (g 0 + 1), .int .u64 (max (g 1) (s 0)), .int .u64 (g 2), .int .u64 (g 3), .int .u64 (g 4), .int .u64 (g 5), .int .u64 (g 6), .int .u64 (g 7)]) := by show _ = _; simp [up]
    clear h
    rw [hE.out]
    go_enter Try.func65, Try.ntmps65
    go_wp2
    all_goals (refine bodyPost_ret (v := .tuple #[.agg (sv (up (up g 0 (g 0 + 1)) 1 (max (g 1) (s 0)))), .int .i64 0]) ?_ rfl ⟨rfl, by repeat first | exact Below.refl _ _ | refine belowD ?_ | refine belowN ?_ _ | refine bA ?_ (by first | exact Nat.le_refl _ | (simp only [World.size_alloc]; omega)) _⟩)
    all_goals simp only [results, Try.results65, asAddr, hE2.out]
    all_goals go_simp
    all_goals omega
end Wp
end Go.Proofs.Ytlhpnhjfibkgpab
