import Derived.Test.YtlhpnhjfibkgpaaWpB
namespace Go.Proofs.Ytlhpnhjfibkgpaa
namespace Wp
open Go.RowKit
set_option linter.unusedVariables false
set_option maxRecDepth 8000
def labSc (c s : Nat → Int) : Int × Bool := if s 1 = c 0 then (s 0, true) else (0, false)
set_option maxHeartbeats 2000000 in
theorem scatter_lab (n : Int) (c s : Nat → Int) (x y z : Int) (k : Bool) (w : World) : Calls Try.prog 86 #[.agg #[.int .u32 n], .agg (cv c), .agg (sv s), .agg (ev x y z), .bool k] w fun e w' => e = .returned (.tuple #[.int .u64 (labSc c s).1, .int .u64 0, .bool (labSc c s).2, .int .i64 0]) ∧ Below w.heap.size w w' := by
  have HN := hide (news_pace n c (s 1))
  by_cases h : s 1 = c 0
  · have hb : (s 1 == c 0) = true := by simp [h]
    have hE : Hid (labSc c s = (s 0, true)) := by show _ = _; unfold labSc; rw [if_pos h]
    clear h
    rw [hE.out]
    go_enter Try.func86, Try.ntmps86
    go_wp2_with (fail)
    refine (HN.out _).mono ?_
    rintro e1 w1 ⟨rfl, hw1⟩
    subst w1
    go_wp2
    all_goals refine bodyPost_ret (results_tmp4 rfl _ _ _) rfl ?_
    all_goals exact ⟨rfl, by repeat first | exact Below.refl _ _ | refine belowD ?_ | refine belowN ?_ _ | refine bA ?_ (by first | exact Nat.le_refl _ | (simp only [World.size_alloc]; omega)) _⟩
  · have hb : (s 1 == c 0) = false := by simp [h]
    have hE : Hid (labSc c s = (0, false)) := by show _ = _; unfold labSc; rw [if_neg h]
    clear h
    rw [hE.out]
    go_enter Try.func86, Try.ntmps86
    go_wp2_with (fail)
    refine (HN.out _).mono ?_
    rintro e1 w1 ⟨rfl, hw1⟩
    subst w1
    go_wp2
    all_goals refine bodyPost_ret (results_tmp4 rfl _ _ _) rfl ?_
    all_goals exact ⟨rfl, by repeat first | exact Below.refl _ _ | refine belowD ?_ | refine belowN ?_ _ | refine bA ?_ (by first | exact Nat.le_refl _ | (simp only [World.size_alloc]; omega)) _⟩
def labAp (c s : Nat → Int) : (Nat → Int) × Bool := if s 2 < s 0 then (up (up s 0 (s 2)) 1 (c 0 + 1), true) else (s, false)
set_option maxHeartbeats 2000000 in
theorem apply_lab (n : Int) (c g : Nat → Int) (v : Int) (s : Nat → Int) (h0 : 0 ≤ c 0) (h1 : c 0 ≤ 1000000) (w : World) : Calls Try.prog 83 #[.agg #[.int .u32 n], .agg (cv c), .agg (sv g), .int .u32 v, .agg (sv s)] w fun e w' => e = .returned (.tuple #[.agg (sv (labAp c s).1), .bool (labAp c s).2, .int .i64 0]) ∧ Below w.heap.size w w' := by
  have HR := hide (round_pace n c h0 h1)
  by_cases h : s 2 < s 0
  · have hE : Hid (labAp c s = (up (up s 0 (s 2)) 1 (c 0 + 1), true)) := by show _ = _; unfold labAp; rw [if_pos h]
    have hE2 : Hid (sv (up (up s 0 (s 2)) 1 (c 0 + 1)) = #[.int .u64 (s 2), .int .u64 (c 0 + 1), .int .u64 (s 2), .int .u64 (s 3), .int .u64 (s 4), .int .u64 (s 5), .int .u64 (s 6), .int .u64 (s 7)]) := by show _ = _; simp [up]
    rw [hE.out]
    go_enter Try.func83, Try.ntmps83
    go_wp2_with (fail)
    go_region_with (first | (go_at_call 56; refine (HR.out _).mono ?_; rintro e1 w1 ⟨rfl, hw1⟩; subst w1))
    all_goals go_wp2
    all_goals (refine bodyPost_ret (v := .tuple #[.agg (sv (up (up s 0 (s 2)) 1 (c 0 + 1))), .bool true, .int .i64 0]) ?_ rfl ⟨rfl, by repeat first | exact Below.refl _ _ | refine belowD ?_ | refine belowN ?_ _ | refine bA ?_ (by first | exact Nat.le_refl _ | (simp only [World.size_alloc]; omega)) _⟩)
    all_goals simp only [results, Try.results83, asAddr, hE2.out]
    all_goals go_simp
  · have hE : Hid (labAp c s = (s, false)) := by show _ = _; unfold labAp; rw [if_neg h]
    rw [hE.out]
    go_enter Try.func83, Try.ntmps83
    go_wp2
    all_goals (refine bodyPost_ret (v := .tuple #[.agg (sv s), .bool false, .int .i64 0]) ?_ rfl ⟨rfl, by repeat first | exact Below.refl _ _ | refine belowD ?_ | refine belowN ?_ _ | refine bA ?_ (by first | exact Nat.le_refl _ | (simp only [World.size_alloc]; omega)) _⟩)
    all_goals simp only [results, Try.results83, asAddr]
    all_goals go_simp
def labFo (g : Nat → Int) (v : Int) (s : Nat → Int) : Nat → Int := if s 0 = v then up g 0 (g 0 + 1) else g
set_option maxHeartbeats 2000000 in
theorem fold_lab (n : Int) (c g : Nat → Int) (v : Int) (s : Nat → Int) (h0 : 0 ≤ v) (h1 : v < 4294967296) (g0 : 0 ≤ g 0) (g1 : g 0 ≤ 1000000) (w : World) : Calls Try.prog 85 #[.agg #[.int .u32 n], .agg (cv c), .agg (sv g), .int .u32 v, .agg (sv s)] w fun e w' => e = .returned (.tuple #[.agg (sv (labFo g v s)), .int .i64 0]) ∧ Below w.heap.size w w' := by
  have hv : IntKind.u64.wrap v = v := wu v h0 (by omega)
  have hg : IntKind.u64.wrap (g 0 + 1) = g 0 + 1 := wu _ (by omega) (by omega)
  by_cases h : s 0 = v
  · have hE : Hid (labFo g v s = up g 0 (g 0 + 1)) := by show _ = _; unfold labFo; rw [if_pos h]
    have hb : (s 0 == v) = true := by simp [h]
    have hE2 : Hid (sv (up g 0 (g 0 + 1)) = #[.int .u64 (g 0 + 1), .int .u64 (g 1), .int .u64 (g 2), .int .u64 (g 3), .int .u64 (g 4), .int .u64 (g 5), .int .u64 (g 6), .int .u64 (g 7)]) := by show _ = _; simp [up]
    clear h
    rw [hE.out]
    go_enter Try.func85, Try.ntmps85
    go_wp2
    all_goals (refine bodyPost_ret (v := .tuple #[.agg (sv (up g 0 (g 0 + 1))), .int .i64 0]) ?_ rfl ⟨rfl, by repeat first | exact Below.refl _ _ | refine belowD ?_ | refine belowN ?_ _ | refine bA ?_ (by first | exact Nat.le_refl _ | (simp only [World.size_alloc]; omega)) _⟩)
    all_goals simp only [results, Try.results85, asAddr, hE2.out]
    all_goals go_simp
  · have hE : Hid (labFo g v s = g) := by show _ = _; unfold labFo; rw [if_neg h]
    have hb : (s 0 == v) = false := by simp [h]
    clear h
    rw [hE.out]
    go_enter Try.func85, Try.ntmps85
    go_wp2
    all_goals (refine bodyPost_ret (v := .tuple #[.agg (sv g), .int .i64 0]) ?_ rfl ⟨rfl, by repeat first | exact Below.refl _ _ | refine belowD ?_ | refine belowN ?_ _ | refine bA ?_ (by first | exact Nat.le_refl _ | (simp only [World.size_alloc]; omega)) _⟩)
    all_goals simp only [results, Try.results85, asAddr]
    all_goals go_simp
end Wp
end Go.Proofs.Ytlhpnhjfibkgpaa
