import Derived.Test.YtipnlcnikpngcaaDoorSpA
namespace Go.Proofs.YtipnlcnikpngcaaDoor
namespace Wp
open Go.RowKit
set_option linter.unusedVariables false
set_option maxRecDepth 8000
set_option maxHeartbeats 1000000 in
theorem first_any (c : Nat → Int) (k : Bool) (hk : (c 0 == 0) = k) (w : World) : Calls Tryd.prog 92 #[.agg #[], .agg (cv c)] w fun e w' => e = .returned (.bool k) ∧ w' = (w.alloc (.cells #[] 90)).alloc (.cells (cv c) 65) := by
  go_enter Tryd.func92, Tryd.ntmps92
  go_wp2
  all_goals go_ret
  all_goals exact ⟨rfl, rfl⟩
set_option maxHeartbeats 1000000 in
theorem csink (w : World) : Calls Tryd.prog 88 #[.agg #[]] w fun e w' => e = .returned (.agg (kv 3 5 4 5)) ∧ Below w.heap.size w w' := by
  go_enter Tryd.func88, Tryd.ntmps88
  go_wp2
  refine bodyPost_ret (v := .agg (kv 3 5 4 5)) ?_ rfl ⟨rfl, by repeat first | exact Below.refl _ _ | refine belowD ?_ | refine belowN ?_ _ | refine bA ?_ (by first | exact Nat.le_refl _ | (simp only [World.size_alloc]; omega) | (simp only [World.size_alloc, World.size_drew]; omega)) _⟩
  simp only [results, Tryd.results88, asAddr]
  go_simp
def coSt (a b : Int) : Nat → Int := w5 0 0 (IntKind.u64.wrap (a + b)) 0 0
set_option maxHeartbeats 2000000 in
theorem cstart (v a b : Int) (w : World) : Calls Tryd.prog 89 #[.agg #[], .int .u32 v, .agg #[.int .u64 a, .int .u64 b]] w fun e w' => e = .returned (.tuple #[.agg (sv (coSt a b)), .int .i64 0]) ∧ Below w.heap.size w w' := by
  unfold coSt
  obtain ⟨x, hx⟩ : ∃ x, IntKind.u64.wrap (a + b) = x := ⟨_, rfl⟩
  rw [hx, sv_w5]
  go_enter Tryd.func89, Tryd.ntmps89
  go_wp2
  refine bodyPost_ret (v := .tuple #[.agg #[.int .u64 0, .int .u64 0, .int .u64 x, .int .u64 0, .int .u64 0, .int .u64 0, .int .u64 0, .int .u64 0], .int .i64 0]) ?_ rfl ⟨rfl, by repeat first | exact Below.refl _ _ | refine belowD ?_ | refine belowN ?_ _ | refine bA ?_ (by first | exact Nat.le_refl _ | (simp only [World.size_alloc]; omega) | (simp only [World.size_alloc, World.size_drew]; omega)) _⟩
  simp only [results, Tryd.results89, asAddr]
  go_simp
/-- What goes along an edge. -/
def coSc (c s : Nat → Int) (x y : Nat) : Int × Int × Bool := if x = y then (if c 0 = 0 then (0, 1, true) else (0, 0, false)) else (if s 1 = 1 then (1, 0, true) else (0, 0, false))
set_option maxHeartbeats 4000000 in
theorem cscatter (c s : Nat → Int) (x y : Nat) (z : Int) (k : Bool) (w : World) :
    Calls Tryd.prog 87 #[.agg #[], .agg (cv c), .agg (sv s), .agg (ev x y z), .bool k] w fun e w' => e = .returned (.tuple #[.int .u64 (coSc c s x y).1, .int .u64 (coSc c s x y).2.1, .bool (coSc c s x y).2.2, .int .i64 0]) ∧ Below w.heap.size w w' := by
  by_cases h1 : x = y
  · have hb : ((x : Int) == (y : Int)) = true := by simp [h1]
    have hb' : ((x : Int) != (y : Int)) = false := by simp [h1]
    by_cases h2 : c 0 = 0
    · have HF := hide (first_any c true (by simp [h2]))
      have hE : coSc c s x y = (0, 1, true) := by unfold coSc; rw [if_pos h1, if_pos h2]
      rw [hE]
      clear hE h1 h2
      go_enter Tryd.func87, Tryd.ntmps87
      go_wp2_with (first | (go_at_call 92; refine (HF.out _).mono ?_; rintro e1 w1 ⟨rfl, hw1⟩; subst w1))
      refine bodyPost_ret (results_tmp4 rfl _ _ _) rfl ?_
      exact ⟨rfl, by repeat first | exact Below.refl _ _ | refine belowD ?_ | refine belowN ?_ _ | refine bA ?_ (by first | exact Nat.le_refl _ | (simp only [World.size_alloc]; omega) | (simp only [World.size_alloc, World.size_drew]; omega)) _⟩
    · have HF := hide (first_any c false (by simp [h2]))
      have hE : coSc c s x y = (0, 0, false) := by unfold coSc; rw [if_pos h1, if_neg h2]
      rw [hE]
      clear hE h1 h2
      go_enter Tryd.func87, Tryd.ntmps87
      go_wp2_with (first | (go_at_call 92; refine (HF.out _).mono ?_; rintro e1 w1 ⟨rfl, hw1⟩; subst w1))
      refine bodyPost_ret (results_tmp4 rfl _ _ _) rfl ?_
      exact ⟨rfl, by repeat first | exact Below.refl _ _ | refine belowD ?_ | refine belowN ?_ _ | refine bA ?_ (by first | exact Nat.le_refl _ | (simp only [World.size_alloc]; omega) | (simp only [World.size_alloc, World.size_drew]; omega)) _⟩
  · have hb : ((x : Int) == (y : Int)) = false := by simp; omega
    have hb' : ((x : Int) != (y : Int)) = true := by simp; omega
    have HF := hide (first_any c _ rfl)
    by_cases h2 : s 1 = 1
    · have hb2 : (s 1 == 1) = true := by simp [h2]
      have hE : coSc c s x y = (1, 0, true) := by unfold coSc; rw [if_neg h1, if_pos h2]
      rw [hE]
      clear hE h1 h2
      go_enter Tryd.func87, Tryd.ntmps87
      go_wp2_with (first | (go_at_call 92; refine (HF.out _).mono ?_; rintro e1 w1 ⟨rfl, hw1⟩; subst w1))
      refine bodyPost_ret (results_tmp4 rfl _ _ _) rfl ?_
      exact ⟨rfl, by repeat first | exact Below.refl _ _ | refine belowD ?_ | refine belowN ?_ _ | refine bA ?_ (by first | exact Nat.le_refl _ | (simp only [World.size_alloc]; omega) | (simp only [World.size_alloc, World.size_drew]; omega)) _⟩
    · have hb2 : (s 1 == 1) = false := by simp [h2]
      have hE : coSc c s x y = (0, 0, false) := by unfold coSc; rw [if_neg h1, if_neg h2]
      rw [hE]
      clear hE h1 h2
      go_enter Tryd.func87, Tryd.ntmps87
      go_wp2_with (first | (go_at_call 92; refine (HF.out _).mono ?_; rintro e1 w1 ⟨rfl, hw1⟩; subst w1))
      refine bodyPost_ret (results_tmp4 rfl _ _ _) rfl ?_
      exact ⟨rfl, by repeat first | exact Below.refl _ _ | refine belowD ?_ | refine belowN ?_ _ | refine bA ?_ (by first | exact Nat.le_refl _ | (simp only [World.size_alloc]; omega) | (simp only [World.size_alloc, World.size_drew]; omega)) _⟩
/-- How many edges are left. -/
def coLeft (s : Nat → Int) : Int := IntKind.u64.wrap (IntKind.u64.wrap (s 2 - s 3) - s 4)
/-- What a vertex becomes. -/
def coAp (c s : Nat → Int) : (Nat → Int) × Bool := if s 1 = 0 then (if c 0 = 0 then (w5 (s 0) 0 (coLeft s) 0 0, true) else (if coLeft s ≤ c 1 then (w5 (c 1) 1 (coLeft s) 0 0, true) else (w5 (s 0) 0 (coLeft s) 0 0, false))) else (w5 (s 0) 2 (coLeft s) 0 0, false)
set_option maxHeartbeats 4000000 in
theorem capply (c : Nat → Int) (v : Int) (s : Nat → Int) (w : World) :
    Calls Tryd.prog 84 #[.agg #[], .agg (cv c), .int .u32 v, .agg (sv s)] w fun e w' => e = .returned (.tuple #[.agg (sv (coAp c s).1), .bool (coAp c s).2, .int .i64 0]) ∧ Below w.heap.size w w' := by
  obtain ⟨p, hp⟩ : ∃ p, IntKind.u64.wrap (s 2 - s 3) = p := ⟨_, rfl⟩
  obtain ⟨q, hq⟩ : ∃ q, IntKind.u64.wrap (p - s 4) = q := ⟨_, rfl⟩
  have hL : coLeft s = q := by unfold coLeft; rw [hp, hq]
  by_cases h1 : s 1 = 0
  · have hb1 : (s 1 != 0) = false := by simp [h1]
    by_cases h2 : c 0 = 0
    · have hE : coAp c s = (w5 (s 0) 0 q 0 0, true) := by unfold coAp; rw [if_pos h1, if_pos h2, hL]
      rw [hE]
      have HF := hide (first_any c true (by simp [h2]))
      clear hE hL h1 h2
      go_enter Tryd.func84, Tryd.ntmps84
      go_wp2_with (first | (go_at_call 92; refine (HF.out _).mono ?_; rintro e1 w1 ⟨rfl, hw1⟩; subst w1))
      go_region_with (first | (go_at_call 92; refine (HF.out _).mono ?_; rintro e1 w1 ⟨rfl, hw1⟩; subst w1))
      all_goals go_wp2
      all_goals (refine bodyPost_ret (v := .tuple #[.agg (sv (w5 (s 0) 0 q 0 0)), .bool true, .int .i64 0]) ?_ rfl ⟨rfl, by repeat first | exact Below.refl _ _ | refine belowD ?_ | refine belowN ?_ _ | refine bA ?_ (by first | exact Nat.le_refl _ | (simp only [World.size_alloc]; omega) | (simp only [World.size_alloc, World.size_drew]; omega)) _⟩)
      all_goals simp only [results, Tryd.results84, asAddr, sv_w5]
      all_goals go_simp
    · by_cases h3 : q ≤ c 1
      · have hE : coAp c s = (w5 (c 1) 1 q 0 0, true) := by unfold coAp; rw [if_pos h1, if_neg h2, hL, if_pos h3]
        rw [hE]
        have HF := hide (first_any c false (by simp [h2]))
        clear hE hL h1 h2
        go_enter Tryd.func84, Tryd.ntmps84
        go_wp2_with (first | (go_at_call 92; refine (HF.out _).mono ?_; rintro e1 w1 ⟨rfl, hw1⟩; subst w1))
        all_goals (refine bodyPost_ret (v := .tuple #[.agg (sv (w5 (c 1) 1 q 0 0)), .bool true, .int .i64 0]) ?_ rfl ⟨rfl, by repeat first | exact Below.refl _ _ | refine belowD ?_ | refine belowN ?_ _ | refine bA ?_ (by first | exact Nat.le_refl _ | (simp only [World.size_alloc]; omega) | (simp only [World.size_alloc, World.size_drew]; omega)) _⟩)
        all_goals simp only [results, Tryd.results84, asAddr, sv_w5]
        all_goals go_simp
      · have hE : coAp c s = (w5 (s 0) 0 q 0 0, false) := by unfold coAp; rw [if_pos h1, if_neg h2, hL, if_neg h3]
        rw [hE]
        have HF := hide (first_any c false (by simp [h2]))
        clear hE hL h1 h2
        go_enter Tryd.func84, Tryd.ntmps84
        go_wp2_with (first | (go_at_call 92; refine (HF.out _).mono ?_; rintro e1 w1 ⟨rfl, hw1⟩; subst w1))
        go_region_with (first | (go_at_call 92; refine (HF.out _).mono ?_; rintro e1 w1 ⟨rfl, hw1⟩; subst w1))
        all_goals go_wp2
        all_goals (refine bodyPost_ret (v := .tuple #[.agg (sv (w5 (s 0) 0 q 0 0)), .bool false, .int .i64 0]) ?_ rfl ⟨rfl, by repeat first | exact Below.refl _ _ | refine belowD ?_ | refine belowN ?_ _ | refine bA ?_ (by first | exact Nat.le_refl _ | (simp only [World.size_alloc]; omega) | (simp only [World.size_alloc, World.size_drew]; omega)) _⟩)
        all_goals simp only [results, Tryd.results84, asAddr, sv_w5]
        all_goals go_simp
  · have hb1 : (s 1 != 0) = true := by simp [h1]
    have hE : coAp c s = (w5 (s 0) 2 q 0 0, false) := by unfold coAp; rw [if_neg h1, hL]
    rw [hE]
    clear hE hL h1
    go_enter Tryd.func84, Tryd.ntmps84
    go_wp2_with (first | (go_at_call 92; refine (HF.out _).mono ?_; rintro e1 w1 ⟨rfl, hw1⟩; subst w1))
    all_goals (refine bodyPost_ret (v := .tuple #[.agg (sv (w5 (s 0) 2 q 0 0)), .bool false, .int .i64 0]) ?_ rfl ⟨rfl, by repeat first | exact Below.refl _ _ | refine belowD ?_ | refine belowN ?_ _ | refine bA ?_ (by first | exact Nat.le_refl _ | (simp only [World.size_alloc]; omega) | (simp only [World.size_alloc, World.size_drew]; omega)) _⟩)
    all_goals simp only [results, Tryd.results84, asAddr, sv_w5]
    all_goals go_simp
end Wp
end Go.Proofs.YtipnlcnikpngcaaDoor
