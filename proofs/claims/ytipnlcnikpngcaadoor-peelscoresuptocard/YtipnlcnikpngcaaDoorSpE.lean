import Derived.Test.YtipnlcnikpngcaaDoorSpD
namespace Go.Proofs.YtipnlcnikpngcaaDoor
namespace Wp
open Go.RowKit
set_option linter.unusedVariables false
set_option maxRecDepth 8000
/-- The aggregate with one more. -/
def coFo (g s : Nat → Int) : Nat → Int := if s 1 = 0 then (if g 0 = 0 ∨ s 2 < g 1 then up (up g 1 (s 2)) 0 (IntKind.u64.wrap (g 0 + 1)) else up g 0 (IntKind.u64.wrap (g 0 + 1))) else if s 1 = 1 then up g 2 (IntKind.u64.wrap (g 2 + 1)) else g
set_option maxHeartbeats 4000000 in
theorem cfold (g s : Nat → Int) (w : World) : Calls Tryd.prog 86 #[.agg #[], .agg (sv g), .agg (sv s)] w fun e w' => e = .returned (.tuple #[.agg (sv (coFo g s)), .int .i64 0]) ∧ Below w.heap.size w w' := by
  obtain ⟨x, hx⟩ : ∃ x, IntKind.u64.wrap (g 0 + 1) = x := ⟨_, rfl⟩
  obtain ⟨y, hy⟩ : ∃ y, IntKind.u64.wrap (g 2 + 1) = y := ⟨_, rfl⟩
  by_cases h1 : s 1 = 0
  · have hb1 : (s 1 == 0) = true := by simp [h1]
    by_cases h2 : g 0 = 0
    · have hb2 : (g 0 == 0) = true := by simp [h2]
      have hE : sv (coFo g s) = #[.int .u64 x, .int .u64 (s 2), .int .u64 (g 2), .int .u64 (g 3), .int .u64 (g 4), .int .u64 (g 5), .int .u64 (g 6), .int .u64 (g 7)] := by unfold coFo; rw [if_pos h1, if_pos (Or.inl h2), hx]; rfl
      rw [hE]
      clear hE h1
      go_enter Tryd.func86, Tryd.ntmps86
      go_wp2
      all_goals (refine bodyPost_ret (v := .tuple #[.agg #[.int .u64 x, .int .u64 (s 2), .int .u64 (g 2), .int .u64 (g 3), .int .u64 (g 4), .int .u64 (g 5), .int .u64 (g 6), .int .u64 (g 7)], .int .i64 0]) ?_ rfl ⟨rfl, by repeat first | exact Below.refl _ _ | refine belowD ?_ | refine belowN ?_ _ | refine bA ?_ (by first | exact Nat.le_refl _ | (simp only [World.size_alloc]; omega) | (simp only [World.size_alloc, World.size_drew]; omega)) _⟩)
      all_goals simp only [results, Tryd.results86, asAddr]
      all_goals go_simp
      all_goals (rw [← hx, h2]; rfl)
    · have hb2 : (g 0 == 0) = false := by simp [h2]
      by_cases h3 : s 2 < g 1
      · have hE : sv (coFo g s) = #[.int .u64 x, .int .u64 (s 2), .int .u64 (g 2), .int .u64 (g 3), .int .u64 (g 4), .int .u64 (g 5), .int .u64 (g 6), .int .u64 (g 7)] := by unfold coFo; rw [if_pos h1, if_pos (Or.inr h3), hx]; rfl
        rw [hE]
        clear hE h1
        go_enter Tryd.func86, Tryd.ntmps86
        go_wp2
        all_goals (refine bodyPost_ret (v := .tuple #[.agg #[.int .u64 x, .int .u64 (s 2), .int .u64 (g 2), .int .u64 (g 3), .int .u64 (g 4), .int .u64 (g 5), .int .u64 (g 6), .int .u64 (g 7)], .int .i64 0]) ?_ rfl ⟨rfl, by repeat first | exact Below.refl _ _ | refine belowD ?_ | refine belowN ?_ _ | refine bA ?_ (by first | exact Nat.le_refl _ | (simp only [World.size_alloc]; omega) | (simp only [World.size_alloc, World.size_drew]; omega)) _⟩)
        all_goals simp only [results, Tryd.results86, asAddr]
        all_goals go_simp
      · have hE : sv (coFo g s) = #[.int .u64 x, .int .u64 (g 1), .int .u64 (g 2), .int .u64 (g 3), .int .u64 (g 4), .int .u64 (g 5), .int .u64 (g 6), .int .u64 (g 7)] := by unfold coFo; rw [if_pos h1, if_neg (fun h => h.elim h2 h3), hx]; rfl
        rw [hE]
        clear hE h1
        go_enter Tryd.func86, Tryd.ntmps86
        go_wp2
        all_goals (refine bodyPost_ret (v := .tuple #[.agg #[.int .u64 x, .int .u64 (g 1), .int .u64 (g 2), .int .u64 (g 3), .int .u64 (g 4), .int .u64 (g 5), .int .u64 (g 6), .int .u64 (g 7)], .int .i64 0]) ?_ rfl ⟨rfl, by repeat first | exact Below.refl _ _ | refine belowD ?_ | refine belowN ?_ _ | refine bA ?_ (by first | exact Nat.le_refl _ | (simp only [World.size_alloc]; omega) | (simp only [World.size_alloc, World.size_drew]; omega)) _⟩)
        all_goals simp only [results, Tryd.results86, asAddr]
        all_goals go_simp
  · have hb1 : (s 1 == 0) = false := by simp [h1]
    by_cases h2 : s 1 = 1
    · have hb2 : (s 1 == 1) = true := by simp [h2]
      have hE : sv (coFo g s) = #[.int .u64 (g 0), .int .u64 (g 1), .int .u64 y, .int .u64 (g 3), .int .u64 (g 4), .int .u64 (g 5), .int .u64 (g 6), .int .u64 (g 7)] := by unfold coFo; rw [if_neg h1, if_pos h2, hy]; rfl
      rw [hE]
      clear hE h1 h2
      go_enter Tryd.func86, Tryd.ntmps86
      go_wp2
      all_goals (refine bodyPost_ret (v := .tuple #[.agg #[.int .u64 (g 0), .int .u64 (g 1), .int .u64 y, .int .u64 (g 3), .int .u64 (g 4), .int .u64 (g 5), .int .u64 (g 6), .int .u64 (g 7)], .int .i64 0]) ?_ rfl ⟨rfl, by repeat first | exact Below.refl _ _ | refine belowD ?_ | refine belowN ?_ _ | refine bA ?_ (by first | exact Nat.le_refl _ | (simp only [World.size_alloc]; omega) | (simp only [World.size_alloc, World.size_drew]; omega)) _⟩)
      all_goals simp only [results, Tryd.results86, asAddr]
      all_goals go_simp
    · have hb2 : (s 1 == 1) = false := by simp [h2]
      have hE : sv (coFo g s) = #[.int .u64 (g 0), .int .u64 (g 1), .int .u64 (g 2), .int .u64 (g 3), .int .u64 (g 4), .int .u64 (g 5), .int .u64 (g 6), .int .u64 (g 7)] := by unfold coFo; rw [if_neg h1, if_neg h2]
      rw [hE]
      clear hE h1 h2
      go_enter Tryd.func86, Tryd.ntmps86
      go_wp2
      all_goals (refine bodyPost_ret (v := .tuple #[.agg #[.int .u64 (g 0), .int .u64 (g 1), .int .u64 (g 2), .int .u64 (g 3), .int .u64 (g 4), .int .u64 (g 5), .int .u64 (g 6), .int .u64 (g 7)], .int .i64 0]) ?_ rfl ⟨rfl, by repeat first | exact Below.refl _ _ | refine belowD ?_ | refine belowN ?_ _ | refine bA ?_ (by first | exact Nat.le_refl _ | (simp only [World.size_alloc]; omega) | (simp only [World.size_alloc, World.size_drew]; omega)) _⟩)
      all_goals simp only [results, Tryd.results86, asAddr]
      all_goals go_simp
/-- What a ctl becomes. -/
def coTu (c g : Nat → Int) : (Nat → Int) × Bool := if g 0 = 0 then (c, true) else (if g 2 = 0 ∧ (c 1 < g 1 ∨ c 0 = 0) then up (up c 1 (g 1)) 0 1 else up c 0 1, false)
set_option maxHeartbeats 4000000 in
theorem cturn (c g : Nat → Int) (w : World) : Calls Tryd.prog 90 #[.agg #[], .agg (cv c), .agg (sv g)] w fun e w' => e = .returned (.tuple #[.agg (cv (coTu c g).1), .bool (coTu c g).2, .int .i64 0]) ∧ Below w.heap.size w w' := by
  by_cases h1 : g 0 = 0
  · have hb1 : (g 0 == 0) = true := by simp [h1]
    have HF := hide (first_any c _ rfl)
    have hE : cv (coTu c g).1 = #[.int .u64 (c 0), .int .u64 (c 1), .int .u64 (c 2), .int .u64 (c 3)] := by unfold coTu; rw [if_pos h1]
    have hE2 : (coTu c g).2 = true := by unfold coTu; rw [if_pos h1]
    rw [hE, hE2]
    clear hE hE2 h1
    go_enter Tryd.func90, Tryd.ntmps90
    go_wp2_with (first | (go_at_call 92; refine (HF.out _).mono ?_; rintro e1 w1 ⟨rfl, hw1⟩; subst w1))
    all_goals (refine bodyPost_ret (v := .tuple #[.agg #[.int .u64 (c 0), .int .u64 (c 1), .int .u64 (c 2), .int .u64 (c 3)], .bool true, .int .i64 0]) ?_ rfl ⟨rfl, by repeat first | exact Below.refl _ _ | refine belowD ?_ | refine belowN ?_ _ | refine bA ?_ (by first | exact Nat.le_refl _ | (simp only [World.size_alloc]; omega) | (simp only [World.size_alloc, World.size_drew]; omega)) _⟩)
    all_goals simp only [results, Tryd.results90, asAddr]
    all_goals go_simp
  · have hb1 : (g 0 == 0) = false := by simp [h1]
    by_cases h2 : g 2 = 0
    · have hb2 : (g 2 == 0) = true := by simp [h2]
      by_cases h3 : c 1 < g 1
      · have HF := hide (first_any c _ rfl)
        have hE : cv (coTu c g).1 = #[.int .u64 1, .int .u64 (g 1), .int .u64 (c 2), .int .u64 (c 3)] := by unfold coTu; rw [if_neg h1, if_pos (And.intro h2 (Or.inl h3))]; rfl
        have hE2 : (coTu c g).2 = false := by unfold coTu; rw [if_neg h1]
        rw [hE, hE2]
        clear hE hE2 h1 h2
        go_enter Tryd.func90, Tryd.ntmps90
        go_wp2_with (first | (go_at_call 92; refine (HF.out _).mono ?_; rintro e1 w1 ⟨rfl, hw1⟩; subst w1))
        all_goals (refine bodyPost_ret (v := .tuple #[.agg #[.int .u64 1, .int .u64 (g 1), .int .u64 (c 2), .int .u64 (c 3)], .bool false, .int .i64 0]) ?_ rfl ⟨rfl, by repeat first | exact Below.refl _ _ | refine belowD ?_ | refine belowN ?_ _ | refine bA ?_ (by first | exact Nat.le_refl _ | (simp only [World.size_alloc]; omega) | (simp only [World.size_alloc, World.size_drew]; omega)) _⟩)
        all_goals simp only [results, Tryd.results90, asAddr]
        all_goals go_simp
      · by_cases h4 : c 0 = 0
        · have HF := hide (first_any c true (by simp [h4]))
          have hE : cv (coTu c g).1 = #[.int .u64 1, .int .u64 (g 1), .int .u64 (c 2), .int .u64 (c 3)] := by unfold coTu; rw [if_neg h1, if_pos (And.intro h2 (Or.inr h4))]; rfl
          have hE2 : (coTu c g).2 = false := by unfold coTu; rw [if_neg h1]
          rw [hE, hE2]
          clear hE hE2 h1 h2 h4
          go_enter Tryd.func90, Tryd.ntmps90
          go_wp2_with (first | (go_at_call 92; refine (HF.out _).mono ?_; rintro e1 w1 ⟨rfl, hw1⟩; subst w1))
          all_goals (refine bodyPost_ret (v := .tuple #[.agg #[.int .u64 1, .int .u64 (g 1), .int .u64 (c 2), .int .u64 (c 3)], .bool false, .int .i64 0]) ?_ rfl ⟨rfl, by repeat first | exact Below.refl _ _ | refine belowD ?_ | refine belowN ?_ _ | refine bA ?_ (by first | exact Nat.le_refl _ | (simp only [World.size_alloc]; omega) | (simp only [World.size_alloc, World.size_drew]; omega)) _⟩)
          all_goals simp only [results, Tryd.results90, asAddr]
          all_goals go_simp
        · have HF := hide (first_any c false (by simp [h4]))
          have hE : cv (coTu c g).1 = #[.int .u64 1, .int .u64 (c 1), .int .u64 (c 2), .int .u64 (c 3)] := by unfold coTu; rw [if_neg h1, if_neg (fun h => h.2.elim h3 h4)]; rfl
          have hE2 : (coTu c g).2 = false := by unfold coTu; rw [if_neg h1]
          rw [hE, hE2]
          clear hE hE2 h1 h2 h4
          go_enter Tryd.func90, Tryd.ntmps90
          go_wp2_with (first | (go_at_call 92; refine (HF.out _).mono ?_; rintro e1 w1 ⟨rfl, hw1⟩; subst w1))
          all_goals (refine bodyPost_ret (v := .tuple #[.agg #[.int .u64 1, .int .u64 (c 1), .int .u64 (c 2), .int .u64 (c 3)], .bool false, .int .i64 0]) ?_ rfl ⟨rfl, by repeat first | exact Below.refl _ _ | refine belowD ?_ | refine belowN ?_ _ | refine bA ?_ (by first | exact Nat.le_refl _ | (simp only [World.size_alloc]; omega) | (simp only [World.size_alloc, World.size_drew]; omega)) _⟩)
          all_goals simp only [results, Tryd.results90, asAddr]
          all_goals go_simp
    · have hb2 : (g 2 == 0) = false := by simp [h2]
      have HF := hide (first_any c _ rfl)
      have hE : cv (coTu c g).1 = #[.int .u64 1, .int .u64 (c 1), .int .u64 (c 2), .int .u64 (c 3)] := by unfold coTu; rw [if_neg h1, if_neg (fun h => h2 h.1)]; rfl
      have hE2 : (coTu c g).2 = false := by unfold coTu; rw [if_neg h1]
      rw [hE, hE2]
      clear hE hE2 h1 h2
      go_enter Tryd.func90, Tryd.ntmps90
      go_wp2_with (first | (go_at_call 92; refine (HF.out _).mono ?_; rintro e1 w1 ⟨rfl, hw1⟩; subst w1))
      all_goals (refine bodyPost_ret (v := .tuple #[.agg #[.int .u64 1, .int .u64 (c 1), .int .u64 (c 2), .int .u64 (c 3)], .bool false, .int .i64 0]) ?_ rfl ⟨rfl, by repeat first | exact Below.refl _ _ | refine belowD ?_ | refine belowN ?_ _ | refine bA ?_ (by first | exact Nat.le_refl _ | (simp only [World.size_alloc]; omega) | (simp only [World.size_alloc, World.size_drew]; omega)) _⟩)
      all_goals simp only [results, Tryd.results90, asAddr]
      all_goals go_simp
end Wp
end Go.Proofs.YtipnlcnikpngcaaDoor
