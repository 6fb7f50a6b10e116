import Derived.Test.YtipnlcnikpngcaaDoorPeD
namespace Go.Proofs.YtipnlcnikpngcaaDoor
namespace Wp
open Go.RowKit
set_option linter.unusedVariables false
set_option maxRecDepth 8000
abbrev Sz (N : Nat) : Prop := 1 ≤ N ∧ N ≤ 2147483647
def Ord (N A C : Nat) : Prop := Sz N ∧ A < N ∧ C < N ∧ Nat.gcd N A = 1
instance (N A C : Nat) : Decidable (Ord N A C) := by unfold Ord; infer_instance
theorem size_any (n : Nat) (k : Bool) (hk : (decide (1 ≤ n ∧ n ≤ 2147483647)) = k) (w : World) : Calls Tryd.prog 30 #[.int .u32 (n : Int)] w fun e w' => e = .returned (.bool k) ∧ w' = w := by
  by_cases h : 1 ≤ n ∧ n ≤ 2147483647
  · obtain rfl : k = true := by rw [← hk]; simp [h]
    obtain ⟨h1, h2⟩ := h
    clear hk
    go_enter Tryd.func30, Tryd.ntmps30
    go_wp2
    all_goals go_ret
    all_goals exact ⟨ret_bool (decide_eq_true (by omega)), rfl⟩
  · obtain rfl : k = false := by rw [← hk]; simp [h]
    clear hk
    by_cases h1 : 1 ≤ n
    · have h2 : 2147483647 < n := by omega
      clear h
      go_enter Tryd.func30, Tryd.ntmps30
      go_wp2
      all_goals go_ret
      all_goals exact ⟨ret_bool (decide_eq_false (by omega)), rfl⟩
    · obtain rfl : n = 0 := by omega
      clear h
      go_enter Tryd.func30, Tryd.ntmps30
      go_wp2
      all_goals go_ret
      all_goals exact ⟨rfl, rfl⟩
set_option maxHeartbeats 2000000 in
theorem check_no1 (N A C : Nat) (hN : N < 4294967296) (hA : A < 4294967296) (h : ¬ Sz N) (w : World) : Calls Tryd.prog 17 #[.agg (rk N A C)] w fun e w' => e = .returned (.int .i64 140) ∧ Below w.heap.size w w' := by
  have HS := hide (size_any N false (by simp [h]))
  have HD := hide (div_any N A _ hN hA rfl)
  clear h
  go_enter Tryd.func17, Tryd.ntmps17
  go_wp2_with (first | (go_at_call 30; refine (HS.out _).mono ?_; rintro e9 w9 ⟨rfl, hw9⟩; subst w9) | (go_at_call 31; refine (HD.out _).mono ?_; rintro e9 w9 ⟨rfl, m9, hw9⟩; subst w9))
  all_goals go_ret
  all_goals exact ⟨rfl, by repeat first | exact Below.refl _ _ | refine belowD ?_ | refine belowN ?_ _ | refine bA ?_ (by first | exact Nat.le_refl _ | (simp only [World.size_alloc]; omega)) _⟩
set_option maxHeartbeats 2000000 in
theorem check_no2 (N A C : Nat) (hN : N < 4294967296) (hA : A < 4294967296) (h : Sz N) (h3 : N ≤ A) (w : World) : Calls Tryd.prog 17 #[.agg (rk N A C)] w fun e w' => e = .returned (.int .i64 140) ∧ Below w.heap.size w w' := by
  have HS := hide (size_any N true (by simp [h.1, h.2]))
  have HD := hide (div_any N A _ hN hA rfl)
  obtain ⟨h1, h2⟩ := h
  go_enter Tryd.func17, Tryd.ntmps17
  go_wp2_with (first | (go_at_call 30; refine (HS.out _).mono ?_; rintro e9 w9 ⟨rfl, hw9⟩; subst w9) | (go_at_call 31; refine (HD.out _).mono ?_; rintro e9 w9 ⟨rfl, m9, hw9⟩; subst w9))
  all_goals go_ret
  all_goals exact ⟨rfl, by repeat first | exact Below.refl _ _ | refine belowD ?_ | refine belowN ?_ _ | refine bA ?_ (by first | exact Nat.le_refl _ | (simp only [World.size_alloc]; omega)) _⟩
set_option maxHeartbeats 2000000 in
theorem check_no3 (N A C : Nat) (hN : N < 4294967296) (hA : A < 4294967296) (h : Sz N) (h3 : A < N) (h4 : N ≤ C) (w : World) : Calls Tryd.prog 17 #[.agg (rk N A C)] w fun e w' => e = .returned (.int .i64 140) ∧ Below w.heap.size w w' := by
  have HS := hide (size_any N true (by simp [h.1, h.2]))
  have HD := hide (div_any N A _ hN hA rfl)
  obtain ⟨h1, h2⟩ := h
  go_enter Tryd.func17, Tryd.ntmps17
  go_wp2_with (first | (go_at_call 30; refine (HS.out _).mono ?_; rintro e9 w9 ⟨rfl, hw9⟩; subst w9) | (go_at_call 31; refine (HD.out _).mono ?_; rintro e9 w9 ⟨rfl, m9, hw9⟩; subst w9))
  all_goals go_ret
  all_goals exact ⟨rfl, by repeat first | exact Below.refl _ _ | refine belowD ?_ | refine belowN ?_ _ | refine bA ?_ (by first | exact Nat.le_refl _ | (simp only [World.size_alloc]; omega)) _⟩
set_option maxHeartbeats 2000000 in
theorem check_no4 (N A C : Nat) (hN : N < 4294967296) (hA : A < 4294967296) (h : Sz N) (h3 : A < N) (h4 : C < N) (h5 : ¬ Nat.gcd N A = 1) (w : World) : Calls Tryd.prog 17 #[.agg (rk N A C)] w fun e w' => e = .returned (.int .i64 140) ∧ Below w.heap.size w w' := by
  have HS := hide (size_any N true (by simp [h.1, h.2]))
  obtain ⟨g, hg⟩ : ∃ g, Nat.gcd N A = g := ⟨_, rfl⟩
  have HD := hide (div_any N A g hN hA hg)
  have hb : ((g : Int) == 1) = false := by rw [hg] at h5; simp; omega
  have hb2 : ((g : Int) != 1) = true := by simp [bne, hb]
  clear hg h5
  obtain ⟨h1, h2⟩ := h
  go_enter Tryd.func17, Tryd.ntmps17
  go_wp2_with (first | (go_at_call 30; refine (HS.out _).mono ?_; rintro e9 w9 ⟨rfl, hw9⟩; subst w9) | (go_at_call 31; refine (HD.out _).mono ?_; rintro e9 w9 ⟨rfl, m9, hw9⟩; subst w9))
  all_goals go_ret
  all_goals exact ⟨rfl, by repeat first | exact Below.refl _ _ | refine belowD ?_ | refine belowN ?_ _ | refine bA ?_ (by first | exact Nat.le_refl _ | (simp only [World.size_alloc]; omega)) _⟩
set_option maxHeartbeats 2000000 in
theorem check_ok (N A C : Nat) (hN : N < 4294967296) (hA : A < 4294967296) (h : Sz N) (h3 : A < N) (h4 : C < N) (h5 : Nat.gcd N A = 1) (w : World) : Calls Tryd.prog 17 #[.agg (rk N A C)] w fun e w' => e = .returned (.int .i64 0) ∧ Below w.heap.size w w' := by
  have HS := hide (size_any N true (by simp [h.1, h.2]))
  have HD := hide (div_any N A 1 hN hA h5)
  clear h5
  obtain ⟨h1, h2⟩ := h
  go_enter Tryd.func17, Tryd.ntmps17
  go_wp2_with (first | (go_at_call 30; refine (HS.out _).mono ?_; rintro e9 w9 ⟨rfl, hw9⟩; subst w9) | (go_at_call 31; refine (HD.out _).mono ?_; rintro e9 w9 ⟨rfl, m9, hw9⟩; subst w9))
  all_goals go_ret
  all_goals exact ⟨rfl, by repeat first | exact Below.refl _ _ | refine belowD ?_ | refine belowN ?_ _ | refine bA ?_ (by first | exact Nat.le_refl _ | (simp only [World.size_alloc]; omega)) _⟩
/-- The answer of Check. -/
def ck (N A C : Nat) : Int := if Ord N A C then 0 else 140
theorem check_any (N A C : Nat) (hN : N < 4294967296) (hA : A < 4294967296) (w : World) : Calls Tryd.prog 17 #[.agg (rk N A C)] w fun e w' => e = .returned (.int .i64 (ck N A C)) ∧ Below w.heap.size w w' := by
  unfold ck
  by_cases h1 : Sz N
  · by_cases h2 : A < N
    · by_cases h3 : C < N
      · by_cases h4 : Nat.gcd N A = 1
        · rw [if_pos ⟨h1, h2, h3, h4⟩]; exact check_ok N A C hN hA h1 h2 h3 h4 w
        · rw [if_neg (fun h => h4 h.2.2.2)]; exact check_no4 N A C hN hA h1 h2 h3 h4 w
      · rw [if_neg (fun h => h3 h.2.2.1)]; exact check_no3 N A C hN hA h1 h2 (by omega) w
    · rw [if_neg (fun h => h2 h.2.1)]; exact check_no2 N A C hN hA h1 (by omega) w
  · rw [if_neg (fun h => h1 h.1)]; exact check_no1 N A C hN hA h1 w
set_option maxHeartbeats 2000000 in
theorem rcheck_no1 (N A C : Nat) (hN : N < 4294967296) (hA : A < 4294967296) (h : N = 0) (w : World) : Calls Tryd.prog 53 #[.agg (rk N A C)] w fun e w' => e = .returned (.int .i64 140) ∧ Below w.heap.size w w' := by
  have HD := hide (rdiv_any A N _ (by omega) (by omega) rfl)
  subst h
  go_enter Tryd.func53, Tryd.ntmps53
  go_wp2_with (first | (go_at_call 29; refine (HD.out _).mono ?_; rintro e9 w9 ⟨rfl, hw9⟩; subst w9))
  all_goals go_ret
  all_goals exact ⟨rfl, by repeat first | exact Below.refl _ _ | refine belowD ?_ | refine belowN ?_ _ | refine bA ?_ (by first | exact Nat.le_refl _ | (simp only [World.size_alloc]; omega)) _⟩
set_option maxHeartbeats 2000000 in
theorem rcheck_no1b (N A C : Nat) (hN : N < 4294967296) (hA : A < 4294967296) (h1 : 1 ≤ N) (h : 2147483647 < N) (w : World) : Calls Tryd.prog 53 #[.agg (rk N A C)] w fun e w' => e = .returned (.int .i64 140) ∧ Below w.heap.size w w' := by
  have HD := hide (rdiv_any A N _ (by omega) (by omega) rfl)
  go_enter Tryd.func53, Tryd.ntmps53
  go_wp2_with (first | (go_at_call 29; refine (HD.out _).mono ?_; rintro e9 w9 ⟨rfl, hw9⟩; subst w9))
  all_goals go_ret
  all_goals exact ⟨rfl, by repeat first | exact Below.refl _ _ | refine belowD ?_ | refine belowN ?_ _ | refine bA ?_ (by first | exact Nat.le_refl _ | (simp only [World.size_alloc]; omega)) _⟩
set_option maxHeartbeats 2000000 in
theorem rcheck_no2 (N A C : Nat) (hN : N < 4294967296) (hA : A < 4294967296) (h : Sz N) (h3 : N ≤ A) (w : World) : Calls Tryd.prog 53 #[.agg (rk N A C)] w fun e w' => e = .returned (.int .i64 140) ∧ Below w.heap.size w w' := by
  have HD := hide (rdiv_any A N _ (by omega) (by omega) rfl)
  obtain ⟨h1, h2⟩ := h
  go_enter Tryd.func53, Tryd.ntmps53
  go_wp2_with (first | (go_at_call 29; refine (HD.out _).mono ?_; rintro e9 w9 ⟨rfl, hw9⟩; subst w9))
  all_goals go_ret
  all_goals exact ⟨rfl, by repeat first | exact Below.refl _ _ | refine belowD ?_ | refine belowN ?_ _ | refine bA ?_ (by first | exact Nat.le_refl _ | (simp only [World.size_alloc]; omega)) _⟩
set_option maxHeartbeats 2000000 in
theorem rcheck_no3 (N A C : Nat) (hN : N < 4294967296) (hA : A < 4294967296) (h : Sz N) (h3 : A < N) (h4 : N ≤ C) (w : World) : Calls Tryd.prog 53 #[.agg (rk N A C)] w fun e w' => e = .returned (.int .i64 140) ∧ Below w.heap.size w w' := by
  have HD := hide (rdiv_any A N _ (by omega) (by omega) rfl)
  obtain ⟨h1, h2⟩ := h
  go_enter Tryd.func53, Tryd.ntmps53
  go_wp2_with (first | (go_at_call 29; refine (HD.out _).mono ?_; rintro e9 w9 ⟨rfl, hw9⟩; subst w9))
  all_goals go_ret
  all_goals exact ⟨rfl, by repeat first | exact Below.refl _ _ | refine belowD ?_ | refine belowN ?_ _ | refine bA ?_ (by first | exact Nat.le_refl _ | (simp only [World.size_alloc]; omega)) _⟩
set_option maxHeartbeats 2000000 in
theorem rcheck_no4 (N A C : Nat) (hN : N < 4294967296) (hA : A < 4294967296) (h : Sz N) (h3 : A < N) (h4 : C < N) (h5 : ¬ Nat.gcd A N = 1) (w : World) : Calls Tryd.prog 53 #[.agg (rk N A C)] w fun e w' => e = .returned (.int .i64 140) ∧ Below w.heap.size w w' := by
  obtain ⟨g, hg⟩ : ∃ g, Nat.gcd A N = g := ⟨_, rfl⟩
  have HD := hide (rdiv_any A N g (by omega) (by omega) hg)
  have hb : ((g : Int) == 1) = false := by rw [hg] at h5; simp; omega
  have hb2 : ((g : Int) != 1) = true := by simp [bne, hb]
  clear hg h5
  obtain ⟨h1, h2⟩ := h
  go_enter Tryd.func53, Tryd.ntmps53
  go_wp2_with (first | (go_at_call 29; refine (HD.out _).mono ?_; rintro e9 w9 ⟨rfl, hw9⟩; subst w9))
  all_goals go_ret
  all_goals exact ⟨rfl, by repeat first | exact Below.refl _ _ | refine belowD ?_ | refine belowN ?_ _ | refine bA ?_ (by first | exact Nat.le_refl _ | (simp only [World.size_alloc]; omega)) _⟩
set_option maxHeartbeats 2000000 in
theorem rcheck_ok (N A C : Nat) (hN : N < 4294967296) (hA : A < 4294967296) (h : Sz N) (h3 : A < N) (h4 : C < N) (h5 : Nat.gcd A N = 1) (w : World) : Calls Tryd.prog 53 #[.agg (rk N A C)] w fun e w' => e = .returned (.int .i64 0) ∧ Below w.heap.size w w' := by
  have HD := hide (rdiv_any A N 1 (by omega) (by omega) h5)
  clear h5
  obtain ⟨h1, h2⟩ := h
  go_enter Tryd.func53, Tryd.ntmps53
  go_wp2_with (first | (go_at_call 29; refine (HD.out _).mono ?_; rintro e9 w9 ⟨rfl, hw9⟩; subst w9))
  all_goals go_ret
  all_goals exact ⟨rfl, by repeat first | exact Below.refl _ _ | refine belowD ?_ | refine belowN ?_ _ | refine bA ?_ (by first | exact Nat.le_refl _ | (simp only [World.size_alloc]; omega)) _⟩
theorem rcheck_any (N A C : Nat) (hN : N < 4294967296) (hA : A < 4294967296) (w : World) : Calls Tryd.prog 53 #[.agg (rk N A C)] w fun e w' => e = .returned (.int .i64 (ck N A C)) ∧ Below w.heap.size w w' := by
  unfold ck
  by_cases h1 : Sz N
  · by_cases h2 : A < N
    · by_cases h3 : C < N
      · by_cases h4 : Nat.gcd N A = 1
        · rw [if_pos ⟨h1, h2, h3, h4⟩]; exact rcheck_ok N A C hN hA h1 h2 h3 (by rw [Nat.gcd_comm]; exact h4) w
        · rw [if_neg (fun h => h4 h.2.2.2)]; exact rcheck_no4 N A C hN hA h1 h2 h3 (by rw [Nat.gcd_comm]; exact h4) w
      · rw [if_neg (fun h => h3 h.2.2.1)]; exact rcheck_no3 N A C hN hA h1 h2 (by omega) w
    · rw [if_neg (fun h => h2 h.2.1)]; exact rcheck_no2 N A C hN hA h1 (by omega) w
  · rw [if_neg (fun h => h1 h.1)]
    by_cases h0 : N = 0
    · exact rcheck_no1 N A C hN hA h0 w
    · exact rcheck_no1b N A C hN hA (by omega) (by unfold Sz at h1; omega) w
end Wp
end Go.Proofs.YtipnlcnikpngcaaDoor
