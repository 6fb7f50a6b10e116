import Derived.Test.YtdphfhpohlodcabOrSub
namespace Go.Proofs.Ytdphfhpohlodcab
namespace Od
open Go.RowKit Rd Cl
set_option linter.unusedVariables false
theorem rank_b (u : Int) (h0 : 0 ≤ u) (h1 : u < 4294967296) : -2147483648 ≤ rank u ∧ rank u ≤ 2147483647 := by unfold rank; split <;> omega
theorem rank_inj (u v : Int) (h0 : 0 ≤ u) (h1 : u < 4294967296) (g0 : 0 ≤ v) (g1 : v < 4294967296) (h : ¬ u = v) : ¬ rank u = rank v := by unfold rank; split <;> split <;> omega
theorem of_rank (u : Int) (h0 : 0 ≤ u) (h1 : u < 4294967296) : ofR (rank u) = u ∧ ofE (rank u) = 0 := by
  have hb := rank_b u h0 h1
  by_cases h : u < 2147483648
  · have e : rank u = u := by unfold rank; rw [if_pos h]
    rw [e]; exact of_pos u h0 (by omega)
  · have e : rank u = -1 - (u - 2147483648) := by unfold rank; rw [if_neg h]
    have := of_neg (rank u) hb.1 (by omega)
    rw [this.1, this.2, e]; omega
theorem cls_cases (u : Int) (h0 : 0 ≤ u) : (cls u = 4 ∧ 2139095040 < u % 2147483648) ∨ (cls u = 3 ∧ u % 2147483648 = 2139095040) ∨ ((cls u == 4) = false ∧ (cls u == 3) = false ∧ u % 2147483648 < 2139095040) := by
  unfold cls
  repeat' split
  all_goals simp
  all_goals omega
theorem cls_zero (r : Int) : (r % 2147483648 = 0 → cls r = 0) ∧ (¬ r % 2147483648 = 0 → (cls r == 0) = false) := by
  unfold cls
  refine ⟨fun h => by rw [if_pos h], fun h => ?_⟩
  rw [if_neg h]
  repeat' split
  all_goals rfl
set_option maxHeartbeats 1000000 in
theorem law_nan_u (u v : Int) (u0 : 0 ≤ u) (u1 : u < 4294967296) (v0 : 0 ≤ v) (v1 : v < 4294967296) (hc : cls u = 4) (w : World) :
    Calls Try.prog 4 #[.int .u32 u, .int .u32 v] w fun e w' => e = .returned (.bool true) ∧ Grown w w' := by
  obtain ⟨ra0, ra1⟩ := rank_b u u0 u1
  obtain ⟨rb0, rb1⟩ := rank_b v v0 v1
  have HOF : Hid (ofR (rank u) = u ∧ ofE (rank u) = 0) := of_rank u u0 u1
  have HC : Hid (cls u = 4) := hc
  clear hc
  by_cases huv : u = v
  · subst huv
    go_enter Try.func4, Try.ntmps4
    go_wp2_with fail
    refine (rank_any u u0 u1 _).mono ?_
    rintro e9 w9 ⟨rfl, hw9⟩
    subst w9
    go_wp2_with fail
    refine (rank_any u u0 u1 _).mono ?_
    rintro e9 w9 ⟨rfl, hw9⟩
    subst w9
    go_wp2_with fail
    refine (ofrank_any (rank u) (by omega) (by omega) _).mono ?_
    rintro e9 w9 ⟨rfl, hw9⟩
    subst w9
    rw [HOF.out.1, HOF.out.2]
    go_wp2_with fail
    refine (num_any 0 _).mono ?_
    rintro e9 w9 ⟨rfl, hw9⟩
    subst w9
    go_wp2_with fail
    refine (rclass_any u u0 u1 _).mono ?_
    rintro e9 w9 ⟨rfl, hw9⟩
    subst w9
    rw [HC.out]
    go_wp2
    go_ret
    exact ⟨rfl, Grown.refl _⟩
  · have hr := rank_inj u v u0 u1 v0 v1 huv
    have hrb : (rank u == rank v) = false := by simpa using hr
    have hub : (u == v) = false := by simpa using huv
    clear hr huv
    go_enter Try.func4, Try.ntmps4
    go_wp2_with fail
    refine (rank_any u u0 u1 _).mono ?_
    rintro e9 w9 ⟨rfl, hw9⟩
    subst w9
    go_wp2_with fail
    refine (rank_any v v0 v1 _).mono ?_
    rintro e9 w9 ⟨rfl, hw9⟩
    subst w9
    go_wp2_with fail
    refine (ofrank_any (rank u) (by omega) (by omega) _).mono ?_
    rintro e9 w9 ⟨rfl, hw9⟩
    subst w9
    rw [HOF.out.1, HOF.out.2]
    go_wp2_with fail
    refine (num_any 0 _).mono ?_
    rintro e9 w9 ⟨rfl, hw9⟩
    subst w9
    go_wp2_with fail
    refine (rclass_any u u0 u1 _).mono ?_
    rintro e9 w9 ⟨rfl, hw9⟩
    subst w9
    rw [HC.out]
    go_wp2
    go_ret
    exact ⟨rfl, Grown.refl _⟩
set_option maxHeartbeats 1000000 in
theorem law_nan_v (u v : Int) (u0 : 0 ≤ u) (u1 : u < 4294967296) (v0 : 0 ≤ v) (v1 : v < 4294967296) (hc : (cls u == 4) = false) (hd : cls v = 4) (w : World) :
    Calls Try.prog 4 #[.int .u32 u, .int .u32 v] w fun e w' => e = .returned (.bool true) ∧ Grown w w' := by
  obtain ⟨ra0, ra1⟩ := rank_b u u0 u1
  obtain ⟨rb0, rb1⟩ := rank_b v v0 v1
  have HOF : Hid (ofR (rank u) = u ∧ ofE (rank u) = 0) := of_rank u u0 u1
  have HC : Hid (cls v = 4) := hd
  clear hd
  by_cases huv : u = v
  · exfalso; subst huv; rw [HC.out] at hc; cases hc
  · have hr := rank_inj u v u0 u1 v0 v1 huv
    have hrb : (rank u == rank v) = false := by simpa using hr
    have hub : (u == v) = false := by simpa using huv
    clear hr huv
    go_enter Try.func4, Try.ntmps4
    go_wp2_with fail
    refine (rank_any u u0 u1 _).mono ?_
    rintro e9 w9 ⟨rfl, hw9⟩
    subst w9
    go_wp2_with fail
    refine (rank_any v v0 v1 _).mono ?_
    rintro e9 w9 ⟨rfl, hw9⟩
    subst w9
    go_wp2_with fail
    refine (ofrank_any (rank u) (by omega) (by omega) _).mono ?_
    rintro e9 w9 ⟨rfl, hw9⟩
    subst w9
    rw [HOF.out.1, HOF.out.2]
    go_wp2_with fail
    refine (num_any 0 _).mono ?_
    rintro e9 w9 ⟨rfl, hw9⟩
    subst w9
    go_wp2_with fail
    refine (rclass_any u u0 u1 _).mono ?_
    rintro e9 w9 ⟨rfl, hw9⟩
    subst w9
    go_wp2_with fail
    refine (rclass_any v v0 v1 _).mono ?_
    rintro e9 w9 ⟨rfl, hw9⟩
    subst w9
    rw [HC.out]
    go_wp2
    go_ret
    exact ⟨rfl, Grown.refl _⟩
set_option maxHeartbeats 1000000 in
theorem law_inf_u (u v : Int) (u0 : 0 ≤ u) (u1 : u < 4294967296) (v0 : 0 ≤ v) (v1 : v < 4294967296) (hc : cls u = 3) (hs : u % 2147483648 = 2139095040) (hd : (cls v == 4) = false) (ht : v % 2147483648 ≤ 2139095040) (w : World) :
    Calls Try.prog 4 #[.int .u32 u, .int .u32 v] w fun e w' => e = .returned (.bool true) ∧ Grown w w' := by
  obtain ⟨ra0, ra1⟩ := rank_b u u0 u1
  obtain ⟨rb0, rb1⟩ := rank_b v v0 v1
  have HOF : Hid (ofR (rank u) = u ∧ ofE (rank u) = 0) := of_rank u u0 u1
  have HC : Hid (cls u = 3) := hc
  clear hc
  by_cases huv : u = v
  · subst huv
    clear hd
    go_enter Try.func4, Try.ntmps4
    go_wp2_with fail
    refine (rank_any u u0 u1 _).mono ?_
    rintro e9 w9 ⟨rfl, hw9⟩
    subst w9
    go_wp2_with fail
    refine (rank_any u u0 u1 _).mono ?_
    rintro e9 w9 ⟨rfl, hw9⟩
    subst w9
    go_wp2_with fail
    refine (ofrank_any (rank u) (by omega) (by omega) _).mono ?_
    rintro e9 w9 ⟨rfl, hw9⟩
    subst w9
    rw [HOF.out.1, HOF.out.2]
    go_wp2_with fail
    refine (num_any 0 _).mono ?_
    rintro e9 w9 ⟨rfl, hw9⟩
    subst w9
    go_wp2_with fail
    refine (rclass_any u u0 u1 _).mono ?_
    rintro e9 w9 ⟨rfl, hw9⟩
    subst w9
    rw [HC.out]
    go_wp2_with fail
    refine (rclass_any u u0 u1 _).mono ?_
    rintro e9 w9 ⟨rfl, hw9⟩
    subst w9
    rw [HC.out]
    go_wp2_with fail
    refine (rclass_any u u0 u1 _).mono ?_
    rintro e9 w9 ⟨rfl, hw9⟩
    subst w9
    rw [HC.out]
    go_wp2
    go_ret
    exact ⟨rfl, Grown.refl _⟩
  · have hr := rank_inj u v u0 u1 v0 v1 huv
    have hrb : (rank u == rank v) = false := by simpa using hr
    have hub : (u == v) = false := by simpa using huv
    have hk : (u = 4286578688 ∨ v = 2139095040) ↔ rank u < rank v := by
      unfold rank; split <;> split <;> omega
    clear hr huv
    by_cases h1 : u = 4286578688
    · have h1b : (u == 4286578688) = true := by simpa using h1
      have hl : rank u < rank v := hk.1 (Or.inl h1)
      clear h1 hk
      go_enter Try.func4, Try.ntmps4
      go_wp2_with fail
      refine (rank_any u u0 u1 _).mono ?_
      rintro e9 w9 ⟨rfl, hw9⟩
      subst w9
      go_wp2_with fail
      refine (rank_any v v0 v1 _).mono ?_
      rintro e9 w9 ⟨rfl, hw9⟩
      subst w9
      go_wp2_with fail
      refine (ofrank_any (rank u) (by omega) (by omega) _).mono ?_
      rintro e9 w9 ⟨rfl, hw9⟩
      subst w9
      rw [HOF.out.1, HOF.out.2]
      go_wp2_with fail
      refine (num_any 0 _).mono ?_
      rintro e9 w9 ⟨rfl, hw9⟩
      subst w9
      go_wp2_with fail
      refine (rclass_any u u0 u1 _).mono ?_
      rintro e9 w9 ⟨rfl, hw9⟩
      subst w9
      rw [HC.out]
      go_wp2_with fail
      refine (rclass_any v v0 v1 _).mono ?_
      rintro e9 w9 ⟨rfl, hw9⟩
      subst w9
      go_wp2_with fail
      refine (rclass_any u u0 u1 _).mono ?_
      rintro e9 w9 ⟨rfl, hw9⟩
      subst w9
      rw [HC.out]
      go_wp2
      go_ret
      exact ⟨rfl, Grown.refl _⟩
    have h1b : (u == 4286578688) = false := by simpa using h1
    by_cases h2 : v = 2139095040
    · have h2b : (v == 2139095040) = true := by simpa using h2
      have hl : rank u < rank v := hk.1 (Or.inr h2)
      clear h2 hk h1
      go_enter Try.func4, Try.ntmps4
      go_wp2_with fail
      refine (rank_any u u0 u1 _).mono ?_
      rintro e9 w9 ⟨rfl, hw9⟩
      subst w9
      go_wp2_with fail
      refine (rank_any v v0 v1 _).mono ?_
      rintro e9 w9 ⟨rfl, hw9⟩
      subst w9
      go_wp2_with fail
      refine (ofrank_any (rank u) (by omega) (by omega) _).mono ?_
      rintro e9 w9 ⟨rfl, hw9⟩
      subst w9
      rw [HOF.out.1, HOF.out.2]
      go_wp2_with fail
      refine (num_any 0 _).mono ?_
      rintro e9 w9 ⟨rfl, hw9⟩
      subst w9
      go_wp2_with fail
      refine (rclass_any u u0 u1 _).mono ?_
      rintro e9 w9 ⟨rfl, hw9⟩
      subst w9
      rw [HC.out]
      go_wp2_with fail
      refine (rclass_any v v0 v1 _).mono ?_
      rintro e9 w9 ⟨rfl, hw9⟩
      subst w9
      go_wp2_with fail
      refine (rclass_any u u0 u1 _).mono ?_
      rintro e9 w9 ⟨rfl, hw9⟩
      subst w9
      rw [HC.out]
      go_wp2
      go_ret
      exact ⟨rfl, Grown.refl _⟩
    have h2b : (v == 2139095040) = false := by simpa using h2
    have hl : rank v ≤ rank u := by
      apply Int.le_of_not_gt; intro hc
      rcases hk.2 hc with h | h
      · exact h1 h
      · exact h2 h
    have hlb : decide (rank u < rank v) = false := decide_eq_false (by omega)
    clear h2 hk h1
    go_enter Try.func4, Try.ntmps4
    go_wp2_with fail
    refine (rank_any u u0 u1 _).mono ?_
    rintro e9 w9 ⟨rfl, hw9⟩
    subst w9
    go_wp2_with fail
    refine (rank_any v v0 v1 _).mono ?_
    rintro e9 w9 ⟨rfl, hw9⟩
    subst w9
    go_wp2_with fail
    refine (ofrank_any (rank u) (by omega) (by omega) _).mono ?_
    rintro e9 w9 ⟨rfl, hw9⟩
    subst w9
    rw [HOF.out.1, HOF.out.2]
    go_wp2_with fail
    refine (num_any 0 _).mono ?_
    rintro e9 w9 ⟨rfl, hw9⟩
    subst w9
    go_wp2_with fail
    refine (rclass_any u u0 u1 _).mono ?_
    rintro e9 w9 ⟨rfl, hw9⟩
    subst w9
    rw [HC.out]
    go_wp2_with fail
    refine (rclass_any v v0 v1 _).mono ?_
    rintro e9 w9 ⟨rfl, hw9⟩
    subst w9
    go_wp2_with fail
    refine (rclass_any u u0 u1 _).mono ?_
    rintro e9 w9 ⟨rfl, hw9⟩
    subst w9
    rw [HC.out]
    go_wp2
    go_ret
    exact ⟨rfl, Grown.refl _⟩
set_option maxHeartbeats 1000000 in
theorem law_inf_v (u v : Int) (u0 : 0 ≤ u) (u1 : u < 4294967296) (v0 : 0 ≤ v) (v1 : v < 4294967296) (hc : (cls u == 4) = false) (hc3 : (cls u == 3) = false) (hs : u % 2147483648 < 2139095040) (hd : cls v = 3) (ht : v % 2147483648 = 2139095040) (w : World) :
    Calls Try.prog 4 #[.int .u32 u, .int .u32 v] w fun e w' => e = .returned (.bool true) ∧ Grown w w' := by
  obtain ⟨ra0, ra1⟩ := rank_b u u0 u1
  obtain ⟨rb0, rb1⟩ := rank_b v v0 v1
  have HOF : Hid (ofR (rank u) = u ∧ ofE (rank u) = 0) := of_rank u u0 u1
  have HC : Hid (cls v = 3) := hd
  clear hd
  have huv : ¬ u = v := by intro h; subst h; omega
  have hr := rank_inj u v u0 u1 v0 v1 huv
  have hrb : (rank u == rank v) = false := by simpa using hr
  have hub : (u == v) = false := by simpa using huv
  have hk : (u = 4286578688 ∨ v = 2139095040) ↔ rank u < rank v := by
    unfold rank; split <;> split <;> omega
  clear hr huv
  by_cases h1 : u = 4286578688
  · have h1b : (u == 4286578688) = true := by simpa using h1
    have hl : rank u < rank v := hk.1 (Or.inl h1)
    clear h1 hk
    go_enter Try.func4, Try.ntmps4
    go_wp2_with fail
    refine (rank_any u u0 u1 _).mono ?_
    rintro e9 w9 ⟨rfl, hw9⟩
    subst w9
    go_wp2_with fail
    refine (rank_any v v0 v1 _).mono ?_
    rintro e9 w9 ⟨rfl, hw9⟩
    subst w9
    go_wp2_with fail
    refine (ofrank_any (rank u) (by omega) (by omega) _).mono ?_
    rintro e9 w9 ⟨rfl, hw9⟩
    subst w9
    rw [HOF.out.1, HOF.out.2]
    go_wp2_with fail
    refine (num_any 0 _).mono ?_
    rintro e9 w9 ⟨rfl, hw9⟩
    subst w9
    go_wp2_with fail
    refine (rclass_any u u0 u1 _).mono ?_
    rintro e9 w9 ⟨rfl, hw9⟩
    subst w9
    go_wp2_with fail
    refine (rclass_any v v0 v1 _).mono ?_
    rintro e9 w9 ⟨rfl, hw9⟩
    subst w9
    rw [HC.out]
    go_wp2_with fail
    refine (rclass_any u u0 u1 _).mono ?_
    rintro e9 w9 ⟨rfl, hw9⟩
    subst w9
    go_wp2_with fail
    refine (rclass_any v v0 v1 _).mono ?_
    rintro e9 w9 ⟨rfl, hw9⟩
    subst w9
    rw [HC.out]
    go_wp2
    go_ret
    exact ⟨rfl, Grown.refl _⟩
  have h1b : (u == 4286578688) = false := by simpa using h1
  by_cases h2 : v = 2139095040
  · have h2b : (v == 2139095040) = true := by simpa using h2
    have hl : rank u < rank v := hk.1 (Or.inr h2)
    clear h2 hk h1
    go_enter Try.func4, Try.ntmps4
    go_wp2_with fail
    refine (rank_any u u0 u1 _).mono ?_
    rintro e9 w9 ⟨rfl, hw9⟩
    subst w9
    go_wp2_with fail
    refine (rank_any v v0 v1 _).mono ?_
    rintro e9 w9 ⟨rfl, hw9⟩
    subst w9
    go_wp2_with fail
    refine (ofrank_any (rank u) (by omega) (by omega) _).mono ?_
    rintro e9 w9 ⟨rfl, hw9⟩
    subst w9
    rw [HOF.out.1, HOF.out.2]
    go_wp2_with fail
    refine (num_any 0 _).mono ?_
    rintro e9 w9 ⟨rfl, hw9⟩
    subst w9
    go_wp2_with fail
    refine (rclass_any u u0 u1 _).mono ?_
    rintro e9 w9 ⟨rfl, hw9⟩
    subst w9
    go_wp2_with fail
    refine (rclass_any v v0 v1 _).mono ?_
    rintro e9 w9 ⟨rfl, hw9⟩
    subst w9
    rw [HC.out]
    go_wp2_with fail
    refine (rclass_any u u0 u1 _).mono ?_
    rintro e9 w9 ⟨rfl, hw9⟩
    subst w9
    go_wp2_with fail
    refine (rclass_any v v0 v1 _).mono ?_
    rintro e9 w9 ⟨rfl, hw9⟩
    subst w9
    rw [HC.out]
    go_wp2
    go_ret
    exact ⟨rfl, Grown.refl _⟩
  have h2b : (v == 2139095040) = false := by simpa using h2
  have hl : rank v ≤ rank u := by
    apply Int.le_of_not_gt; intro hc
    rcases hk.2 hc with h | h
    · exact h1 h
    · exact h2 h
  have hlb : decide (rank u < rank v) = false := decide_eq_false (by omega)
  clear h2 hk h1
  go_enter Try.func4, Try.ntmps4
  go_wp2_with fail
  refine (rank_any u u0 u1 _).mono ?_
  rintro e9 w9 ⟨rfl, hw9⟩
  subst w9
  go_wp2_with fail
  refine (rank_any v v0 v1 _).mono ?_
  rintro e9 w9 ⟨rfl, hw9⟩
  subst w9
  go_wp2_with fail
  refine (ofrank_any (rank u) (by omega) (by omega) _).mono ?_
  rintro e9 w9 ⟨rfl, hw9⟩
  subst w9
  rw [HOF.out.1, HOF.out.2]
  go_wp2_with fail
  refine (num_any 0 _).mono ?_
  rintro e9 w9 ⟨rfl, hw9⟩
  subst w9
  go_wp2_with fail
  refine (rclass_any u u0 u1 _).mono ?_
  rintro e9 w9 ⟨rfl, hw9⟩
  subst w9
  go_wp2_with fail
  refine (rclass_any v v0 v1 _).mono ?_
  rintro e9 w9 ⟨rfl, hw9⟩
  subst w9
  rw [HC.out]
  go_wp2_with fail
  refine (rclass_any u u0 u1 _).mono ?_
  rintro e9 w9 ⟨rfl, hw9⟩
  subst w9
  go_wp2_with fail
  refine (rclass_any v v0 v1 _).mono ?_
  rintro e9 w9 ⟨rfl, hw9⟩
  subst w9
  rw [HC.out]
  go_wp2
  go_ret
  exact ⟨rfl, Grown.refl _⟩
end Od
end Go.Proofs.Ytdphfhpohlodcab
