import Derived.Test.YtdphfhpohlodcabOrSum
namespace Go.Proofs.Ytdphfhpohlodcab
namespace Od
open Go.RowKit Rd Cl
set_option linter.unusedVariables false
/-- What a sum is, as far as its sign. -/
def Sum (a b r : Int) : Prop :=
  ((a % 2147483648) = 0 → (b % 2147483648) = 0 → r = sg (decide (2147483648 ≤ a) && decide (2147483648 ≤ b))) ∧
  ((a % 2147483648) = 0 → ¬ (b % 2147483648) = 0 → r = b) ∧ (¬ (a % 2147483648) = 0 → (b % 2147483648) = 0 → r = a) ∧
  (¬ (a % 2147483648) = 0 → ¬ (b % 2147483648) = 0 → decide (2147483648 ≤ a) = decide (2147483648 ≤ b) → Res r (decide (2147483648 ≤ a))) ∧
  (¬ (a % 2147483648) = 0 → ¬ (b % 2147483648) = 0 → ¬ decide (2147483648 ≤ a) = decide (2147483648 ≤ b) → (a % 2147483648) = (b % 2147483648) → r = 0) ∧
  (¬ (a % 2147483648) = 0 → ¬ (b % 2147483648) = 0 → ¬ decide (2147483648 ≤ a) = decide (2147483648 ≤ b) → (b % 2147483648) < (a % 2147483648) → Res r (decide (2147483648 ≤ a))) ∧
  (¬ (a % 2147483648) = 0 → ¬ (b % 2147483648) = 0 → ¬ decide (2147483648 ≤ a) = decide (2147483648 ≤ b) → (a % 2147483648) < (b % 2147483648) → Res r (decide (2147483648 ≤ b)))
set_option maxHeartbeats 2000000 in
theorem addF_any (a b : Int) (a0 : 0 ≤ a) (a1 : a < 4294967296) (b0 : 0 ≤ b) (b1 : b < 4294967296) (ai : (a % 2147483648) < 2139095040) (bi : (b % 2147483648) < 2139095040) (w : World) :
    Calls Try.prog 36 #[.int .u32 a, .int .u32 b] w fun e w' => ∃ r, e = .returned (.int .u32 r) ∧ w' = w ∧ Sum a b r := by
  by_cases az : (a % 2147483648) = 0
  · by_cases bz : (b % 2147483648) = 0
    · go_enter Try.func36, Try.ntmps36
      go_wp2_with fail
      refine (full_zero a a0 a1 az _).mono ?_
      rintro e9 w9 ⟨rfl, hw9⟩
      subst w9
      go_wp2_with fail
      refine (full_zero b b0 b1 bz _).mono ?_
      rintro e9 w9 ⟨rfl, hw9⟩
      subst w9
      have HF : Hid (Sum a b (sg (decide (2147483648 ≤ a) && decide (2147483648 ≤ b)) + 0)) := by
        show Sum _ _ _
        refine ⟨fun _ _ => by omega, fun _ h => absurd bz h, fun h => absurd az h, fun h => absurd az h, fun h => absurd az h, fun h => absurd az h, fun h => absurd az h⟩
      generalize decide (2147483648 ≤ a) = n at *
      generalize decide (2147483648 ≤ b) = o at *
      cases n <;> cases o
      all_goals
        go_wp2_with fail
        refine (signed_any _ 0 (by omega) (by omega) _).mono ?_
        rintro e9 w9 ⟨rfl, hw9⟩
        subst w9
        go_wp2
        go_ret
        exact ⟨_, rfl, rfl, HF.out⟩
    · go_enter Try.func36, Try.ntmps36
      go_wp2_with fail
      refine (full_zero a a0 a1 az _).mono ?_
      rintro e9 w9 ⟨rfl, hw9⟩
      subst w9
      go_wp2_with fail
      refine (full_any b b0 b1 bi bz _).mono ?_
      rintro e9 w9 ⟨y, f, rfl, fb, hw9⟩
      subst w9
      have HF : Hid (Sum a b b) := by
        show Sum _ _ _
        exact ⟨fun _ h => absurd h bz, fun _ _ => rfl, fun h => absurd az h, fun h => absurd az h, fun h => absurd az h, fun h => absurd az h, fun h => absurd az h⟩
      have y0' : (y == 0) = false := by have := fb.1; simp; omega
      clear fb
      go_wp2
      go_ret
      exact ⟨_, rfl, rfl, HF.out⟩
  · by_cases bz : (b % 2147483648) = 0
    · go_enter Try.func36, Try.ntmps36
      go_wp2_with fail
      refine (full_any a a0 a1 ai az _).mono ?_
      rintro e9 w9 ⟨x, e, rfl, fa, hw9⟩
      subst w9
      go_wp2_with fail
      refine (full_zero b b0 b1 bz _).mono ?_
      rintro e9 w9 ⟨rfl, hw9⟩
      subst w9
      have HF : Hid (Sum a b a) := by
        show Sum _ _ _
        exact ⟨fun h => absurd h az, fun h => absurd h az, fun _ _ => rfl, fun _ h => absurd bz h, fun _ h => absurd bz h, fun _ h => absurd bz h, fun _ h => absurd bz h⟩
      have x0' : (x == 0) = false := by have := fa.1; simp; omega
      clear fa
      go_wp2
      go_ret
      exact ⟨_, rfl, rfl, HF.out⟩
    · by_cases hle : (b % 2147483648) ≤ (a % 2147483648)
      · refine (addF_ge a b a0 a1 b0 b1 ai bi az bz hle w).mono ?_
        rintro e9 w9 ⟨r, rfl, hw9, k1, k2, k3⟩
        subst w9
        exact ⟨r, rfl, rfl, fun h => absurd h az, fun h => absurd h az, fun _ h => absurd h bz, fun _ _ h => k1 h, fun _ _ h q => k2 h q, fun _ _ h q => k3 h (by omega), fun _ _ _ q => absurd q (by omega)⟩
      · go_enter Try.func36, Try.ntmps36
        go_wp2_with fail
        refine (full_any a a0 a1 ai az _).mono ?_
        rintro e9 w9 ⟨x, e, rfl, fa, hw9⟩
        subst w9
        go_wp2_with fail
        refine (full_any b b0 b1 bi bz _).mono ?_
        rintro e9 w9 ⟨y, f, rfl, fb, hw9⟩
        subst w9
        have hord := lex _ _ y f x e (by omega) bi (by omega) ai fb fa (by omega)
        have x0' : (x == 0) = false := by have := fa.1; simp; omega
        have y0' : (y == 0) = false := by have := fb.1; simp; omega
        clear fa fb
        have HG := addF_ge b a b0 b1 a0 a1 bi ai bz az (by omega) w
        have HH : Hid (Calls Try.prog 36 #[.int .u32 b, .int .u32 a] w (AddsTo w b a)) := HG
        clear HG
        rcases hord with h | ⟨h, h'⟩
        · go_wp2_with fail
          refine HH.out.mono ?_
          rintro e9 w9 ⟨r, rfl, hw9, k1, k2, k3⟩
          subst w9
          have HF : Hid (Sum a b r) := by
            show Sum _ _ _
            exact ⟨fun h => absurd h az, fun h => absurd h az, fun _ h => absurd h bz, fun _ _ q => by rw [q]; exact k1 q.symm, fun _ _ _ q => absurd q (by omega), fun _ _ _ q => absurd q (by omega), fun _ _ q _ => k3 (fun z => q z.symm) (by omega)⟩
          clear k1 k2 k3
          go_wp2
          go_ret
          exact ⟨_, rfl, rfl, HF.out⟩
        · have hefb : (e == f) = true := by simp; omega
          have hnl : f ≤ e := by omega
          clear h
          go_wp2_with fail
          refine HH.out.mono ?_
          rintro e9 w9 ⟨r, rfl, hw9, k1, k2, k3⟩
          subst w9
          have HF : Hid (Sum a b r) := by
            show Sum _ _ _
            exact ⟨fun h => absurd h az, fun h => absurd h az, fun _ h => absurd h bz, fun _ _ q => by rw [q]; exact k1 q.symm, fun _ _ _ q => absurd q (by omega), fun _ _ _ q => absurd q (by omega), fun _ _ q _ => k3 (fun z => q z.symm) (by omega)⟩
          clear k1 k2 k3
          go_wp2
          go_ret
          exact ⟨_, rfl, rfl, HF.out⟩
def flip (v : Int) : Int := if v < 2147483648 then v + 2147483648 else v - 2147483648
theorem xor_low (n : Nat) (h : n < 2 ^ 31) : n ^^^ 2 ^ 31 = 2 ^ 31 + n := by
  apply Nat.eq_of_testBit_eq
  intro j
  rw [Nat.testBit_xor, Nat.testBit_two_pow]
  by_cases h1 : j < 31
  · rw [Nat.testBit_two_pow_add_gt h1, show decide (31 = j) = false from decide_eq_false (by omega)]; simp
  · by_cases h2 : j = 31
    · subst h2
      rw [Nat.testBit_two_pow_add_eq, Nat.testBit_lt_two_pow h]; simp
    · have h3 : 2 ^ 32 ≤ 2 ^ j := Nat.pow_le_pow_right (by omega) (by omega)
      rw [Nat.testBit_lt_two_pow (show n < 2 ^ j by omega), Nat.testBit_lt_two_pow (show 2 ^ 31 + n < 2 ^ j by omega), show decide (31 = j) = false from decide_eq_false (by omega)]
      rfl
theorem xor_top (v : Int) (h0 : 0 ≤ v) (h1 : v < 4294967296) : bits .xor .u32 v 2147483648 = flip v := by
  rw [u32_xor v 2147483648 h0 h1 (by omega) (by omega)]
  obtain ⟨n, rfl⟩ := Int.eq_ofNat_of_zero_le h0
  have e2 : (2147483648 : Int).toNat = 2 ^ 31 := by decide
  rw [e2, Int.toNat_natCast]
  unfold flip
  by_cases hn : n < 2 ^ 31
  · rw [xor_low n hn, if_pos (by omega)]; omega
  · have h2 := xor_low (n - 2 ^ 31) (by omega)
    rw [show 2 ^ 31 + (n - 2 ^ 31) = n from by omega] at h2
    have h3 : n ^^^ 2 ^ 31 = n - 2 ^ 31 := by
      rw [← h2, Nat.xor_assoc, Nat.xor_self, Nat.xor_zero]; omega
    rw [h3, if_neg (by omega)]; omega
theorem subF_any (u v : Int) (u0 : 0 ≤ u) (u1 : u < 4294967296) (v0 : 0 ≤ v) (v1 : v < 4294967296) (ui : (u % 2147483648) < 2139095040) (vi : (v % 2147483648) < 2139095040) (w : World) :
    Calls Try.prog 17 #[.int .u32 u, .int .u32 v] w fun e w' => ∃ r, e = .returned (.int .u32 r) ∧ w' = w ∧ Sum u (flip v) r := by
  have hx := xor_top v v0 v1
  have f0 : 0 ≤ flip v := by unfold flip; split <;> omega
  have f1 : flip v < 4294967296 := by unfold flip; split <;> omega
  have f2 : (flip v % 2147483648) < 2139095040 := by unfold flip; split <;> omega
  go_enter Try.func17, Try.ntmps17
  go_wp2_with fail
  refine (show Calls Try.prog 37 #[.int .u32 v] w fun e w' => e = .returned (.int .u32 (flip v)) ∧ w' = w from by
    go_enter Try.func37, Try.ntmps37
    go_wp2
    go_ret
    exact ⟨rfl, rfl⟩).mono ?_
  rintro e9 w9 ⟨rfl, hw9⟩
  subst w9
  go_wp2_with fail
  refine (addF_any u (flip v) u0 u1 f0 f1 ui f2 _).mono ?_
  rintro e9 w9 ⟨r, rfl, hw9, hs⟩
  subst w9
  have HS : Hid (Sum u (flip v) r) := hs
  clear hs
  go_wp2
  go_ret
  exact ⟨_, rfl, rfl, HS.out⟩
theorem res_true {r : Int} (h : Res r true) : 2147483648 < r ∧ r < 4294967296 := by
  obtain ⟨q, rfl, q1, q2⟩ := h
  have : sg true = 2147483648 := rfl
  omega
theorem res_false {r : Int} (h : Res r false) : 0 < r ∧ r < 2147483648 := by
  obtain ⟨q, rfl, q1, q2⟩ := h
  have : sg false = 0 := rfl
  omega
/-- What the law asks of the difference. -/
theorem fin (u v r : Int) (u0 : 0 ≤ u) (u1 : u < 4294967296) (v0 : 0 ≤ v) (v1 : v < 4294967296) (h : Sum u (flip v) r) :
    0 ≤ r ∧ r < 4294967296 ∧ (r % 2147483648 = 0 → u = v ∨ rank u - rank v = 1 ∨ rank v - rank u = 1) ∧ (¬ r % 2147483648 = 0 → (rank u < rank v ↔ 2147483648 ≤ r)) := by
  obtain ⟨k1, k2, k3, k4, k5, k6, k7⟩ := h
  have hf : flip v % 2147483648 = v % 2147483648 := by unfold flip; split <;> omega
  have hs : decide (2147483648 ≤ flip v) = !decide (2147483648 ≤ v) := by
    unfold flip
    by_cases hv : v < 2147483648
    · rw [if_pos hv, decide_eq_true (by omega), decide_eq_false (by omega)]; rfl
    · rw [if_neg hv, decide_eq_false (by omega), decide_eq_true (by omega)]; rfl
  have sgt : sg true = 2147483648 := rfl
  have sgf : sg false = 0 := rfl
  simp only [hf, hs] at k1 k2 k3 k4 k5 k6 k7
  unfold rank
  by_cases nu : 2147483648 ≤ u <;> by_cases nv : 2147483648 ≤ v
  · rw [decide_eq_true nu, decide_eq_true nv] at *
    have fl : flip v = v - 2147483648 := by unfold flip; rw [if_neg (by omega)]
    rw [fl] at k2
    simp only [Bool.not_true] at *
    have m1 := k1
    rw [show (true && false) = false from rfl, sgf] at m1
    have m5 := fun a b c => k5 a b (by decide) c
    have m6 := fun a b c => res_true (k6 a b (by decide) c)
    have m7 := fun a b c => res_false (k7 a b (by decide) c)
    clear k1 k4 k5 k6 k7
    rw [if_neg (by omega), if_neg (by omega)]
    omega
  · rw [decide_eq_true nu, decide_eq_false nv] at *
    have fl : flip v = v + 2147483648 := by unfold flip; rw [if_pos (by omega)]
    rw [fl] at k2
    simp only [Bool.not_false] at *
    have m1 := k1
    rw [show (true && true) = true from rfl, sgt] at m1
    have m4 := fun a b => res_true (k4 a b trivial)
    clear k1 k4 k5 k6 k7
    rw [if_neg (by omega), if_pos (by omega)]
    omega
  · rw [decide_eq_false nu, decide_eq_true nv] at *
    have fl : flip v = v - 2147483648 := by unfold flip; rw [if_neg (by omega)]
    rw [fl] at k2
    simp only [Bool.not_true] at *
    have m1 := k1
    rw [show (false && false) = false from rfl, sgf] at m1
    have m4 := fun a b => res_false (k4 a b trivial)
    clear k1 k4 k5 k6 k7
    rw [if_pos (by omega), if_neg (by omega)]
    omega
  · rw [decide_eq_false nu, decide_eq_false nv] at *
    have fl : flip v = v + 2147483648 := by unfold flip; rw [if_pos (by omega)]
    rw [fl] at k2
    simp only [Bool.not_false] at *
    have m1 := k1
    rw [show (false && true) = false from rfl, sgf] at m1
    have m5 := fun a b c => k5 a b (by decide) c
    have m6 := fun a b c => res_false (k6 a b (by decide) c)
    have m7 := fun a b c => res_true (k7 a b (by decide) c)
    clear k1 k4 k5 k6 k7
    rw [if_pos (by omega), if_pos (by omega)]
    omega
end Od
end Go.Proofs.Ytdphfhpohlodcab
