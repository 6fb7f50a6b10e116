import Derived.Test.YtdphfhpohlodcabOrLawA
namespace Go.Proofs.Ytdphfhpohlodcab
namespace Od
open Go.RowKit Rd Cl
set_option linter.unusedVariables false
set_option maxHeartbeats 1000000 in
theorem law_fin (u v : Int) (u0 : 0 ≤ u) (u1 : u < 4294967296) (v0 : 0 ≤ v) (v1 : v < 4294967296) (hc : (cls u == 4) = false) (hc3 : (cls u == 3) = false) (ui : u % 2147483648 < 2139095040) (hd : (cls v == 4) = false) (hd3 : (cls v == 3) = false) (vi : v % 2147483648 < 2139095040) (w : World) :
    Calls Try.prog 4 #[.int .u32 u, .int .u32 v] w fun e w' => e = .returned (.bool true) ∧ Grown w w' := by
  obtain ⟨ra0, ra1⟩ := rank_b u u0 u1
  obtain ⟨rb0, rb1⟩ := rank_b v v0 v1
  have HOF : Hid (ofR (rank u) = u ∧ ofE (rank u) = 0) := of_rank u u0 u1
  by_cases huv : u = v
  · subst huv
    go_enter Try.func4, Try.ntmps4
    go_wp2_with fail
    refine (rank_any u u0 u1 _).mono ?_
    rintro e9 w9 ⟨rfl, hw9⟩
    subst w9
    go_wp2_with fail
    refine (rank_any u u0 u1 _).mono ?_
    rintro e9 w9 ⟨rfl, hw9⟩
    subst w9
    go_wp2_with fail
    refine (ofrank_any (rank u) (by omega) (by omega) _).mono ?_
    rintro e9 w9 ⟨rfl, hw9⟩
    subst w9
    rw [HOF.out.1, HOF.out.2]
    go_wp2_with fail
    refine (num_any 0 _).mono ?_
    rintro e9 w9 ⟨rfl, hw9⟩
    subst w9
    go_wp2_with fail
    refine (rclass_any u u0 u1 _).mono ?_
    rintro e9 w9 ⟨rfl, hw9⟩
    subst w9
    go_wp2_with fail
    refine (rclass_any u u0 u1 _).mono ?_
    rintro e9 w9 ⟨rfl, hw9⟩
    subst w9
    go_wp2_with fail
    refine (rclass_any u u0 u1 _).mono ?_
    rintro e9 w9 ⟨rfl, hw9⟩
    subst w9
    go_wp2_with fail
    refine (rclass_any u u0 u1 _).mono ?_
    rintro e9 w9 ⟨rfl, hw9⟩
    subst w9
    go_wp2_with fail
    refine (subF_any u u u0 u1 u0 u1 ui ui _).mono ?_
    rintro e9 w9 ⟨r, rfl, hw9, hsum⟩
    subst w9
    obtain ⟨r0, r1, rz, rn⟩ := fin u u r u0 u1 u0 u1 hsum
    obtain ⟨cz, cn⟩ := cls_zero r
    clear hsum
    by_cases hz : r % 2147483648 = 0
    · have HZ : Hid (cls r = 0) := cz hz
      have hrz := rz hz
      clear rz rn cz cn hz
      clear hrz
      go_wp2_with fail
      refine (rclass_any r r0 r1 _).mono ?_
      rintro e9 w9 ⟨rfl, hw9⟩
      subst w9
      rw [HZ.out]
      go_wp2
      go_ret
      exact ⟨rfl, Grown.refl _⟩
    · have hnz := cn hz
      have hrn := rn hz
      clear rz rn cz cn hz
      by_cases hl : rank u < rank u
      · have hr2 : 2147483648 ≤ r := hrn.1 hl
        clear hrn
        go_wp2_with fail
        refine (rclass_any r r0 r1 _).mono ?_
        rintro e9 w9 ⟨rfl, hw9⟩
        subst w9
        go_wp2
        go_ret
        exact ⟨rfl, Grown.refl _⟩
      · have hr2 : r < 2147483648 := by
          apply Int.lt_of_not_ge; intro hc; exact hl (hrn.2 hc)
        have hl2 : rank u ≤ rank u := by omega
        have hlb : decide (rank u < rank u) = false := decide_eq_false (by omega)
        have hrb2 : decide (2147483648 ≤ r) = false := decide_eq_false (by omega)
        clear hrn hl
        go_wp2_with fail
        refine (rclass_any r r0 r1 _).mono ?_
        rintro e9 w9 ⟨rfl, hw9⟩
        subst w9
        go_wp2
        go_ret
        exact ⟨rfl, Grown.refl _⟩
  · have hr := rank_inj u v u0 u1 v0 v1 huv
    have hrb : (rank u == rank v) = false := by simpa using hr
    have hub : (u == v) = false := by simpa using huv
    have HUV : Hid (¬ u = v) := huv
    clear hr huv
    go_enter Try.func4, Try.ntmps4
    go_wp2_with fail
    refine (rank_any u u0 u1 _).mono ?_
    rintro e9 w9 ⟨rfl, hw9⟩
    subst w9
    go_wp2_with fail
    refine (rank_any v v0 v1 _).mono ?_
    rintro e9 w9 ⟨rfl, hw9⟩
    subst w9
    go_wp2_with fail
    refine (ofrank_any (rank u) (by omega) (by omega) _).mono ?_
    rintro e9 w9 ⟨rfl, hw9⟩
    subst w9
    rw [HOF.out.1, HOF.out.2]
    go_wp2_with fail
    refine (num_any 0 _).mono ?_
    rintro e9 w9 ⟨rfl, hw9⟩
    subst w9
    go_wp2_with fail
    refine (rclass_any u u0 u1 _).mono ?_
    rintro e9 w9 ⟨rfl, hw9⟩
    subst w9
    go_wp2_with fail
    refine (rclass_any v v0 v1 _).mono ?_
    rintro e9 w9 ⟨rfl, hw9⟩
    subst w9
    go_wp2_with fail
    refine (rclass_any u u0 u1 _).mono ?_
    rintro e9 w9 ⟨rfl, hw9⟩
    subst w9
    go_wp2_with fail
    refine (rclass_any v v0 v1 _).mono ?_
    rintro e9 w9 ⟨rfl, hw9⟩
    subst w9
    go_wp2_with fail
    refine (subF_any u v u0 u1 v0 v1 ui vi _).mono ?_
    rintro e9 w9 ⟨r, rfl, hw9, hsum⟩
    subst w9
    obtain ⟨r0, r1, rz, rn⟩ := fin u v r u0 u1 v0 v1 hsum
    obtain ⟨cz, cn⟩ := cls_zero r
    clear hsum
    by_cases hz : r % 2147483648 = 0
    · have HZ : Hid (cls r = 0) := cz hz
      have hrz := rz hz
      clear rz rn cz cn hz
      have hone : rank u - rank v = 1 ∨ rank v - rank u = 1 := by
        rcases hrz with h | h | h
        · exact absurd h HUV.out
        · exact Or.inl h
        · exact Or.inr h
      clear hrz
      by_cases h1 : rank u - rank v = 1
      · have h1b : (rank u - rank v == 1) = true := by simpa using h1
        clear h1 hone
        go_wp2_with fail
        refine (rclass_any r r0 r1 _).mono ?_
        rintro e9 w9 ⟨rfl, hw9⟩
        subst w9
        rw [HZ.out]
        go_wp2
        go_ret
        exact ⟨rfl, Grown.refl _⟩
      · have h1b : (rank u - rank v == 1) = false := by simpa using h1
        have h2b : (rank v - rank u == 1) = true := by simp; omega
        clear h1 hone
        go_wp2_with fail
        refine (rclass_any r r0 r1 _).mono ?_
        rintro e9 w9 ⟨rfl, hw9⟩
        subst w9
        rw [HZ.out]
        go_wp2
        go_ret
        exact ⟨rfl, Grown.refl _⟩
    · have hnz := cn hz
      have hrn := rn hz
      clear rz rn cz cn hz
      by_cases hl : rank u < rank v
      · have hr2 : 2147483648 ≤ r := hrn.1 hl
        clear hrn
        go_wp2_with fail
        refine (rclass_any r r0 r1 _).mono ?_
        rintro e9 w9 ⟨rfl, hw9⟩
        subst w9
        go_wp2
        go_ret
        exact ⟨rfl, Grown.refl _⟩
      · have hr2 : r < 2147483648 := by
          apply Int.lt_of_not_ge; intro hc; exact hl (hrn.2 hc)
        have hl2 : rank v ≤ rank u := by omega
        have hlb : decide (rank u < rank v) = false := decide_eq_false (by omega)
        have hrb2 : decide (2147483648 ≤ r) = false := decide_eq_false (by omega)
        clear hrn hl
        go_wp2_with fail
        refine (rclass_any r r0 r1 _).mono ?_
        rintro e9 w9 ⟨rfl, hw9⟩
        subst w9
        go_wp2
        go_ret
        exact ⟨rfl, Grown.refl _⟩
end Od
end Go.Proofs.Ytdphfhpohlodcab
