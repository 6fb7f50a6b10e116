import Derived.Test.YtamlmjpkifnhaaaWbB
namespace Go.Proofs.Ytamlmjpkifnhaaa
namespace Wb
open Go.RowKit
set_option linter.unusedVariables false
set_option maxRecDepth 8000
set_option maxHeartbeats 2000000 in
theorem named_any (s : ByteArray) (hs : s.size ≤ 9223372036854775807) (w : World) : Calls Try.prog 16 #[.string s] w fun e w' => e = .returned (.bool (nm s)) ∧ w' = w := by
  have hb0 := emp s
  by_cases h0 : s.size = 0
  · rw [decide_eq_true h0] at hb0
    have HR : Hid (nm s = false) := nm_no fun h => by have := h.1; omega
    go_enter Try.func16, Try.ntmps16
    go_wp2
    all_goals go_ret
    all_goals exact ⟨ret_bool HR.out.symm, rfl⟩
  rw [decide_eq_false h0] at hb0
  by_cases h1 : s.size ≤ 16
  rotate_left
  · have HR : Hid (nm s = false) := nm_no fun h => h1 h.2.1
    go_enter Try.func16, Try.ntmps16
    go_wp2
    all_goals go_ret
    all_goals exact ⟨ret_bool HR.out.symm, rfl⟩
  go_enter Try.func16, Try.ntmps16
  go_wp2
  go_loop [3] (fun i => ∃ k : Nat, k ≤ s.size ∧ i = .int .i64 k ∧ Hid (∀ j (h : j < s.size), j < k → good (s[j].toNat : Int))) (fun i => s.size - (intOf i).toNat)
  case atStart => exact ⟨0, by omega, rfl, fun j h h' => by omega⟩
  case round =>
    obtain ⟨k, hk, rfl, hg⟩ := hrel
    by_cases h : k < s.size
    · by_cases hgk : good (s[k].toNat : Int)
      · have hg' : Hid (∀ j (h : j < s.size), j < k + 1 → good (s[j].toNat : Int)) := fun j h h' => by
          by_cases e : j < k
          · exact hg.out j h e
          · obtain rfl : j = k := by omega
            exact hgk
        rcases hgk with ⟨a1, a2⟩ | ⟨a1, a2⟩ | e
        all_goals go_wp2
        all_goals first | (exfalso; simp_all; done) | refine ⟨⟨k + 1, by omega, by simp, hg'⟩, ?_⟩
        all_goals simp [intOf]
        all_goals omega
      · have hno : nm s = false := nm_no fun hN => hgk (hN.2.2 k h)
        have hgk' : ¬ (97 ≤ (s[k].toNat : Int) ∧ (s[k].toNat : Int) ≤ 122) ∧ ¬ (48 ≤ (s[k].toNat : Int) ∧ (s[k].toNat : Int) ≤ 57) ∧ (s[k].toNat : Int) ≠ 95 := by unfold good at hgk; omega
        have HN : Hid (nm s = false) := hno
        clear hgk hno hg
        have hc : (s[k].toNat : Int) < 48 ∨ (57 < (s[k].toNat : Int) ∧ (s[k].toNat : Int) < 97) ∨ 122 < (s[k].toNat : Int) := by omega
        obtain ⟨_, _, hne⟩ := hgk'
        have hne' : ((s[k].toNat : Int) == 95) = false := by simpa using hne
        have hne2 : ((s[k].toNat : Int) != 95) = true := by simpa using hne
        rcases hc with c1 | ⟨c1, c2⟩ | c1
        all_goals go_wp2
        all_goals first | (exfalso; clear HN hb0; simp_all; done) | (exfalso; clear HN hb0; simp_all; omega) | (go_ret; exact ⟨ret_bool HN.out.symm, rfl⟩)
    · obtain rfl : k = s.size := by omega
      have HR : Hid (nm s = true) := nm_yes ⟨by omega, h1, fun i hi => hg.out i hi hi⟩
      clear hg
      go_wp2
      go_ret
      exact ⟨ret_bool HR.out.symm, rfl⟩
set_option maxHeartbeats 2000000 in
theorem batched_any (a f : Int) (w : World) : Calls Try.prog 17 #[.int .i64 a, .int .i64 f] w fun e w' => e = .returned (.bool (wi a 16 65536 && wi f 2 256)) ∧ w' = w := by
  have HR : Hid ((wi a 16 65536 && wi f 2 256) = ((decide (16 ≤ a) && decide (a ≤ 65536)) && (decide (2 ≤ f) && decide (f ≤ 256)))) := rfl
  by_cases h1 : 16 ≤ a
  rotate_left
  ·
    rw [decide_eq_false h1] at HR
    go_enter Try.func17, Try.ntmps17
    go_wp2
    all_goals go_ret
    all_goals exact ⟨ret_bool (by rw [HR.out]; rfl), rfl⟩
  by_cases h2 : a ≤ 65536
  rotate_left
  ·
    rw [decide_eq_true h1, decide_eq_false h2] at HR
    go_enter Try.func17, Try.ntmps17
    go_wp2
    all_goals go_ret
    all_goals exact ⟨ret_bool (by rw [HR.out]; rfl), rfl⟩
  by_cases h3 : 2 ≤ f
  rotate_left
  ·
    rw [decide_eq_true h1, decide_eq_true h2, decide_eq_false h3] at HR
    go_enter Try.func17, Try.ntmps17
    go_wp2
    all_goals go_ret
    all_goals exact ⟨ret_bool (by rw [HR.out]; rfl), rfl⟩
  by_cases h4 : f ≤ 256
  rotate_left
  ·
    rw [decide_eq_true h1, decide_eq_true h2, decide_eq_true h3, decide_eq_false h4] at HR
    go_enter Try.func17, Try.ntmps17
    go_wp2
    all_goals go_ret
    all_goals exact ⟨ret_bool (by rw [HR.out]; rfl), rfl⟩
  rw [decide_eq_true h1, decide_eq_true h2, decide_eq_true h3, decide_eq_true h4] at HR
  go_enter Try.func17, Try.ntmps17
  go_wp2
  all_goals go_ret
  all_goals exact ⟨ret_bool (by rw [HR.out]; rfl), rfl⟩
set_option maxHeartbeats 8000000 in
theorem optioned_any (s : ByteArray) (hs : s.size ≤ 9223372036854775807) (a f r c y : Int) (w : World) : Calls Try.prog 11 #[ov s a f r c y] w fun e' w' => e' = .returned (.bool (op s a f r c y)) ∧ w' = w.alloc (oc s a f r c y) := by
  have HN := named_any s hs
  have HB := batched_any a f
  have HR : Hid (op s a f r c y = (nm s && ((wi a 16 65536 && wi f 2 256) && ((decide (1 ≤ r) && decide (r ≤ 16)) && ((decide (1 ≤ c) && decide (c ≤ 1048576)) && (decide (0 ≤ y) && decide (y ≤ 1048576))))))) := by show _ = _; unfold op; rw [Bool.and_assoc (wi a 16 65536)]; rfl
  cases h0 : nm s
  · rw [h0] at HN HR
    go_enter Try.func11, Try.ntmps11
    go_wp2_with (fail)
    refine (HN _).mono ?_
    rintro e1 w1 ⟨rfl, rfl⟩
    go_wp2
    all_goals go_ret
    all_goals exact ⟨ret_bool (by rw [HR.out]; rfl), rfl⟩
  rw [h0] at HN HR
  generalize (wi a 16 65536 && wi f 2 256) = B at *
  cases B
  ·
    go_enter Try.func11, Try.ntmps11
    go_wp2_with (fail)
    refine (HN _).mono ?_
    rintro e1 w1 ⟨rfl, rfl⟩
    go_wp2_with (fail)
    refine (HB _).mono ?_
    rintro e2 w2 ⟨rfl, rfl⟩
    go_wp2
    all_goals go_ret
    all_goals exact ⟨ret_bool (by rw [HR.out]; rfl), rfl⟩
  by_cases h1 : 1 ≤ r
  rotate_left
  ·
    rw [decide_eq_false h1] at HR
    go_enter Try.func11, Try.ntmps11
    go_wp2_with (fail)
    refine (HN _).mono ?_
    rintro e0 w0 ⟨rfl, rfl⟩
    go_wp2_with (fail)
    refine (HB _).mono ?_
    rintro e1 w1 ⟨rfl, rfl⟩
    go_wp2
    all_goals go_ret
    all_goals exact ⟨ret_bool (by rw [HR.out]; rfl), rfl⟩
  by_cases h2 : r ≤ 16
  rotate_left
  ·
    rw [decide_eq_true h1, decide_eq_false h2] at HR
    go_enter Try.func11, Try.ntmps11
    go_wp2_with (fail)
    refine (HN _).mono ?_
    rintro e0 w0 ⟨rfl, rfl⟩
    go_wp2_with (fail)
    refine (HB _).mono ?_
    rintro e1 w1 ⟨rfl, rfl⟩
    go_wp2
    all_goals go_ret
    all_goals exact ⟨ret_bool (by rw [HR.out]; rfl), rfl⟩
  by_cases h3 : 1 ≤ c
  rotate_left
  ·
    rw [decide_eq_true h1, decide_eq_true h2, decide_eq_false h3] at HR
    go_enter Try.func11, Try.ntmps11
    go_wp2_with (fail)
    refine (HN _).mono ?_
    rintro e0 w0 ⟨rfl, rfl⟩
    go_wp2_with (fail)
    refine (HB _).mono ?_
    rintro e1 w1 ⟨rfl, rfl⟩
    go_wp2
    all_goals go_ret
    all_goals exact ⟨ret_bool (by rw [HR.out]; rfl), rfl⟩
  by_cases h4 : c ≤ 1048576
  rotate_left
  ·
    rw [decide_eq_true h1, decide_eq_true h2, decide_eq_true h3, decide_eq_false h4] at HR
    go_enter Try.func11, Try.ntmps11
    go_wp2_with (fail)
    refine (HN _).mono ?_
    rintro e0 w0 ⟨rfl, rfl⟩
    go_wp2_with (fail)
    refine (HB _).mono ?_
    rintro e1 w1 ⟨rfl, rfl⟩
    go_wp2
    all_goals go_ret
    all_goals exact ⟨ret_bool (by rw [HR.out]; rfl), rfl⟩
  by_cases h5 : 0 ≤ y
  rotate_left
  ·
    rw [decide_eq_true h1, decide_eq_true h2, decide_eq_true h3, decide_eq_true h4, decide_eq_false h5] at HR
    go_enter Try.func11, Try.ntmps11
    go_wp2_with (fail)
    refine (HN _).mono ?_
    rintro e0 w0 ⟨rfl, rfl⟩
    go_wp2_with (fail)
    refine (HB _).mono ?_
    rintro e1 w1 ⟨rfl, rfl⟩
    go_wp2
    all_goals go_ret
    all_goals exact ⟨ret_bool (by rw [HR.out]; rfl), rfl⟩
  rw [decide_eq_true h1, decide_eq_true h2, decide_eq_true h3, decide_eq_true h4, decide_eq_true h5] at HR
  go_enter Try.func11, Try.ntmps11
  go_wp2_with (fail)
  refine (HN _).mono ?_
  rintro e0 w0 ⟨rfl, rfl⟩
  go_wp2_with (fail)
  refine (HB _).mono ?_
  rintro e1 w1 ⟨rfl, rfl⟩
  go_wp2
  all_goals go_ret
  all_goals exact ⟨ret_bool (by rw [HR.out]; rfl), rfl⟩
end Wb
end Go.Proofs.Ytamlmjpkifnhaaa
