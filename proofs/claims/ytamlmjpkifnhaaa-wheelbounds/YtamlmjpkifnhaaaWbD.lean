import Derived.Test.YtamlmjpkifnhaaaWbC
namespace Go.Proofs.Ytamlmjpkifnhaaa
namespace Wb
open Go.RowKit
set_option linter.unusedVariables false
set_option maxRecDepth 8000
noncomputable def sz (s : ByteArray) (n k p e : Int) : Bool := gr s n k p && (decide (0 ≤ e) && decide (e ≤ 2147483647))
set_option maxHeartbeats 8000000 in
theorem sized_any (s : ByteArray) (hs : s.size ≤ 9223372036854775807) (n k p : Int) (b : Bool) (e u : Int) (hn0 : 0 ≤ n) (hn1 : n ≤ 4294967295) (w : World) : Calls Try.prog 10 #[gv s n k p b e u] w fun e' w' => e' = .returned (.bool (sz s n k p e)) ∧ w' = w.alloc (gc s n k p b e u) := by
  have HN := named_any s hs
  have HR : Hid (sz s n k p e = (nm s && (decide (1 ≤ n) && (decide (n ≤ 2147483647) && (decide (1 ≤ k) && (decide (k ≤ 3) && (decide (1 ≤ p) && (decide (p ≤ 512) && (decide (p ≤ n) && (decide (0 ≤ e) && decide (e ≤ 2147483647))))))))))) := by show _ = _; unfold sz gr; simp only [Bool.and_assoc]
  have hw : IntKind.i64.wrap n = n := by simp only [IntKind.wrap, IntKind.signed, IntKind.bits]; simp; omega
  cases h0 : nm s
  · rw [h0] at HN HR
    go_enter Try.func10, Try.ntmps10
    go_wp2_with (fail)
    refine (HN _).mono ?_
    rintro e1 w1 ⟨rfl, rfl⟩
    go_wp2
    all_goals go_ret
    all_goals exact ⟨ret_bool (by rw [HR.out]; rfl), rfl⟩
  rw [h0] at HN HR
  by_cases h1 : 1 ≤ n
  rotate_left
  · obtain rfl : n = 0 := by omega
    rw [decide_eq_false h1] at HR
    go_enter Try.func10, Try.ntmps10
    go_wp2_with (fail)
    refine (HN _).mono ?_
    rintro e0 w0 ⟨rfl, rfl⟩
    go_wp2
    all_goals go_ret
    all_goals exact ⟨ret_bool (by rw [HR.out]; first | rfl | (simp; done) | (simp; omega)), rfl⟩
  have hnz : (n == 0) = false := by simp; omega
  by_cases h2 : n ≤ 2147483647
  rotate_left
  ·
    rw [decide_eq_true h1, decide_eq_false h2] at HR
    go_enter Try.func10, Try.ntmps10
    go_wp2_with (fail)
    refine (HN _).mono ?_
    rintro e0 w0 ⟨rfl, rfl⟩
    go_wp2
    all_goals go_ret
    all_goals exact ⟨ret_bool (by rw [HR.out]; first | rfl | (simp; done) | (simp; omega)), rfl⟩
  by_cases h3 : 1 ≤ k
  rotate_left
  ·
    rw [decide_eq_true h1, decide_eq_true h2, decide_eq_false h3] at HR
    go_enter Try.func10, Try.ntmps10
    go_wp2_with (fail)
    refine (HN _).mono ?_
    rintro e0 w0 ⟨rfl, rfl⟩
    go_wp2
    all_goals go_ret
    all_goals exact ⟨ret_bool (by rw [HR.out]; first | rfl | (simp; done) | (simp; omega)), rfl⟩
  by_cases h4 : k ≤ 3
  rotate_left
  ·
    rw [decide_eq_true h1, decide_eq_true h2, decide_eq_true h3, decide_eq_false h4] at HR
    go_enter Try.func10, Try.ntmps10
    go_wp2_with (fail)
    refine (HN _).mono ?_
    rintro e0 w0 ⟨rfl, rfl⟩
    go_wp2
    all_goals go_ret
    all_goals exact ⟨ret_bool (by rw [HR.out]; first | rfl | (simp; done) | (simp; omega)), rfl⟩
  by_cases h5 : 1 ≤ p
  rotate_left
  ·
    rw [decide_eq_true h1, decide_eq_true h2, decide_eq_true h3, decide_eq_true h4, decide_eq_false h5] at HR
    go_enter Try.func10, Try.ntmps10
    go_wp2_with (fail)
    refine (HN _).mono ?_
    rintro e0 w0 ⟨rfl, rfl⟩
    go_wp2
    all_goals go_ret
    all_goals exact ⟨ret_bool (by rw [HR.out]; first | rfl | (simp; done) | (simp; omega)), rfl⟩
  by_cases h6 : p ≤ 512
  rotate_left
  ·
    rw [decide_eq_true h1, decide_eq_true h2, decide_eq_true h3, decide_eq_true h4, decide_eq_true h5, decide_eq_false h6] at HR
    go_enter Try.func10, Try.ntmps10
    go_wp2_with (fail)
    refine (HN _).mono ?_
    rintro e0 w0 ⟨rfl, rfl⟩
    go_wp2
    all_goals go_ret
    all_goals exact ⟨ret_bool (by rw [HR.out]; first | rfl | (simp; done) | (simp; omega)), rfl⟩
  by_cases h7 : p ≤ n
  rotate_left
  ·
    rw [decide_eq_true h1, decide_eq_true h2, decide_eq_true h3, decide_eq_true h4, decide_eq_true h5, decide_eq_true h6, decide_eq_false h7] at HR
    go_enter Try.func10, Try.ntmps10
    go_wp2_with (fail)
    refine (HN _).mono ?_
    rintro e0 w0 ⟨rfl, rfl⟩
    go_wp2
    all_goals go_ret
    all_goals exact ⟨ret_bool (by rw [HR.out]; first | rfl | (simp; done) | (simp; omega)), rfl⟩
  by_cases h8 : 0 ≤ e
  rotate_left
  ·
    rw [decide_eq_true h1, decide_eq_true h2, decide_eq_true h3, decide_eq_true h4, decide_eq_true h5, decide_eq_true h6, decide_eq_true h7, decide_eq_false h8] at HR
    go_enter Try.func10, Try.ntmps10
    go_wp2_with (fail)
    refine (HN _).mono ?_
    rintro e0 w0 ⟨rfl, rfl⟩
    go_wp2
    all_goals go_ret
    all_goals exact ⟨ret_bool (by rw [HR.out]; first | rfl | (simp; done) | (simp; omega)), rfl⟩
  by_cases h9 : e ≤ 2147483647
  rotate_left
  ·
    rw [decide_eq_true h1, decide_eq_true h2, decide_eq_true h3, decide_eq_true h4, decide_eq_true h5, decide_eq_true h6, decide_eq_true h7, decide_eq_true h8, decide_eq_false h9] at HR
    go_enter Try.func10, Try.ntmps10
    go_wp2_with (fail)
    refine (HN _).mono ?_
    rintro e0 w0 ⟨rfl, rfl⟩
    go_wp2
    all_goals go_ret
    all_goals exact ⟨ret_bool (by rw [HR.out]; first | rfl | (simp; done) | (simp; omega)), rfl⟩
  rw [decide_eq_true h1, decide_eq_true h2, decide_eq_true h3, decide_eq_true h4, decide_eq_true h5, decide_eq_true h6, decide_eq_true h7, decide_eq_true h8, decide_eq_true h9] at HR
  go_enter Try.func10, Try.ntmps10
  go_wp2_with (fail)
  refine (HN _).mono ?_
  rintro e0 w0 ⟨rfl, rfl⟩
  go_wp2
  all_goals go_ret
  all_goals exact ⟨ret_bool (by rw [HR.out]; first | rfl | (simp; done) | (simp; omega)), rfl⟩
end Wb
end Go.Proofs.Ytamlmjpkifnhaaa
