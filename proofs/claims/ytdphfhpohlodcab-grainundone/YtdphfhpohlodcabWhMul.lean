import Derived.Test.YtdphfhpohlodcabWhAdd
namespace Go.Proofs.Ytdphfhpohlodcab
namespace Wh
open Go.RowKit
theorem mul_any (a b : Int) (ha : Fit a) (hb : Fit b) (w : World) : Calls Try.prog 13 #[.int .i64 a, .int .i64 b] w (Two w (fv (a * b)) (fe (a * b))) := by
  by_cases za : a = 0
  · subst za
    have Hv : Hid (fv (0 * b) = 0 ∧ fe (0 * b) = 0) := by show _ ∧ _; rw [Int.zero_mul]; decide
    go_enter Try.func13, Try.ntmps13
    go_wp2
    go_ret2
    exact ⟨ret_two Hv.out.1.symm Hv.out.2.symm, rfl⟩
  have za' : (a == 0) = false := by simpa using za
  by_cases zb : b = 0
  · subst zb
    have Hv : Hid (fv (a * 0) = 0 ∧ fe (a * 0) = 0) := by show _ ∧ _; rw [Int.mul_zero]; decide
    go_enter Try.func13, Try.ntmps13
    go_wp2
    go_ret2
    exact ⟨ret_two Hv.out.1.symm Hv.out.2.symm, rfl⟩
  have zb' : (b == 0) = false := by simpa using zb
  by_cases ma : a = -1
  · subst ma
    go_enter Try.func13, Try.ntmps13
    go_wp2_with fail
    refine (neg_any b hb _).mono ?_
    rintro e1 w1 ⟨rfl, rfl⟩
    go_wp2
    go_ret2
    exact ⟨ret_two (by rw [Int.neg_one_mul]) (by rw [Int.neg_one_mul]), rfl⟩
  have ma' : (a == -1) = false := by simpa using ma
  by_cases h : Fit (a * b)
  · have Hv : Hid (fv (a * b) = a * b ∧ fe (a * b) = 0) := ⟨fv_in h, fe_in h⟩
    have Hw : Hid (wrap64 (a * b) = a * b) := IntWalk.wrap64_in _ h
    have t1 := mul_test a b za ma ha
    rw [show (!decide (Fit (a * b))) = false from by simp [h]] at t1
    obtain ⟨a1, a2⟩ := ha; obtain ⟨b1, b2⟩ := hb
    clear h
    go_enter Try.func13, Try.ntmps13
    go_wp2
    go_ret2
    exact ⟨ret_two (Hw.out.trans Hv.out.1.symm) Hv.out.2.symm, rfl⟩
  · have Hv : Hid (fv (a * b) = 0 ∧ fe (a * b) = 13) := ⟨fv_out h, fe_out h⟩
    have t1 := mul_test a b za ma ha
    rw [show (!decide (Fit (a * b))) = true from by simp [h]] at t1
    obtain ⟨a1, a2⟩ := ha; obtain ⟨b1, b2⟩ := hb
    clear h
    go_enter Try.func13, Try.ntmps13
    go_wp2
    go_ret2
    exact ⟨ret_two Hv.out.1.symm Hv.out.2.symm, rfl⟩
theorem rmul_any (a b : Int) (ha : Fit a) (hb : Fit b) (w : World) : Calls Try.prog 30 #[.int .i64 a, .int .i64 b] w (Two w (fv (a * b)) (fe (a * b))) := by
  by_cases za : a = 0
  · subst za
    have Hv : Hid (fv (0 * b) = 0 ∧ fe (0 * b) = 0) := by show _ ∧ _; rw [Int.zero_mul]; decide
    go_enter Try.func30, Try.ntmps30
    go_wp2
    go_ret2
    exact ⟨ret_two Hv.out.1.symm Hv.out.2.symm, rfl⟩
  have za' : (a == 0) = false := by simpa using za
  by_cases zb : b = 0
  · subst zb
    have Hv : Hid (fv (a * 0) = 0 ∧ fe (a * 0) = 0) := by show _ ∧ _; rw [Int.mul_zero]; decide
    go_enter Try.func30, Try.ntmps30
    go_wp2
    go_ret2
    exact ⟨ret_two Hv.out.1.symm Hv.out.2.symm, rfl⟩
  have zb' : (b == 0) = false := by simpa using zb
  by_cases mb : b = -1
  · subst mb
    by_cases c2 : a = -9223372036854775808
    · subst c2
      have Hv : Hid (fv (-9223372036854775808 * -1) = 0 ∧ fe (-9223372036854775808 * -1) = 13) := by show _ ∧ _; decide
      go_enter Try.func30, Try.ntmps30
      go_wp2
      go_ret2
      exact ⟨ret_two Hv.out.1.symm Hv.out.2.symm, rfl⟩
    · have c2' : (a == -9223372036854775808) = false := by simpa using c2
      have hf : Fit (a * -1) := by unfold Fit at *; omega
      have Hv : Hid (fv (a * -1) = a * -1 ∧ fe (a * -1) = 0) := ⟨fv_in hf, fe_in hf⟩
      have n1 : -9223372036854775808 ≤ -a := by unfold Fit at *; omega
      have n2 : -a ≤ 9223372036854775807 := by unfold Fit at *; omega
      have d1 : (-a).tdiv (-1) = a := by rw [Int.tdiv_neg, Int.tdiv_one]; omega
      obtain ⟨a1, a2⟩ := ha
      clear hf hb
      by_cases ma : a = -1
      · subst ma
        go_enter Try.func30, Try.ntmps30
        go_wp2
        go_ret2
        exact ⟨ret_two (by rw [Hv.out.1]; rfl) Hv.out.2.symm, rfl⟩
      · have ma' : (a == -1) = false := by simpa using ma
        go_enter Try.func30, Try.ntmps30
        go_wp2
        go_ret2
        exact ⟨ret_two (by rw [Hv.out.1]; omega) Hv.out.2.symm, rfl⟩
  have mb' : (b == -1) = false := by simpa using mb
  by_cases ma : a = -1
  · subst ma
    by_cases c2 : b = -9223372036854775808
    · subst c2
      have Hv : Hid (fv (-1 * -9223372036854775808) = 0 ∧ fe (-1 * -9223372036854775808) = 13) := by show _ ∧ _; decide
      go_enter Try.func30, Try.ntmps30
      go_wp2
      go_ret2
      exact ⟨ret_two Hv.out.1.symm Hv.out.2.symm, rfl⟩
    · have c2' : (b == -9223372036854775808) = false := by simpa using c2
      have hf : Fit (-1 * b) := by unfold Fit at *; omega
      have Hv : Hid (fv (-1 * b) = -1 * b ∧ fe (-1 * b) = 0) := ⟨fv_in hf, fe_in hf⟩
      have n1 : -9223372036854775808 ≤ -b := by unfold Fit at *; omega
      have n2 : -b ≤ 9223372036854775807 := by unfold Fit at *; omega
      have d1 : (-b).tdiv b = -1 := by rw [Int.neg_tdiv, Int.tdiv_self zb]
      obtain ⟨b1, b2⟩ := hb
      clear hf ha
      go_enter Try.func30, Try.ntmps30
      go_wp2
      go_ret2
      exact ⟨ret_two (by rw [Hv.out.1]; omega) Hv.out.2.symm, rfl⟩
  have ma' : (a == -1) = false := by simpa using ma
  by_cases h : Fit (a * b)
  · have Hv : Hid (fv (a * b) = a * b ∧ fe (a * b) = 0) := ⟨fv_in h, fe_in h⟩
    have Hw : Hid (wrap64 (a * b) = a * b) := IntWalk.wrap64_in _ h
    have t1 := mul_test' a b zb mb hb
    rw [show (!decide (Fit (a * b))) = false from by simp [h]] at t1
    obtain ⟨a1, a2⟩ := ha; obtain ⟨b1, b2⟩ := hb
    clear h
    go_enter Try.func30, Try.ntmps30
    go_wp2
    go_ret2
    exact ⟨ret_two (Hw.out.trans Hv.out.1.symm) Hv.out.2.symm, rfl⟩
  · have Hv : Hid (fv (a * b) = 0 ∧ fe (a * b) = 13) := ⟨fv_out h, fe_out h⟩
    have t1 := mul_test' a b zb mb hb
    rw [show (!decide (Fit (a * b))) = true from by simp [h]] at t1
    obtain ⟨a1, a2⟩ := ha; obtain ⟨b1, b2⟩ := hb
    clear h
    go_enter Try.func30, Try.ntmps30
    go_wp2
    go_ret2
    exact ⟨ret_two Hv.out.1.symm Hv.out.2.symm, rfl⟩
theorem quo_any (a b : Int) (ha : Fit a) (hb : Fit b) (w : World) : Calls Try.prog 11 #[.int .i64 a, .int .i64 b] w (Two w (qv a b) (qe a b)) := by
  by_cases zb : b = 0
  · subst zb
    have Hv : Hid (qv a 0 = 0 ∧ qe a 0 = 14) := q_zero a
    go_enter Try.func11, Try.ntmps11
    go_wp2
    go_ret2
    exact ⟨ret_two Hv.out.1.symm Hv.out.2.symm, rfl⟩
  have zb' : (b == 0) = false := by simpa using zb
  by_cases mb : b = -1
  · subst mb
    go_enter Try.func11, Try.ntmps11
    go_wp2_with fail
    refine (neg_any a ha _).mono ?_
    rintro e1 w1 ⟨rfl, rfl⟩
    go_wp2
    go_ret2
    exact ⟨ret_two (q_neg a).1.symm (q_neg a).2.symm, rfl⟩
  have mb' : (b == -1) = false := by simpa using mb
  have Hv : Hid (qv a b = wrap64 (a.tdiv b) ∧ qe a b = 0) := q_else a b ha zb mb
  obtain ⟨a1, a2⟩ := ha; obtain ⟨b1, b2⟩ := hb
  go_enter Try.func11, Try.ntmps11
  go_wp2
  go_ret2
  exact ⟨ret_two Hv.out.1.symm Hv.out.2.symm, rfl⟩
theorem rquo_any (a b : Int) (ha : Fit a) (hb : Fit b) (w : World) : Calls Try.prog 31 #[.int .i64 a, .int .i64 b] w (Two w (qv a b) (qe a b)) := by
  by_cases zb : b = 0
  · subst zb
    have Hv : Hid (qv a 0 = 0 ∧ qe a 0 = 14) := q_zero a
    go_enter Try.func31, Try.ntmps31
    go_wp2
    go_ret2
    exact ⟨ret_two Hv.out.1.symm Hv.out.2.symm, rfl⟩
  have zb' : (b == 0) = false := by simpa using zb
  by_cases mb : b = -1
  · subst mb
    go_enter Try.func31, Try.ntmps31
    go_wp2_with fail
    refine (rneg_any a ha _).mono ?_
    rintro e1 w1 ⟨rfl, rfl⟩
    go_wp2
    go_ret2
    exact ⟨ret_two (q_neg a).1.symm (q_neg a).2.symm, rfl⟩
  have mb' : (b == -1) = false := by simpa using mb
  have Hv : Hid (qv a b = wrap64 (a.tdiv b) ∧ qe a b = 0) := q_else a b ha zb mb
  obtain ⟨a1, a2⟩ := ha; obtain ⟨b1, b2⟩ := hb
  go_enter Try.func31, Try.ntmps31
  go_wp2
  go_ret2
  exact ⟨ret_two Hv.out.1.symm Hv.out.2.symm, rfl⟩
theorem rem_any (a b : Int) (ha : Fit a) (hb : Fit b) (w : World) : Calls Try.prog 12 #[.int .i64 a, .int .i64 b] w (Two w (mv a b) (me b)) := by
  by_cases zb : b = 0
  · subst zb
    have Hv : Hid (mv a 0 = 0 ∧ me 0 = 14) := m_zero a
    go_enter Try.func12, Try.ntmps12
    go_wp2
    go_ret2
    exact ⟨ret_two Hv.out.1.symm Hv.out.2.symm, rfl⟩
  have zb' : (b == 0) = false := by simpa using zb
  by_cases mb : b = -1
  · subst mb
    have Hv : Hid (mv a (-1) = 0 ∧ me (-1) = 0) := m_neg a
    go_enter Try.func12, Try.ntmps12
    go_wp2
    go_ret2
    exact ⟨ret_two Hv.out.1.symm Hv.out.2.symm, rfl⟩
  have mb' : (b == -1) = false := by simpa using mb
  have Hv : Hid (mv a b = a.tmod b ∧ me b = 0) := m_else a b zb
  obtain ⟨f1, f2⟩ := tmod_fit a b ha
  obtain ⟨a1, a2⟩ := ha; obtain ⟨b1, b2⟩ := hb
  go_enter Try.func12, Try.ntmps12
  go_wp2
  go_ret2
  exact ⟨ret_two Hv.out.1.symm Hv.out.2.symm, rfl⟩
theorem rrem_any (a b : Int) (ha : Fit a) (hb : Fit b) (w : World) : Calls Try.prog 32 #[.int .i64 a, .int .i64 b] w (Two w (mv a b) (me b)) := by
  by_cases zb : b = 0
  · subst zb
    have Hv : Hid (mv a 0 = 0 ∧ me 0 = 14) := m_zero a
    go_enter Try.func32, Try.ntmps32
    go_wp2
    go_ret2
    exact ⟨ret_two Hv.out.1.symm Hv.out.2.symm, rfl⟩
  have zb' : (b == 0) = false := by simpa using zb
  by_cases mb : b = -1
  · subst mb
    have Hv : Hid (mv a (-1) = 0 ∧ me (-1) = 0) := m_neg a
    go_enter Try.func32, Try.ntmps32
    go_wp2
    go_ret2
    exact ⟨ret_two Hv.out.1.symm Hv.out.2.symm, rfl⟩
  have mb' : (b == -1) = false := by simpa using mb
  have Hv : Hid (mv a b = a.tmod b ∧ me b = 0) := m_else a b zb
  obtain ⟨f1, f2⟩ := tmod_fit a b ha
  obtain ⟨a1, a2⟩ := ha; obtain ⟨b1, b2⟩ := hb
  go_enter Try.func32, Try.ntmps32
  go_wp2
  go_ret2
  exact ⟨ret_two Hv.out.1.symm Hv.out.2.symm, rfl⟩
end Wh
end Go.Proofs.Ytdphfhpohlodcab
