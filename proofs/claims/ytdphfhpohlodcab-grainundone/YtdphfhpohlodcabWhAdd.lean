import Derived.Test.YtdphfhpohlodcabRows
import Derived.Test.YtdphfhpohlodcabWhMath
import Derived.WalkKit
namespace Go.Proofs.Ytdphfhpohlodcab
namespace Wh
open Go.RowKit
theorem num_any (e : Int) (w : World) : Calls Try.prog 8 #[.int .i64 e] w fun e' w' => e' = .returned (.int .i64 e) ∧ w' = w := by
  go_enter Try.func8, Try.ntmps8
  go_wp2
  go_ret
  exact ⟨rfl, rfl⟩
def Two (w : World) (n m : Int) (e : Ending) (w' : World) : Prop := e = .returned (.tuple #[.int .i64 n, .int .i64 m]) ∧ w' = w
theorem add_any (a b : Int) (ha : Fit a) (hb : Fit b) (w : World) : Calls Try.prog 7 #[.int .i64 a, .int .i64 b] w (Two w (fv (a + b)) (fe (a + b))) := by
  obtain ⟨a1, a2⟩ := ha; obtain ⟨b1, b2⟩ := hb
  by_cases h : Fit (a + b)
  · have Hv : Hid (fv (a + b) = a + b ∧ fe (a + b) = 0) := ⟨fv_in h, fe_in h⟩
    obtain ⟨h1, h2⟩ := h
    by_cases hp : 0 < b
    · have t1 : decide (a < a + b) = true := by simp; omega
      go_enter Try.func7, Try.ntmps7
      go_wp2
      go_ret2
      exact ⟨ret_two Hv.out.1.symm Hv.out.2.symm, rfl⟩
    · have t1 : decide (a < a + b) = false := by simp; omega
      have hp' : b ≤ 0 := by omega
      go_enter Try.func7, Try.ntmps7
      go_wp2
      go_ret2
      exact ⟨ret_two Hv.out.1.symm Hv.out.2.symm, rfl⟩
  · have Hv : Hid (fv (a + b) = 0 ∧ fe (a + b) = 13) := ⟨fv_out h, fe_out h⟩
    unfold Fit at h
    by_cases hp : 0 < b
    · have t1 : decide (a < wrap64 (a + b)) = false := by simp; unfold wrap64; omega
      go_enter Try.func7, Try.ntmps7
      go_wp2
      go_ret2
      exact ⟨ret_two Hv.out.1.symm Hv.out.2.symm, rfl⟩
    · have t1 : decide (a < wrap64 (a + b)) = true := by simp; unfold wrap64; omega
      have hp' : b ≤ 0 := by omega
      go_enter Try.func7, Try.ntmps7
      go_wp2
      go_ret2
      exact ⟨ret_two Hv.out.1.symm Hv.out.2.symm, rfl⟩
theorem sub_any (a b : Int) (ha : Fit a) (hb : Fit b) (w : World) : Calls Try.prog 9 #[.int .i64 a, .int .i64 b] w (Two w (fv (a - b)) (fe (a - b))) := by
  obtain ⟨a1, a2⟩ := ha; obtain ⟨b1, b2⟩ := hb
  by_cases h : Fit (a - b)
  · have Hv : Hid (fv (a - b) = a - b ∧ fe (a - b) = 0) := ⟨fv_in h, fe_in h⟩
    obtain ⟨h1, h2⟩ := h
    by_cases hp : 0 < b
    · have t1 : decide (a - b < a) = true := by simp; omega
      go_enter Try.func9, Try.ntmps9
      go_wp2
      go_ret2
      exact ⟨ret_two Hv.out.1.symm Hv.out.2.symm, rfl⟩
    · have t1 : decide (a - b < a) = false := by simp; omega
      have hp' : b ≤ 0 := by omega
      go_enter Try.func9, Try.ntmps9
      go_wp2
      go_ret2
      exact ⟨ret_two Hv.out.1.symm Hv.out.2.symm, rfl⟩
  · have Hv : Hid (fv (a - b) = 0 ∧ fe (a - b) = 13) := ⟨fv_out h, fe_out h⟩
    unfold Fit at h
    by_cases hp : 0 < b
    · have t1 : decide (wrap64 (a - b) < a) = false := by simp; unfold wrap64; omega
      go_enter Try.func9, Try.ntmps9
      go_wp2
      go_ret2
      exact ⟨ret_two Hv.out.1.symm Hv.out.2.symm, rfl⟩
    · have t1 : decide (wrap64 (a - b) < a) = true := by simp; unfold wrap64; omega
      have hp' : b ≤ 0 := by omega
      go_enter Try.func9, Try.ntmps9
      go_wp2
      go_ret2
      exact ⟨ret_two Hv.out.1.symm Hv.out.2.symm, rfl⟩
theorem radd_any (a b : Int) (ha : Fit a) (hb : Fit b) (w : World) : Calls Try.prog 28 #[.int .i64 a, .int .i64 b] w (Two w (fv (a + b)) (fe (a + b))) := by
  obtain ⟨a1, a2⟩ := ha; obtain ⟨b1, b2⟩ := hb
  by_cases h : Fit (a + b)
  · have Hv : Hid (fv (a + b) = a + b ∧ fe (a + b) = 0) := ⟨fv_in h, fe_in h⟩
    obtain ⟨h1, h2⟩ := h
    by_cases hp : 0 < b
    · have t1 : a ≤ 9223372036854775807 - b := by omega
      go_enter Try.func28, Try.ntmps28
      go_wp2
      go_ret2
      exact ⟨ret_two Hv.out.1.symm Hv.out.2.symm, rfl⟩
    · have hp' : b ≤ 0 := by omega
      by_cases hn : b < 0
      · have t1 : -9223372036854775808 - b ≤ a := by omega
        go_enter Try.func28, Try.ntmps28
        go_wp2
        go_ret2
        exact ⟨ret_two Hv.out.1.symm Hv.out.2.symm, rfl⟩
      · have hn' : 0 ≤ b := by omega
        go_enter Try.func28, Try.ntmps28
        go_wp2
        go_ret2
        exact ⟨ret_two Hv.out.1.symm Hv.out.2.symm, rfl⟩
  · have Hv : Hid (fv (a + b) = 0 ∧ fe (a + b) = 13) := ⟨fv_out h, fe_out h⟩
    unfold Fit at h
    by_cases hp : 0 < b
    · have t1 : 9223372036854775807 - b < a := by omega
      clear h
      go_enter Try.func28, Try.ntmps28
      go_wp2
      go_ret2
      exact ⟨ret_two Hv.out.1.symm Hv.out.2.symm, rfl⟩
    · have hp' : b ≤ 0 := by omega
      have hn : b < 0 := by omega
      have t1 : a < -9223372036854775808 - b := by omega
      clear h
      go_enter Try.func28, Try.ntmps28
      go_wp2
      go_ret2
      exact ⟨ret_two Hv.out.1.symm Hv.out.2.symm, rfl⟩
theorem rsub_any (a b : Int) (ha : Fit a) (hb : Fit b) (w : World) : Calls Try.prog 29 #[.int .i64 a, .int .i64 b] w (Two w (fv (a - b)) (fe (a - b))) := by
  obtain ⟨a1, a2⟩ := ha; obtain ⟨b1, b2⟩ := hb
  by_cases h : Fit (a - b)
  · have Hv : Hid (fv (a - b) = a - b ∧ fe (a - b) = 0) := ⟨fv_in h, fe_in h⟩
    obtain ⟨h1, h2⟩ := h
    by_cases hp : b < 0
    · have t1 : a ≤ 9223372036854775807 + b := by omega
      go_enter Try.func29, Try.ntmps29
      go_wp2
      go_ret2
      exact ⟨ret_two Hv.out.1.symm Hv.out.2.symm, rfl⟩
    · have hp' : 0 ≤ b := by omega
      by_cases hn : 0 < b
      · have t1 : -9223372036854775808 + b ≤ a := by omega
        go_enter Try.func29, Try.ntmps29
        go_wp2
        go_ret2
        exact ⟨ret_two Hv.out.1.symm Hv.out.2.symm, rfl⟩
      · have hn' : b ≤ 0 := by omega
        go_enter Try.func29, Try.ntmps29
        go_wp2
        go_ret2
        exact ⟨ret_two Hv.out.1.symm Hv.out.2.symm, rfl⟩
  · have Hv : Hid (fv (a - b) = 0 ∧ fe (a - b) = 13) := ⟨fv_out h, fe_out h⟩
    unfold Fit at h
    by_cases hp : b < 0
    · have t1 : 9223372036854775807 + b < a := by omega
      clear h
      go_enter Try.func29, Try.ntmps29
      go_wp2
      go_ret2
      exact ⟨ret_two Hv.out.1.symm Hv.out.2.symm, rfl⟩
    · have hp' : 0 ≤ b := by omega
      have hn : 0 < b := by omega
      have t1 : a < -9223372036854775808 + b := by omega
      clear h
      go_enter Try.func29, Try.ntmps29
      go_wp2
      go_ret2
      exact ⟨ret_two Hv.out.1.symm Hv.out.2.symm, rfl⟩
theorem neg_any (a : Int) (ha : Fit a) (w : World) : Calls Try.prog 33 #[.int .i64 a] w (Two w (fv (-a)) (fe (-a))) := by
  by_cases h : a = -9223372036854775808
  · subst h
    have Hv : Hid (fv (- -9223372036854775808) = 0 ∧ fe (- -9223372036854775808) = 13) := by show _ ∧ _; decide
    go_enter Try.func33, Try.ntmps33
    go_wp2
    go_ret2
    exact ⟨ret_two Hv.out.1.symm Hv.out.2.symm, rfl⟩
  · have hf : Fit (-a) := by unfold Fit at *; omega
    have Hv : Hid (fv (-a) = -a ∧ fe (-a) = 0) := ⟨fv_in hf, fe_in hf⟩
    have t1 : (a == -9223372036854775808) = false := by simpa using h
    obtain ⟨a1, a2⟩ := ha; obtain ⟨b1, b2⟩ := hf
    go_enter Try.func33, Try.ntmps33
    go_wp2
    go_ret2
    exact ⟨ret_two Hv.out.1.symm Hv.out.2.symm, rfl⟩
theorem rneg_any (a : Int) (ha : Fit a) (w : World) : Calls Try.prog 34 #[.int .i64 a] w (Two w (fv (-a)) (fe (-a))) := by
  go_enter Try.func34, Try.ntmps34
  go_wp2_with fail
  refine (rsub_any 0 a (by unfold Fit; omega) ha _).mono ?_
  rintro e1 w1 ⟨rfl, rfl⟩
  rw [show (0 : Int) - a = -a from by omega]
  go_wp2
  go_ret2
  exact ⟨rfl, rfl⟩
end Wh
end Go.Proofs.Ytdphfhpohlodcab
