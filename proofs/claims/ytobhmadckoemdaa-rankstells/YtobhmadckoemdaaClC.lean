import Derived.Test.YtobhmadckoemdaaClB
namespace Go.Proofs.Ytobhmadckoemdaa
namespace Cl
open Go.RowKit
theorem size_any (s : Int) (h0 : 0 ≤ s) (h1 : s < 2147483648) (w : World) : Calls Try.prog 34 #[.int .u32 s] w fun e w' => e = .returned (.tuple #[.int .u64 (M0 s), .int .i64 (E0 s)]) ∧ w' = w := by
  have x0 : 0 ≤ s / 8388608 := by omega
  have x1 : s / 8388608 < 256 := by omega
  have m0 : 0 ≤ s % 8388608 := by omega
  have m1 : s % 8388608 < 8388608 := by omega
  by_cases hx : s / 8388608 = 0
  · have HM : Hid (M0 s = s % 8388608) := by show _ = _; unfold M0; rw [if_pos hx]; omega
    have HE : Hid (E0 s = -149) := by show _ = _; unfold E0; rw [if_pos hx]
    go_enter Try.func34, Try.ntmps34
    go_wp2
    go_ret2
    exact ⟨ret_two HM.out.symm HE.out.symm, rfl⟩
  · have HM : Hid (M0 s = s % 8388608 + 8388608) := by show _ = _; unfold M0; rw [if_neg hx]
    have HE : Hid (E0 s = s / 8388608 - 150) := by show _ = _; unfold E0; rw [if_neg hx]
    have hx' : (s / 8388608 == 0) = false := by simpa using hx
    go_enter Try.func34, Try.ntmps34
    go_wp2
    go_ret2
    exact ⟨ret_two HM.out.symm HE.out.symm, rfl⟩
theorem odd_tz (n k y : Nat) (h : n = 2 ^ k * y) (hy : y % 2 = 1) (hn : n < 2 ^ 32) : tz n 32 = k ∧ n / 2 ^ k = y := by
  have h2 : y = 2 * (y / 2) + 1 := by omega
  have hk : k < 32 := by
    apply Nat.lt_of_not_le; intro hc
    have a1 : 2 ^ 32 ≤ 2 ^ k := Nat.pow_le_pow_right (by omega) hc
    have a2 : 2 ^ k * 1 ≤ 2 ^ k * y := Nat.mul_le_mul_left _ (by omega)
    omega
  refine ⟨?_, ?_⟩
  · rw [h, h2]; exact tz_unique k (y / 2) 32 hk
  · rw [h, Nat.mul_div_cancel_left _ (Nat.two_pow_pos k)]
theorem cls_inf (u : Int) (h : 2139095040 ≤ u % 2147483648) : cls u = 3 ∨ cls u = 4 := by
  unfold cls; rw [if_neg (by omega), if_neg (by omega), if_neg (by omega)]; split <;> simp
theorem cls_fin (u : Int) (h : u % 2147483648 < 2139095040) : ¬ cls u = 3 ∧ ¬ cls u = 4 := by
  unfold cls; repeat' split
  all_goals omega
set_option maxHeartbeats 600000 in
theorem rparts_any (u : Int) (h0 : 0 ≤ u) (h1 : u < 4294967296) (w : World) : Calls Try.prog 28 #[.int .u32 u] w (Four w u) := by
  have s0 : 0 ≤ u % 2147483648 := by omega
  have s1 : u % 2147483648 < 2147483648 := by omega
  by_cases hi : 2139095040 ≤ u % 2147483648
  · have H : Hid (pn u = false ∧ pm u = 0 ∧ pe u = 0 ∧ pr u = 16) := p_inf u hi
    have hc := cls_inf u hi
    go_enter Try.func28, Try.ntmps28
    go_wp2_with fail
    refine (rclass_any u h0 h1 _).mono ?_
    rintro e9 w9 ⟨rfl, hw9⟩
    subst w9
    rcases hc with hc | hc
    all_goals
      rw [hc]
      clear hc
      go_wp2
      go_returns
      exact ⟨ret_four H.out.1.symm H.out.2.1.symm H.out.2.2.1.symm H.out.2.2.2.symm, 0, rfl⟩
  have hi' : u % 2147483648 < 2139095040 := by omega
  obtain ⟨c3, c4⟩ := cls_fin u hi'
  have c3' : (cls u == 3) = false := by simpa using c3
  have c4' : (cls u == 4) = false := by simpa using c4
  clear c3 c4
  by_cases hz : u % 2147483648 = 0
  · have H : Hid (pn u = decide (2147483648 ≤ u) ∧ pm u = 0 ∧ pe u = 0 ∧ pr u = 0) := p_zero u hz
    have hm : M0 (u % 2147483648) = 0 := by rw [hz]; decide
    clear hz
    go_enter Try.func28, Try.ntmps28
    go_wp2_with fail
    refine (rclass_any u h0 h1 _).mono ?_
    rintro e9 w9 ⟨rfl, hw9⟩
    subst w9
    go_wp2_with fail
    refine (size_any _ s0 s1 _).mono ?_
    rintro e9 w9 ⟨rfl, hw9⟩
    subst w9
    rw [hm]
    clear hm
    go_wp2
    go_returns
    exact ⟨ret_four H.out.1.symm H.out.2.1.symm H.out.2.2.1.symm H.out.2.2.2.symm, 0, rfl⟩
  have H : Hid (pn u = decide (2147483648 ≤ u) ∧ pm u = M0 (u % 2147483648) / 2 ^ tz (M0 (u % 2147483648)).toNat 32 ∧ pe u = E0 (u % 2147483648) + tzI (M0 (u % 2147483648)) ∧ pr u = 0) := p_fin u hi' hz
  have mb := M0_b (u % 2147483648) (by omega) s1
  have eb := E0_b (u % 2147483648) s0 s1
  go_enter Try.func28, Try.ntmps28
  go_wp2_with fail
  refine (rclass_any u h0 h1 _).mono ?_
  rintro e9 w9 ⟨rfl, hw9⟩
  subst w9
  go_wp2_with fail
  refine (size_any _ s0 s1 _).mono ?_
  rintro e9 w9 ⟨rfl, hw9⟩
  subst w9
  generalize M0 (u % 2147483648) = m at *
  generalize E0 (u % 2147483648) = x at *
  obtain ⟨n, rfl⟩ := Int.eq_ofNat_of_zero_le (show 0 ≤ m by omega)
  have hn : ((n : Int) == 0) = false := by simp; omega
  clear hz hi hi'
  go_wp2
  go_loop [8, 9] (fun a b => ∃ k y : Nat, k ≤ 24 ∧ n = 2 ^ k * y ∧ 0 < y ∧ y ≤ n ∧ a = .int .u64 y ∧ b = .int .i64 (x + k)) (fun a _ => (intOf a).toNat)
  case atStart => exact ⟨0, n, by omega, by simp, by omega, Nat.le_refl _, rfl, by simp⟩
  case round =>
    obtain ⟨k, y, hk, hny, hy, hyn, rfl, rfl⟩ := hrel
    have HN : Hid (n = 2 ^ k * y) := hny
    clear hny
    by_cases he : y % 2 = 0
    · have he' : ((y : Int) % 2 == 0) = true := by simp; omega
      go_wp2
      go_round
      case rel =>
        have hh := HN.out
        have h2 : y = 2 * (y / 2) := by omega
        have h3 : n = 2 ^ (k + 1) * (y / 2) := by rw [hh, Nat.pow_succ, Nat.mul_assoc, ← h2]
        have h4 : k + 1 ≤ 24 := by
          apply Nat.le_of_not_lt; intro hc
          have a1 : 2 ^ 25 ≤ 2 ^ (k + 1) := Nat.pow_le_pow_right (by omega) (by omega)
          have a2 : 2 ^ (k + 1) * 1 ≤ 2 ^ (k + 1) * (y / 2) := Nat.mul_le_mul_left _ (by omega)
          omega
        exact ⟨k + 1, y / 2, h4, h3, by omega, by omega, by go_num, by congr 1; omega⟩
      case measure => simp [intOf]; omega
    · have he' : ((y : Int) % 2 == 0) = false := by simp; omega
      obtain ⟨t1, t2⟩ := odd_tz n k y HN.out (by omega) (by omega)
      have HV : Hid ((n : Int) / 2 ^ tz ((n : Int)).toNat 32 = y ∧ tzI n = k) := by
        show _ ∧ _
        unfold tzI
        rw [Int.toNat_natCast, t1]
        refine ⟨?_, rfl⟩
        rw [← t2]; simp
      clear t1 t2 HN
      go_wp2
      go_returns
      exact ⟨ret_four H.out.1.symm (H.out.2.1.trans HV.out.1).symm (H.out.2.2.1.trans (by rw [HV.out.2])).symm H.out.2.2.2.symm, 0, rfl⟩
end Cl
end Go.Proofs.Ytobhmadckoemdaa
