import Derived.Test.YtdphfhpohlodcabOrAdd
namespace Go.Proofs.Ytdphfhpohlodcab
namespace Od
open Go.RowKit Rd Cl
set_option linter.unusedVariables false
/-- What 'full' tells of a finite number that is no zero. -/
def Full (s x e : Int) : Prop := 8388608 ≤ x ∧ x < 16777216 ∧ ∃ i : Nat, x = M0 s * 2 ^ i ∧ e = E0 s - i
theorem ret_three {a : Bool} {k1 k2 : IntKind} {c d e f : Int} (h2 : c = d) (h3 : e = f) :
    Ending.returned (.tuple #[.bool a, .int k1 c, .int k2 e]) = .returned (.tuple #[.bool a, .int k1 d, .int k2 f]) := by rw [h2, h3]
theorem full_zero (u : Int) (h0 : 0 ≤ u) (h1 : u < 4294967296) (hz : u % 2147483648 = 0) (w : World) :
    Calls Try.prog 41 #[.int .u32 u] w fun e w' => e = .returned (.tuple #[.bool (decide (2147483648 ≤ u)), .int .u64 0, .int .i64 0]) ∧ w' = w := by
  obtain ⟨q1, q2, q3, q4⟩ := p_zero u hz
  have H : Hid (pn u = decide (2147483648 ≤ u) ∧ pm u = 0 ∧ pe u = 0 ∧ pr u = 0) := ⟨q1, q2, q3, q4⟩
  clear q1 q2 q3 q4 hz
  go_enter Try.func41, Try.ntmps41
  go_wp2_with fail
  refine (rparts_any u h0 h1 _).mono ?_
  rintro e9 w9 ⟨rfl, hw9⟩
  subst w9
  rw [H.out.1, H.out.2.1, H.out.2.2.1, H.out.2.2.2]
  go_wp2
  go_rounds 1
  all_goals go_returns
  all_goals exact ⟨rfl, rfl⟩
theorem pm_tz (M : Int) (h0 : 0 < M) (h1 : M < 16777216) : ∃ (p t : Nat), M / 2 ^ tz M.toNat 32 = (p : Int) ∧ tzI M = (t : Int) ∧ M = (p : Int) * 2 ^ t ∧ 0 < p ∧ (p : Int) ≤ M ∧ t < 32 := by
  obtain ⟨n, rfl⟩ := Int.eq_ofNat_of_zero_le (show 0 ≤ M by omega)
  obtain ⟨h2, j, hj⟩ := tz_spec 32 n (by omega) (by omega)
  have hp := Nat.two_pow_pos (tz n 32)
  have e : n / 2 ^ tz n 32 = 2 * j + 1 := by
    have := Nat.mul_div_cancel_left (2 * j + 1) hp
    rw [← hj] at this; exact this
  refine ⟨n / 2 ^ tz n 32, tz n 32, by simp, by unfold tzI; simp, ?_, by omega, ?_, h2⟩
  · rw [e]
    have : (n : Int) = ((2 ^ tz n 32 * (2 * j + 1) : Nat) : Int) := by rw [← hj]
    rw [this]; simp [Int.mul_comm]
  · have : n / 2 ^ tz n 32 ≤ n := Nat.div_le_self _ _
    exact_mod_cast this
set_option maxRecDepth 100000 in
set_option maxHeartbeats 600000 in
theorem full_any (u : Int) (h0 : 0 ≤ u) (h1 : u < 4294967296) (hi : u % 2147483648 < 2139095040) (hz : ¬ u % 2147483648 = 0) (w : World) :
    Calls Try.prog 41 #[.int .u32 u] w fun e w' => ∃ x f, e = .returned (.tuple #[.bool (decide (2147483648 ≤ u)), .int .u64 x, .int .i64 f]) ∧ Full (u % 2147483648) x f ∧ w' = w := by
  obtain ⟨q1, q2, q3, q4⟩ := p_fin u hi hz
  have s0 : 0 ≤ u % 2147483648 := by omega
  have mb := M0_b (u % 2147483648) (by omega) (by omega)
  have eb := E0_b (u % 2147483648) s0 (by omega)
  obtain ⟨p, t, hp, ht, hM, hp0, hpM, ht32⟩ := pm_tz (M0 (u % 2147483648)) mb.1 mb.2
  rw [hp] at q2
  rw [ht] at q3
  have H : Hid (pn u = decide (2147483648 ≤ u) ∧ pm u = (p : Int) ∧ pe u = E0 (u % 2147483648) + (t : Int) ∧ pr u = 0) := ⟨q1, q2, q3, q4⟩
  have HM : Hid (M0 (u % 2147483648) = (p : Int) * 2 ^ t) := hM
  have hpb : (p : Int) < 16777216 := by omega
  clear q1 q2 q3 q4 hp ht hM
  go_enter Try.func41, Try.ntmps41
  go_wp2_with fail
  refine (rparts_any u h0 h1 _).mono ?_
  rintro e9 w9 ⟨rfl, hw9⟩
  subst w9
  rw [H.out.1, H.out.2.1, H.out.2.2.1, H.out.2.2.2]
  clear H
  go_wp2
  go_loop [7, 9] (fun a b => ∃ j y : Nat, j ≤ 24 ∧ y = p * 2 ^ j ∧ 0 < y ∧ y < 16777216 ∧ b = .int .u64 y ∧ a = .int .i64 (E0 (u % 2147483648) + t - j)) (fun _ b => 16777216 - (intOf b).toNat)
  case atStart => exact ⟨0, p, by omega, by simp, hp0, by omega, rfl, by congr 1; omega⟩
  case round =>
    obtain ⟨j, y, hj, hy, hy0, hy1, rfl, rfl⟩ := hrel
    have HY : Hid (y = p * 2 ^ j) := hy
    clear hy
    by_cases hlt : y < 8388608
    · have y1 : 0 < (y : Int) := by omega
      have y2 : (y : Int) < 8388608 := by omega
      go_wp2
      go_round
      case rel =>
        have hh := HY.out
        have h2 : 2 * y = p * 2 ^ (j + 1) := by rw [hh, Nat.pow_succ, Nat.mul_comm 2, Nat.mul_assoc]
        have h4 : j + 1 ≤ 24 := by
          apply Nat.le_of_not_lt; intro hc
          have a1 : 2 ^ 24 ≤ 2 ^ j := Nat.pow_le_pow_right (by omega) (by omega)
          have a2 : 1 * 2 ^ j ≤ p * 2 ^ j := Nat.mul_le_mul_right _ hp0
          omega
        exact ⟨j + 1, 2 * y, h4, h2, by omega, by omega, by go_num, by congr 1; omega⟩
      case measure => simp [intOf]; omega
    · have y1 : 0 < (y : Int) := by omega
      have y2 : 8388608 ≤ (y : Int) := by omega
      have HF : Hid (Full (u % 2147483648) (y : Int) (E0 (u % 2147483648) + t - j)) := by
        show Full _ _ _
        have hh := HY.out
        have hm := HM.out
        have hjt : t ≤ j := by
          apply Nat.le_of_not_lt; intro hc
          have a1 : 2 ^ (j + 1) ≤ 2 ^ t := Nat.pow_le_pow_right (by omega) hc
          have a2 : p * 2 ^ (j + 1) ≤ p * 2 ^ t := Nat.mul_le_mul_left _ a1
          have a3 : p * 2 ^ (j + 1) = 2 * y := by rw [hh, Nat.pow_succ, Nat.mul_comm 2, Nat.mul_assoc]
          have a4 : ((p * 2 ^ t : Nat) : Int) = M0 (u % 2147483648) := by rw [hm]; simp
          omega
        refine ⟨by omega, by omega, j - t, ?_, by omega⟩
        rw [hm, hh, Int.mul_assoc, ← Int.pow_add, show t + (j - t) = j from by omega]; simp
      clear HY HM hlt hy1 hy0 hj hp0 hpb ht32
      generalize E0 (u % 2147483648) + (t : Int) - (j : Int) = F at *
      generalize (y : Int) = Y at *
      have y3 : (decide (Y < 8388608)) = false := by simp; omega
      go_wp2
      go_returns
      exact ⟨_, _, rfl, HF.out, rfl⟩
end Od
end Go.Proofs.Ytdphfhpohlodcab
