import Derived.Test.YtbbpnlflihhflaaDoorRdLen
namespace Go.Proofs.YtbbpnlflihhflaaDoor
namespace Rd
open Go.ChangeShapes Go.WideShapes Go.RowKit
def near (m d : Int) : Int := if d ≤ 0 then IntKind.u64.wrap (m * 2 ^ min (-d).toNat 64) else if 64 < d then 0 else
  if 2 ^ (d.toNat - 1) < m % 2 ^ d.toNat ∨ (m % 2 ^ d.toNat = 2 ^ (d.toNat - 1) ∧ m / 2 ^ d.toNat % 2 = 1) then m / 2 ^ d.toNat + 1 else m / 2 ^ d.toNat
theorem near_mid (m d : Int) (h0 : 0 < d) (h1 : d ≤ 64) : near m d = if 2 ^ (d.toNat - 1) < m % 2 ^ d.toNat ∨ (m % 2 ^ d.toNat = 2 ^ (d.toNat - 1) ∧ m / 2 ^ d.toNat % 2 = 1) then m / 2 ^ d.toNat + 1 else m / 2 ^ d.toNat := by
  unfold near; rw [if_neg (by omega), if_neg (by omega)]
theorem pw (d : Int) (h0 : 0 < d) (h1 : d ≤ 64) : (0 : Int) < 2 ^ (d.toNat - 1) ∧ (2 : Int) ^ (d.toNat - 1) ≤ 9223372036854775808 ∧ (2 : Int) ^ d.toNat = 2 * 2 ^ (d.toNat - 1) := by
  have e : d.toNat = (d.toNat - 1) + 1 := by omega
  have hl : d.toNat - 1 ≤ 63 := by omega
  refine ⟨by exact_mod_cast Nat.two_pow_pos _, ?_, ?_⟩
  · have : 2 ^ (d.toNat - 1) ≤ 2 ^ 63 := Nat.pow_le_pow_right (by omega) hl
    have h2 : ((2 ^ (d.toNat - 1) : Nat) : Int) ≤ ((2 ^ 63 : Nat) : Int) := by exact_mod_cast this
    simpa using h2
  · rw [e, Nat.add_sub_cancel, Int.pow_succ, Int.mul_comm]
/-- what the walk's wraps are -/
theorem parts (m d : Int) (m0 : 0 ≤ m) (m1 : m < 18446744073709551616) (h0 : 0 < d) (h1 : d ≤ 64) :
    IntKind.u64.wrap (2 ^ (d.toNat - 1)) = 2 ^ (d.toNat - 1) ∧ IntKind.u64.wrap (m - IntKind.u64.wrap (m / 2 ^ d.toNat * 2 ^ d.toNat)) = m % 2 ^ d.toNat ∧ IntKind.u64.wrap (m / 2 ^ d.toNat + 1) = m / 2 ^ d.toNat + 1 ∧ 0 ≤ m / 2 ^ d.toNat ∧ m / 2 ^ d.toNat ≤ 9223372036854775807 := by
  obtain ⟨p0, p1, p2⟩ := pw d h0 h1
  generalize (2 : Int) ^ (d.toNat - 1) = p at *
  rw [p2]
  have q0 : 0 ≤ m / (2 * p) := Int.ediv_nonneg m0 (by omega)
  have q1 : m / (2 * p) ≤ 9223372036854775807 := by
    have : m / (2 * p) ≤ m / 2 := by
      rw [← Int.ediv_ediv_of_nonneg (by omega)]
      exact Int.ediv_le_self _ (by omega)
    omega
  have e : 2 * p * (m / (2 * p)) + m % (2 * p) = m := Int.mul_ediv_add_emod m (2 * p)
  have r0 : 0 ≤ m % (2 * p) := Int.emod_nonneg _ (by omega)
  have r1 : m % (2 * p) < 2 * p := Int.emod_lt_of_pos _ (by omega)
  have em : m / (2 * p) * (2 * p) = 2 * p * (m / (2 * p)) := Int.mul_comm _ _
  have t0 : 0 ≤ 2 * p * (m / (2 * p)) := Int.mul_nonneg (by omega) q0
  rw [em]
  generalize 2 * p * (m / (2 * p)) = t at *
  generalize m / (2 * p) = q at *
  generalize m % (2 * p) = r at *
  simp only [IntKind.wrap_u64]
  omega
set_option maxHeartbeats 400000 in
theorem nearest_any (m d : Int) (h0 : 0 ≤ m) (h1 : m < 18446744073709551616) (hd2 : -1000 ≤ d) (hd3 : d ≤ 1000) (w : World) :
    Calls Tryd.prog 45 #[.int .u64 m, .int .i64 d] w fun e w' => e = .returned (.int .u64 (near m d)) ∧ ∃ n, w' = w.drewN n := by
  by_cases hd : d ≤ 0
  · go_enter Tryd.func45, Tryd.ntmps45
    go_wp2
    go_ret
    exact ⟨ret_int (by unfold near; rw [if_pos hd]), 0, rfl⟩
  have hd' : 0 < d := by omega
  by_cases h64 : 64 < d
  · go_enter Tryd.func45, Tryd.ntmps45
    go_wp2
    go_ret
    exact ⟨ret_int (by unfold near; rw [if_neg (by omega), if_pos h64]), 0, rfl⟩
  have h64' : d ≤ 64 := by omega
  go_enter Tryd.func45, Tryd.ntmps45
  go_wp2
  go_quiet (fail)
  go_wp2
  all_goals
    go_ret
    refine ⟨ret_int ?_, _, rfl⟩
    obtain ⟨e1, e2, e3, e4, e5⟩ := parts m d h0 h1 hd' h64'
    have e6 := and_one_u64 (m / 2 ^ d.toNat) e4 (by omega)
    simp only [e1, e2, e6] at *
    rw [near_mid m d hd' h64']
    try simp only [beq_iff_eq, beq_eq_false_iff_ne, ne_eq] at *
    generalize (2 : Int) ^ (d.toNat - 1) = p at *
    generalize m % 2 ^ d.toNat = r at *
    generalize m / 2 ^ d.toNat = q at *
  · rw [e3, if_pos (by omega)]
  · rw [if_neg (by omega)]
  · rw [if_neg (by omega)]
  · rw [e3, if_pos (by omega)]
theorem near_b (m d : Int) (h0 : 0 ≤ m) (h1 : m < 18446744073709551616) : 0 ≤ near m d ∧ near m d < 18446744073709551616 := by
  unfold near
  split
  · simp only [IntKind.wrap_u64]; omega
  split
  · omega
  have e := parts m d h0 h1 (by omega) (by omega)
  split <;> omega
/-- The float32 nearest to m * 2^e, by its bits. -/
def last (m e : Int) : Int := max (e + lg m - 23) (-149)
def sg (neg : Bool) : Int := if neg then 2147483648 else 0
theorem sg_b (neg : Bool) : 0 ≤ sg neg ∧ sg neg ≤ 2147483648 := by cases neg <;> decide
def rnd (neg : Bool) (m e : Int) : Int :=
  sg neg + if m = 0 ∨ e < -300 then 0 else if 200 < e then 2139095040
  else min (IntKind.u64.wrap ((last m e + 149) * 8388608 + near m (last m e - e))) 2139095040
theorem or_u32 (s u : Int) (hs : s = 0 ∨ s = 2147483648) (h0 : 0 ≤ u) (h1 : u < 2147483648) : bits .or .u32 s u = s + u := by
  refine bits_join .u32 32 (by decide) (fun n a b => by rw [IntKind.wrap_u32]; omega) 31 s u ?_ ?_ ?_ h0 (by omega) (by omega) <;> rcases hs with rfl | rfl <;> decide
theorem lg_nonneg (m : Int) : 0 ≤ lg m := by unfold lg; omega
theorem rnd_mid (neg : Bool) (m e s u v : Int) (hs : s = sg neg) (hz : ¬ m = 0) (hl : -300 ≤ e) (hh : e ≤ 200) (hv : IntKind.u64.wrap ((last m e + 149) * 8388608 + near m (last m e - e)) = v) (hu : u = min v 2139095040) :
    bits .or .u32 s u = rnd neg m e := by
  have hv0 : 0 ≤ v := by rw [← hv, IntKind.wrap_u64]; omega
  rw [or_u32 s u (by subst hs; cases neg <;> simp [sg]) (by omega) (by omega)]
  unfold rnd
  rw [if_neg (c := m = 0 ∨ e < -300) (by omega), if_neg (c := 200 < e) (by omega), hs, hu, hv]
set_option maxHeartbeats 400000 in
theorem round_any (neg : Bool) (m e : Int) (h0 : 0 ≤ m) (h1 : m < 18446744073709551616) (he : -9223372036854775808 ≤ e) (he2 : e ≤ 9223372036854775807) (w : World) :
    Calls Tryd.prog 28 #[.bool neg, .int .u64 m, .int .i64 e] w fun e' w' => e' = .returned (.int .u32 (rnd neg m e)) ∧ ∃ n, w' = w.drewN n := by
  by_cases hz : m = 0
  · subst hz
    cases neg <;> (go_enter Tryd.func28, Tryd.ntmps28; go_wp2; go_ret; exact ⟨ret_int (by simp [rnd, sg]), 0, rfl⟩)
  have hz1 : (m == 0) = false := by simpa using hz
  by_cases hlow : e < -300
  · cases neg <;> (go_enter Tryd.func28, Tryd.ntmps28; go_wp2; go_ret; exact ⟨ret_int (by simp [rnd, sg, hlow]), 0, rfl⟩)
  have hlow' : -300 ≤ e := by omega
  by_cases hhi : 200 < e
  · cases neg <;> (go_enter Tryd.func28, Tryd.ntmps28; go_wp2; go_ret; exact ⟨ret_int (by unfold rnd; rw [if_neg (c := m = 0 ∨ e < -300) (by omega), if_pos hhi]; decide +kernel), 0, rfl⟩)
  have hhi' : e ≤ 200 := by omega
  have lb := len_b m h0 h1
  have nb := near_b m (last m e - e) h0 h1
  have lg1 : len m = lg m + 1 := by unfold len; rw [if_neg (by omega)]
  cases neg
  · go_enter Tryd.func28, Tryd.ntmps28
    go_wp2_with fail
    refine (len_any m h0 h1 _).mono ?_
    rintro e1 w1 ⟨rfl, rfl⟩
    go_wp2_with fail
    case inl hc =>
      have el : -149 - e = last m e - e := by unfold last; omega
      rw [el]
      refine (nearest_any m _ h0 h1 (by unfold last; omega) (by unfold last; omega) _).mono ?_
      rintro e1 w1 ⟨rfl, n, rfl⟩
      have Hv : Hid (IntKind.u64.wrap ((last m e + 149) * 8388608 + near m (last m e - e)) = near m (last m e - e)) := by
        have e9 : (last m e + 149) * 8388608 = 0 := by omega
        show _ = _
        rw [IntKind.wrap_u64, e9]; omega
      go_wp2_with fail
      case inl hd =>
        go_ret
        exact ⟨ret_int (rnd_mid false m e _ _ _ rfl hz hlow' hhi' Hv.out (by omega)), n, rfl⟩
      case inr hd =>
        go_ret
        exact ⟨ret_int (rnd_mid false m e _ _ _ rfl hz hlow' hhi' Hv.out (by omega)), n, rfl⟩
    case inr hc =>
      have el : e + (lg m + 1) - 1 - 23 - e = last m e - e := by unfold last; omega
      rw [el]
      refine (nearest_any m _ h0 h1 (by unfold last; omega) (by unfold last; omega) _).mono ?_
      rintro e1 w1 ⟨rfl, n, rfl⟩
      have Hv : Hid (IntKind.u64.wrap ((last m e + 149) * 8388608 + near m (last m e - e)) = IntKind.u64.wrap ((e + (lg m + 1) - 1 - 23 + 149) * 8388608 + near m (last m e - e))) := by
        have : Hid (last m e = e + (lg m + 1) - 1 - 23) := by show _ = _; omega
        show _ = _
        rw [← this.out]
      have hwn := wrap_u64_nonneg ((e + (lg m + 1) - 1 - 23 + 149) * 8388608 + near m (last m e - e))
      go_wp2_with fail
      case inl hd =>
        go_ret
        exact ⟨ret_int (rnd_mid false m e _ _ _ rfl hz hlow' hhi' Hv.out (by omega)), n, rfl⟩
      case inr hd =>
        go_ret
        exact ⟨ret_int (rnd_mid false m e _ _ _ rfl hz hlow' hhi' Hv.out (by omega)), n, rfl⟩
  · go_enter Tryd.func28, Tryd.ntmps28
    go_wp2_with fail
    refine (len_any m h0 h1 _).mono ?_
    rintro e1 w1 ⟨rfl, rfl⟩
    go_wp2_with fail
    case inl hc =>
      have el : -149 - e = last m e - e := by unfold last; omega
      rw [el]
      refine (nearest_any m _ h0 h1 (by unfold last; omega) (by unfold last; omega) _).mono ?_
      rintro e1 w1 ⟨rfl, n, rfl⟩
      have Hv : Hid (IntKind.u64.wrap ((last m e + 149) * 8388608 + near m (last m e - e)) = near m (last m e - e)) := by
        have e9 : (last m e + 149) * 8388608 = 0 := by omega
        show _ = _
        rw [IntKind.wrap_u64, e9]; omega
      go_wp2_with fail
      case inl hd =>
        go_ret
        exact ⟨ret_int (rnd_mid true m e _ _ _ rfl hz hlow' hhi' Hv.out (by omega)), n, rfl⟩
      case inr hd =>
        go_ret
        exact ⟨ret_int (rnd_mid true m e _ _ _ rfl hz hlow' hhi' Hv.out (by omega)), n, rfl⟩
    case inr hc =>
      have el : e + (lg m + 1) - 1 - 23 - e = last m e - e := by unfold last; omega
      rw [el]
      refine (nearest_any m _ h0 h1 (by unfold last; omega) (by unfold last; omega) _).mono ?_
      rintro e1 w1 ⟨rfl, n, rfl⟩
      have Hv : Hid (IntKind.u64.wrap ((last m e + 149) * 8388608 + near m (last m e - e)) = IntKind.u64.wrap ((e + (lg m + 1) - 1 - 23 + 149) * 8388608 + near m (last m e - e))) := by
        have : Hid (last m e = e + (lg m + 1) - 1 - 23) := by show _ = _; omega
        show _ = _
        rw [← this.out]
      have hwn := wrap_u64_nonneg ((e + (lg m + 1) - 1 - 23 + 149) * 8388608 + near m (last m e - e))
      go_wp2_with fail
      case inl hd =>
        go_ret
        exact ⟨ret_int (rnd_mid true m e _ _ _ rfl hz hlow' hhi' Hv.out (by omega)), n, rfl⟩
      case inr hd =>
        go_ret
        exact ⟨ret_int (rnd_mid true m e _ _ _ rfl hz hlow' hhi' Hv.out (by omega)), n, rfl⟩

theorem signed_any (neg : Bool) (u : Int) (h0 : 0 ≤ u) (h1 : u < 2147483648) (w : World) :
    Calls Tryd.prog 12 #[.bool neg, .int .u32 u] w fun e' w' => e' = .returned (.int .u32 (sg neg + u)) ∧ w' = w := by
  cases neg <;> (go_enter Tryd.func12, Tryd.ntmps12; go_wp2; go_ret; exact ⟨ret_int (by simp only [sg, if_true, if_false, Bool.false_eq_true]; omega), rfl⟩)
theorem lg_half (x : Int) (h : 1 < x) : lg (x / 2) + 1 = lg x := by
  have := len_div x 1 (by omega)
  unfold len at this
  rw [if_neg (by omega), if_neg (by omega)] at this
  have e : x / 2 ^ 1 = x / 2 := by simp
  rw [e] at this; omega
theorem lg_one : lg 1 = 0 := by decide
end Rd
end Go.Proofs.YtbbpnlflihhflaaDoor
