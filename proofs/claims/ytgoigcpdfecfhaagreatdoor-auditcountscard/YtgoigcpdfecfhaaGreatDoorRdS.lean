import Derived.Test.YtgoigcpdfecfhaaGreatDoorRows
import Derived.Test.YtgoigcpdfecfhaaGreatDoorRdM
import Derived.WalkKit
import Derived.BigQuiet
import Derived.Deep.QuietTactic
namespace Go.Proofs.YtgoigcpdfecfhaaGreatDoor
namespace Rd
open Go.ChangeShapes Go.WideShapes Go.RowKit
theorem ret_int {k : IntKind} {a b : Int} (h : a = b) : Ending.returned (.int k a) = .returned (.int k b) := by rw [h]
theorem signed_any (neg : Bool) (u : Int) (h0 : 0 ≤ u) (h1 : u < 2147483648) (w : World) :
    Calls Tryz.prog 195 #[.bool neg, .int .u32 u] w fun e' w' => e' = .returned (.int .u32 (sg neg + u)) ∧ w' = w := by
  cases neg <;> (go_enter Tryz.func195, Tryz.ntmps195; go_wp2; go_ret; exact ⟨ret_int (by simp only [sg, if_true, if_false, Bool.false_eq_true]; omega), rfl⟩)
theorem lg_half (x : Int) (h : 1 < x) : lg (x / 2) + 1 = lg x := by
  have := len_div x 1 (by omega)
  unfold len at this
  rw [if_neg (by omega), if_neg (by omega)] at this
  have e : x / 2 ^ 1 = x / 2 := by simp
  rw [e] at this; omega
theorem lg_one : lg 1 = 0 := by decide
theorem wrap_u64_lt (n : Int) : IntKind.u64.wrap n < 18446744073709551616 := by rw [IntKind.wrap_u64]; omega
theorem rnd_of (neg : Bool) (m e U v : Int) (hU : last m e = U) (hz : ¬ m = 0) (hl : -300 ≤ e) (hh : e ≤ 200)
    (hv : v = min (IntKind.u64.wrap ((U + 149) * 8388608 + near m (U - e))) 2139095040) : sg neg + v = rnd neg m e := by
  unfold rnd
  rw [if_neg (c := m = 0 ∨ e < -300) (by omega), if_neg (c := 200 < e) (by omega), hU, hv]
theorem rnd_low (neg : Bool) (m e U v : Int) (hU : last m e = U) (hz : ¬ m = 0) (hl : -300 ≤ e) (hh : e ≤ 200) (hd : U - e ≤ 0)
    (hv : v = min (IntKind.u64.wrap ((U + 149) * 8388608 + IntKind.u64.wrap (m * 2 ^ (-(U - e)).toNat))) 2139095040) : sg neg + v = rnd neg m e := by
  refine rnd_of neg m e U v hU hz hl hh ?_
  unfold near
  rw [if_pos hd]
  by_cases h : (-(U - e)).toNat ≤ 64
  · rw [Nat.min_eq_left h]; exact hv
  · exfalso; have := lg_nonneg m; unfold last at hU; omega
theorem rnd_far (neg : Bool) (m e U v : Int) (hU : last m e = U) (hz : ¬ m = 0) (hl : -300 ≤ e) (hh : e ≤ 200) (hd : 64 < U - e)
    (hv : v = min (IntKind.u64.wrap ((U + 149) * 8388608 + 0)) 2139095040) : sg neg + v = rnd neg m e := by
  refine rnd_of neg m e U v hU hz hl hh ?_
  unfold near
  rw [if_neg (by omega), if_pos hd]; exact hv
theorem rnd_near (neg : Bool) (m e U v : Int) (hU : last m e = U) (hz : ¬ m = 0) (hl : -300 ≤ e) (hh : e ≤ 200) (hd : 0 < U - e) (hd2 : U - e ≤ 64)
    (hv : v = min (IntKind.u64.wrap ((U + 149) * 8388608 + if 2 ^ ((U - e).toNat - 1) < m % 2 ^ (U - e).toNat ∨ (m % 2 ^ (U - e).toNat = 2 ^ ((U - e).toNat - 1) ∧ m / 2 ^ (U - e).toNat % 2 = 1) then m / 2 ^ (U - e).toNat + 1 else m / 2 ^ (U - e).toNat)) 2139095040) : sg neg + v = rnd neg m e := by
  refine rnd_of neg m e U v hU hz hl hh ?_
  rw [near_mid m (U - e) hd hd2]; exact hv
set_option maxHeartbeats 1000000 in
theorem ref_any (neg : Bool) (m e : Int) (h0 : 0 ≤ m) (h1 : m < 18446744073709551616) (he : -9223372036854775808 ≤ e) (he2 : e ≤ 9223372036854775807) (w : World) :
    Calls Tryz.prog 193 #[.bool neg, .int .u64 m, .int .i64 e] w fun e' w' => e' = .returned (.int .u32 (rnd neg m e)) ∧ w' = w := by
  by_cases hz : m = 0
  · subst hz
    go_enter Tryz.func193, Tryz.ntmps193
    go_wp2_with (go_at_call 195; refine (signed_any neg _ (by omega) (by omega) _).mono ?_; rintro e1 w1 ⟨rfl, rfl⟩)
    go_ret
    exact ⟨ret_int (by simp [rnd]), rfl⟩
  have hz1 : (m == 0) = false := by simpa using hz
  by_cases hlow : e < -300
  · go_enter Tryz.func193, Tryz.ntmps193
    go_wp2_with (go_at_call 195; refine (signed_any neg _ (by omega) (by omega) _).mono ?_; rintro e1 w1 ⟨rfl, rfl⟩)
    go_ret
    exact ⟨ret_int (by simp [rnd, hlow]), rfl⟩
  have hlow' : -300 ≤ e := by omega
  by_cases hhi : 200 < e
  · go_enter Tryz.func193, Tryz.ntmps193
    go_wp2_with (go_at_call 195; refine (signed_any neg _ (by omega) (by omega) _).mono ?_; rintro e1 w1 ⟨rfl, rfl⟩)
    go_ret
    exact ⟨ret_int (by unfold rnd; rw [if_neg (c := m = 0 ∨ e < -300) (by omega), if_pos hhi]), rfl⟩
  have hhi' : e ≤ 200 := by omega
  have lb := len_b m h0 h1
  have lg1 : len m = lg m + 1 := by unfold len; rw [if_neg (by omega)]
  rw [lg1] at lb
  clear lg1
  go_enter Tryz.func193, Tryz.ntmps193
  go_wp2
  go_loop [7, 8] (fun t x => ∃ y : Int, 1 ≤ y ∧ y ≤ m ∧ lg y ≤ lg m ∧ x = .int .u64 y ∧ t = .int .i64 (e + lg m - lg y)) (fun _ x => (intOf x).toNat)
  case atStart => exact ⟨m, by omega, by omega, by omega, rfl, by congr 1; omega⟩
  case round =>
    obtain ⟨y, y1, y2, y3, rfl, rfl⟩ := hrel
    have ln := lg_nonneg y
    by_cases hlt : 1 < y
    · have hh := lg_half y hlt
      have HH : Hid (lg (y / 2) + 1 = lg y) := hh
      clear hh
      go_wp2
      go_round
      case rel => exact ⟨y / 2, by omega, by omega, by have := HH.out; omega, rfl, by congr 1; have := HH.out; omega⟩
      case measure => simp [intOf]; omega
    · have hy : y = 1 := by omega
      subst hy
      have l1 := lg_one
      have sb := sg_b neg
      by_cases hm : e + lg m - 23 < -149
      · have HU : Hid (last m e = -149) := by show last m e = -149; unfold last; omega
        by_cases hd : -149 - e ≤ 0
        · have hn := wrap_u64_nonneg (m * 2 ^ (-(-149 - e)).toNat)
          have hn2 := wrap_u64_lt (m * 2 ^ (-(-149 - e)).toNat)
          go_wp2_with fail
          all_goals
            refine (signed_any neg _ (by omega) (by omega) _).mono ?_
            rintro e9 w9 ⟨rfl, rfl⟩
            go_wp2
            go_ret
            refine ⟨ret_int ?_, rfl⟩
            refine rnd_low neg m e (-149) _ HU.out hz hlow' hhi' hd ?_
            simp only [IntKind.wrap_u64] at *
            omega
        by_cases hd2 : 64 < -149 - e
        · go_wp2_with fail
          all_goals
            refine (signed_any neg _ (by omega) (by omega) _).mono ?_
            rintro e9 w9 ⟨rfl, rfl⟩
            go_wp2
            go_ret
            refine ⟨ret_int ?_, rfl⟩
            refine (Int.add_zero (sg neg)).symm.trans ?_
            refine rnd_far neg m e (-149) _ HU.out hz hlow' hhi' hd2 ?_
            simp only [IntKind.wrap_u64] at *
            omega
        by_cases hd3 : -149 - e = 64
        · have he3 : e = -213 := by omega
          subst he3
          go_wp2_with fail
          all_goals
            refine (signed_any neg _ (by omega) (by omega) _).mono ?_
            rintro e9 w9 ⟨rfl, rfl⟩
            go_wp2
            go_ret
            refine ⟨ret_int ?_, rfl⟩
            first | refine rnd_near neg _ (-213) (-149) _ HU.out hz hlow' hhi' (by omega) (by omega) ?_ | (refine (Int.add_zero (sg neg)).symm.trans ?_; refine rnd_near neg _ (-213) (-149) _ HU.out hz hlow' hhi' (by omega) (by omega) ?_)
            simp only [IntKind.wrap_u64, beq_eq_false_iff_ne, ne_eq] at *
            simp
            omega
        have hd' : 0 < -149 - e := by omega
        have hd4 : -149 - e < 64 := by omega
        obtain ⟨e1, e2, e3, e4, e5⟩ := parts m (-149 - e) h0 h1 hd' (by omega)
        obtain ⟨p0, p1, p2⟩ := pw (-149 - e) hd' (by omega)
        clear p2
        go_wp2_with fail
        all_goals
          refine (signed_any neg _ (by omega) (by omega) _).mono ?_
          rintro e9 w9 ⟨rfl, rfl⟩
          go_wp2
          go_ret
          refine ⟨ret_int ?_, rfl⟩
          refine rnd_near neg m e (-149) _ HU.out hz hlow' hhi' hd' (by omega) ?_
          try simp only [beq_iff_eq, beq_eq_false_iff_ne, ne_eq] at *
          clear e1 e2 e3
          generalize (2 : Int) ^ ((-149 - e).toNat - 1) = p at *
          generalize m % 2 ^ (-149 - e).toNat = r at *
          generalize m / 2 ^ (-149 - e).toNat = q at *
          simp only [IntKind.wrap_u64]
          split <;> omega
      · have hm' : -149 ≤ e + lg m - 23 := by omega
        have HU : Hid (last m e = e + lg m - 23) := by show last m e = _; unfold last; omega
        by_cases hd : e + lg m - 23 - e ≤ 0
        · have hn := wrap_u64_nonneg (m * 2 ^ (-(e + lg m - 23 - e)).toNat)
          have hn2 := wrap_u64_lt (m * 2 ^ (-(e + lg m - 23 - e)).toNat)
          go_wp2_with fail
          all_goals
            refine (signed_any neg _ (by omega) (by first | omega | (simp only [IntKind.wrap_u64] at *; omega)) _).mono ?_
            rintro e9 w9 ⟨rfl, rfl⟩
            go_wp2
            go_ret
            refine ⟨ret_int ?_, rfl⟩
            refine rnd_low neg m e (e + lg m - 23) _ HU.out hz hlow' hhi' hd ?_
            simp only [IntKind.wrap_u64] at *
            omega
        have hd' : 0 < e + lg m - 23 - e := by omega
        have hd4 : e + lg m - 23 - e < 64 := by omega
        obtain ⟨e1, e2, e3, e4, e5⟩ := parts m (e + lg m - 23 - e) h0 h1 hd' (by omega)
        obtain ⟨p0, p1, p2⟩ := pw (e + lg m - 23 - e) hd' (by omega)
        clear p2
        go_wp2_with fail
        all_goals
          refine (signed_any neg _ (by omega) (by omega) _).mono ?_
          rintro e9 w9 ⟨rfl, rfl⟩
          go_wp2
          go_ret
          refine ⟨ret_int ?_, rfl⟩
          refine rnd_near neg m e (e + lg m - 23) _ HU.out hz hlow' hhi' hd' (by omega) ?_
          try simp only [beq_iff_eq, beq_eq_false_iff_ne, ne_eq] at *
          clear e1 e2 e3
          generalize (2 : Int) ^ ((e + lg m - 23 - e).toNat - 1) = p at *
          generalize m % 2 ^ (e + lg m - 23 - e).toNat = r at *
          generalize m / 2 ^ (e + lg m - 23 - e).toNat = q at *
          simp only [IntKind.wrap_u64]
          split <;> omega
end Rd
end Go.Proofs.YtgoigcpdfecfhaaGreatDoor
