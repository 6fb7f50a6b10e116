import Derived.Test.YtdphfhpohlodcabPkD
import Derived.Test.YtdphfhpohlodcabPkE
namespace Go.Proofs.Ytdphfhpohlodcab
namespace Pk
open Go.RowKit
set_option linter.unusedVariables false
def SFit (v : Int) (k : Nat) : Prop := -2 ^ (8 * k - 1) ≤ v ∧ v < 2 ^ (8 * k - 1)
theorem half_pos (k : Nat) : (0 : Int) < 2 ^ (8 * k - 1) := by exact_mod_cast Nat.two_pow_pos (8 * k - 1)
theorem sfit_yes (v : Int) (k : Nat) (h : SFit v k) : v / 2 ^ (8 * k - 1) = 0 ∨ v / 2 ^ (8 * k - 1) = -1 := by
  have hp := half_pos k
  unfold SFit at h
  generalize (2 : Int) ^ (8 * k - 1) = p at *
  by_cases h0 : 0 ≤ v
  · exact Or.inl (Int.ediv_eq_zero_of_lt h0 h.2)
  · right
    rw [Int.ediv_eq_iff_of_pos hp]
    omega
theorem sfit_no (v : Int) (k : Nat) (h : ¬ SFit v k) : ¬ v / 2 ^ (8 * k - 1) = 0 ∧ ¬ v / 2 ^ (8 * k - 1) = -1 := by
  have hp := half_pos k
  unfold SFit at h
  generalize (2 : Int) ^ (8 * k - 1) = p at *
  refine ⟨fun e => ?_, fun e => ?_⟩
  · rw [Int.ediv_eq_iff_of_pos hp] at e; omega
  · rw [Int.ediv_eq_iff_of_pos hp] at e; omega
theorem pi_err (a : Option Addr) (len cap : Nat) (at' width v : Int) (w : World) (hs : len ≤ 140737488351232) (a0 : -9223372036854775808 ≤ at') (a1 : at' ≤ 9223372036854775807) (b0 : -9223372036854775808 ≤ width) (b1 : width ≤ 9223372036854775807) (he : ¬ ec len at' width = 0) :
    Calls Try.prog 24 #[.slice a len cap, .int .i64 at', .int .i64 width, .int .i64 v] w fun e w' => e = .returned (.int .i64 (ec len at' width)) ∧ w' = w := by
  have he' : (ec len at' width != 0) = true := by simpa using he
  go_enter Try.func24, Try.ntmps24
  go_wp2_with fail
  refine (room_any a len cap at' width _ hs a0 a1 b0 b1).mono ?_
  rintro e9 w9 ⟨rfl, hw9⟩
  subst w9
  go_wp2
  go_ret
  exact ⟨rfl, rfl⟩
theorem pi_big (g len cap o k : Nat) (v : Int) (w : World) (hs : len ≤ 140737488351232) (h1 : 1 ≤ k) (h2 : k ≤ 8) (h3 : o + k ≤ len) (hv0 : -9223372036854775808 ≤ v) (hv1 : v ≤ 9223372036854775807) (hf : ¬ SFit v k) :
    Calls Try.prog 24 #[.slice (some ⟨g, 0, none⟩) len cap, .int .i64 o, .int .i64 k, .int .i64 v] w fun e w' => e = .returned (.int .i64 12) ∧ w' = w := by
  have he := ec_ok len o k h1 h2 h3
  obtain ⟨f1, f2⟩ := sfit_no v k hf
  have f1' : (v / 2 ^ (8 * k - 1) != 0) = true := by simpa using f1
  have f2' : (v / 2 ^ (8 * k - 1) != -1) = true := by simpa using f2
  have e8 : (8 * (k : Int) - 1).toNat = 8 * k - 1 := by omega
  clear hf f1 f2
  go_enter Try.func24, Try.ntmps24
  go_wp2_with fail
  refine (room_any _ len cap o k _ hs (by omega) (by omega) (by omega) (by omega)).mono ?_
  rintro e9 w9 ⟨rfl, hw9⟩
  subst w9
  rw [he]
  clear he
  go_wp2
  go_ret
  exact ⟨rfl, rfl⟩
set_option maxHeartbeats 600000 in
theorem pi_ok (g len cap o k : Nat) (v : Int) (L : List Int) (w : World) (hs : len ≤ 140737488351232) (hown : Own w g cap L) (hll : len ≤ L.length) (h1 : 1 ≤ k) (h2 : k ≤ 8) (h3 : o + k ≤ len) (hv0 : -9223372036854775808 ≤ v) (hv1 : v ≤ 9223372036854775807) (hf : SFit v k) :
    Calls Try.prog 24 #[.slice (some ⟨g, 0, none⟩) len cap, .int .i64 o, .int .i64 k, .int .i64 v] w fun e w' => e = .returned (.int .i64 0) ∧ Own w' g cap (putL L o (IntKind.u64.wrap v) k) ∧ Below g w w' := by
  have he := ec_ok len o k h1 h2 h3
  have hcap := hown.cap
  unfold maxLen at hcap
  have hoc : ¬ cap = o := by omega
  have e8 : (8 * (k : Int) - 1).toNat = 8 * k - 1 := by omega
  have hw0 := wrap_u64_nonneg v
  have hw1 : IntKind.u64.wrap v < 18446744073709551616 := by rw [IntKind.wrap_u64]; omega
  have hq := sfit_yes v k hf
  clear hf
  go_enter Try.func24, Try.ntmps24
  go_wp2_with fail
  refine (room_any _ len cap o k _ hs (by omega) (by omega) (by omega) (by omega)).mono ?_
  rintro e9 w9 ⟨rfl, hw9⟩
  subst w9
  rw [he]
  clear he
  rcases hq with hq | hq
  all_goals
    go_wp2_with fail
    refine (lay_any g o k (cap - o) cap _ L _ hown h2 (by omega) hw0 hw1).mono ?_
    rintro e9 w9 ⟨rfl, h8, h9⟩
    go_wp2
    go_ret
    exact ⟨rfl, h8, h9⟩
/-- A list laid over from the front. -/
def mix (A L : List Int) : Nat → List Int
  | 0 => A
  | j + 1 => (mix A L j).set j (L.getD j 0)
theorem mix_len (A L : List Int) (j : Nat) : (mix A L j).length = A.length := by
  induction j with
  | zero => rfl
  | succ j ih => unfold mix; rw [List.length_set, ih]
theorem mix_get (A L : List Int) (j i : Nat) (h : i < j) (hj : j ≤ A.length) : (mix A L j)[i]? = some (L.getD i 0) := by
  induction j with
  | zero => omega
  | succ j ih =>
    unfold mix
    by_cases e : i = j
    · subst e; rw [List.getElem?_set_self (by rw [mix_len]; omega)]
    · rw [List.getElem?_set_ne (by omega)]; exact ih (by omega) (by omega)
theorem mix_all (A L : List Int) (h : A.length = L.length) : mix A L L.length = L := by
  apply List.ext_getElem?
  intro i
  by_cases hi : i < L.length
  · rw [mix_get A L L.length i hi (by omega), List.getD_eq_getElem?_getD, List.getElem?_eq_getElem hi]; rfl
  · rw [List.getElem?_eq_none (by rw [mix_len]; omega), List.getElem?_eq_none (by omega)]
/-- Sign extension, as the code has it. -/
def sx (u : Int) (k : Nat) : Int := wrap64 (IntKind.u64.wrap (u * 2 ^ (64 - 8 * k))) / 2 ^ (64 - 8 * k)
theorem gi_err (a : Option Addr) (len cap : Nat) (at' width : Int) (w : World) (hs : len ≤ 140737488351232) (a0 : -9223372036854775808 ≤ at') (a1 : at' ≤ 9223372036854775807) (b0 : -9223372036854775808 ≤ width) (b1 : width ≤ 9223372036854775807) (he : ¬ ec len at' width = 0) :
    Calls Try.prog 26 #[.slice a len cap, .int .i64 at', .int .i64 width] w fun e w' => e = .returned (.tuple #[.int .i64 0, .int .i64 (ec len at' width)]) ∧ w' = w := by
  have he' : (ec len at' width != 0) = true := by simpa using he
  go_enter Try.func26, Try.ntmps26
  go_wp2_with fail
  refine (get_err a len cap at' width _ hs a0 a1 b0 b1 he).mono ?_
  rintro e9 w9 ⟨rfl, hw9⟩
  subst w9
  go_wp2
  go_ret2
  exact ⟨rfl, rfl⟩
theorem gi_ok (a : Option Addr) (len cap o k : Nat) (L : List Int) (w : World) (hr : BRow w a len L) (hs : len ≤ 140737488351232) (h1 : 1 ≤ k) (h2 : k ≤ 8) (h3 : o + k ≤ len) :
    Calls Try.prog 26 #[.slice a len cap, .int .i64 o, .int .i64 k] w fun e w' => e = .returned (.tuple #[.int .i64 (sx (getL L o k) k), .int .i64 0]) ∧ w' = w := by
  have e8 : (64 - 8 * (k : Int)).toNat = 64 - 8 * k := by omega
  have HS : Hid (sx (getL L o k) k = wrap64 (IntKind.u64.wrap (getL L o k * 2 ^ (64 - 8 * k))) / 2 ^ (64 - 8 * k)) := rfl
  go_enter Try.func26, Try.ntmps26
  go_wp2_with fail
  refine (get_ok a len cap o k L _ hr hs h1 h2 h3).mono ?_
  rintro e9 w9 ⟨rfl, hw9⟩
  subst w9
  go_wp2
  go_ret2
  exact ⟨ret_two HS.out.symm rfl, rfl⟩
theorem rgi_err (a : Option Addr) (len cap : Nat) (at' width : Int) (w : World) (hs : len ≤ 140737488351232) (a0 : -9223372036854775808 ≤ at') (a1 : at' ≤ 9223372036854775807) (b0 : -9223372036854775808 ≤ width) (b1 : width ≤ 9223372036854775807) (he : ¬ ec len at' width = 0) :
    Calls Try.prog 27 #[.slice a len cap, .int .i64 at', .int .i64 width] w fun e w' => e = .returned (.tuple #[.int .i64 0, .int .i64 (ec len at' width)]) ∧ w' = w := by
  have he' : (ec len at' width != 0) = true := by simpa using he
  go_enter Try.func27, Try.ntmps27
  go_wp2_with fail
  refine (rget_err a len cap at' width _ hs a0 a1 b0 b1 he).mono ?_
  rintro e9 w9 ⟨rfl, hw9⟩
  subst w9
  go_wp2
  go_ret2
  exact ⟨rfl, rfl⟩
theorem half_le (k : Nat) (h : k < 8) (h1 : 1 ≤ k) : (2 : Int) ^ (8 * k - 1) ≤ 36028797018963968 ∧ (2 : Int) ^ (8 * k) = 2 * 2 ^ (8 * k - 1) := by
  constructor
  · have h1 : 2 ^ (8 * k - 1) ≤ 2 ^ 55 := Nat.pow_le_pow_right (by omega) (by omega)
    have h2 : ((2 ^ (8 * k - 1) : Nat) : Int) ≤ ((2 ^ 55 : Nat) : Int) := by exact_mod_cast h1
    simpa using h2
  · have e : 8 * k = (8 * k - 1) + 1 := by omega
    rw [e, Nat.add_sub_cancel, Int.pow_succ, Int.mul_comm]
/-- The sign, by hand. -/
theorem sx_is (u : Int) (k : Nat) (h1 : 1 ≤ k) (h2 : k ≤ 8) (hu0 : 0 ≤ u) (hu : u < 2 ^ (8 * k)) : sx u k = if 2 ^ (8 * k - 1) ≤ u then u - 2 ^ (8 * k) else u := by
  have hk : k = 1 ∨ k = 2 ∨ k = 3 ∨ k = 4 ∨ k = 5 ∨ k = 6 ∨ k = 7 ∨ k = 8 := by omega
  unfold sx
  rcases hk with rfl | rfl | rfl | rfl | rfl | rfl | rfl | rfl <;>
    simp only [Nat.reduceMul, Nat.reduceSub, Int.reducePow] at * <;> unfold wrap64 <;> rw [IntKind.wrap_u64] <;> split <;> omega
set_option maxHeartbeats 600000 in
theorem rgi_ok (a : Option Addr) (len cap o k : Nat) (L : List Int) (w : World) (hr : BRow w a len L) (hs : len ≤ 140737488351232) (h1 : 1 ≤ k) (h2 : k ≤ 8) (h3 : o + k ≤ len) :
    Calls Try.prog 27 #[.slice a len cap, .int .i64 o, .int .i64 k] w fun e w' => e = .returned (.tuple #[.int .i64 (sx (getL L o k) k), .int .i64 0]) ∧ w' = w := by
  have hb := getL_b L o k hr.2.1
  have HS : Hid (sx (getL L o k) k = if 2 ^ (8 * k - 1) ≤ getL L o k then getL L o k - 2 ^ (8 * k) else getL L o k) := sx_is _ k h1 h2 hb.1 hb.2
  have hb0 := hb.1
  by_cases hk8 : k < 8
  · obtain ⟨p1, p2⟩ := half_le k hk8 h1
    have p0 := half_pos k
    have e7 : (8 * (k : Int) - 1).toNat = 8 * k - 1 := by omega
    have e8 : (8 * (k : Int)).toNat = 8 * k := by omega
    have hb1 : getL L o k < 2 * 2 ^ (8 * k - 1) := by rw [← p2]; exact hb.2
    have HP : Hid ((2 : Int) ^ (8 * k) = 2 * 2 ^ (8 * k - 1)) := p2
    clear hb p2
    by_cases hc : 2 ^ (8 * k - 1) ≤ getL L o k
    · go_enter Try.func27, Try.ntmps27
      go_wp2_with fail
      refine (rget_ok a len cap o k L _ hr hs h1 h2 h3).mono ?_
      rintro e9 w9 ⟨rfl, hw9⟩
      subst w9
      go_wp2
      go_ret2
      refine ⟨ret_two (Eq.trans ?_ HS.out.symm) rfl, rfl⟩
      rw [if_pos hc, HP.out]
      unfold wrap64; omega
    · have hc' : getL L o k < 2 ^ (8 * k - 1) := by omega
      go_enter Try.func27, Try.ntmps27
      go_wp2_with fail
      refine (rget_ok a len cap o k L _ hr hs h1 h2 h3).mono ?_
      rintro e9 w9 ⟨rfl, hw9⟩
      subst w9
      go_wp2
      go_ret2
      refine ⟨ret_two (Eq.trans ?_ HS.out.symm) rfl, rfl⟩
      rw [if_neg (by omega)]
  · obtain rfl : k = 8 := by omega
    go_enter Try.func27, Try.ntmps27
    go_wp2_with fail
    refine (rget_ok a len cap o 8 L _ hr hs h1 h2 h3).mono ?_
    rintro e9 w9 ⟨rfl, hw9⟩
    subst w9
    go_wp2
    go_ret2
    refine ⟨ret_two (Eq.trans ?_ HS.out.symm) rfl, rfl⟩
    have hb1 := hb.2
    simp only [Nat.reduceMul, Nat.reduceSub, Int.reducePow] at *
    unfold wrap64
    split <;> omega
end Pk
end Go.Proofs.Ytdphfhpohlodcab
