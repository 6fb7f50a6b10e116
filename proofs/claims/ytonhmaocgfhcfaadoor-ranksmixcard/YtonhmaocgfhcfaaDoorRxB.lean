import Derived.Test.YtonhmaocgfhcfaaDoorRxA
import Derived.Below
import Derived.Laws.BitsAllLaws
namespace Go.Proofs.YtonhmaocgfhcfaaDoor
namespace Rx
open Go.RowKit Ieee
set_option linter.unusedVariables false
set_option maxRecDepth 8000
theorem hide {p : Prop} (h : p) : Hid p := h
theorem tobits (b : Nat) (w : World) : (callFunc 12 #[.float .f32 b]).run Tryd.prog w = .ok (.value (.int .u32 b)) w := by
  rw [run_callFunc_extern Tryd.func12 (by kernel_rfl) (by kernel_rfl) (by kernel_rfl) (e := Extern.MathFloatBits.float32bits) (by kernel_rfl)]
  rfl
theorem bits_any (b : Nat) (w : World) : Calls Tryd.prog 10 #[.float .f32 b] w fun e w' => e = .returned (.int .u32 b) ∧ w' = w := by
  have h := tobits b w
  go_enter Tryd.func10, Tryd.ntmps10
  go_wp2
  go_ret
  exact ⟨rfl, rfl⟩
theorem fdiv_run {x y r : Nat} (h : Ieee.single.div x y = some r) (W : World) : (binOp .quo 30 (.float .f32 x) (.float .f32 y)).run Tryd.prog W = .ok (.float .f32 r) W := by
  show (Op.floatArith .quo .f32 x y).run Tryd.prog W = _
  unfold Op.floatArith
  simp [FloatKind.format, h]
theorem fconv_run (n : Int) (W : World) : (convert 22 30 (.int .u64 n)).run Tryd.prog W = .ok (.float .f32 (Ieee.single.nearest (decide (n < 0)) n.natAbs 0)) W := by
  unfold convert
  simp only [Sem.run_bind, run_underlying Tryd.underlying22, run_underlying Tryd.underlying30, Result.andThen_ok]
  rfl
theorem unit_div (m : Int) (h0 : 0 ≤ m) (h1 : m < 16777216) : ∃ r : Nat, single.div (single.nearest (decide (m < 0)) m.natAbs 0) 1266679808 = some r ∧ ((r : Nat) : Int) = Rd.rnd false m (-24) := by
  obtain ⟨z, rfl⟩ := Int.eq_ofNat_of_zero_le h0
  have hd : decide ((z : Int) < 0) = false := by simp
  rw [hd, Int.natAbs_natCast]
  rcases Nat.eq_zero_or_pos z with hz | hz
  · subst hz
    refine ⟨0, ?_, by decide⟩
    rw [Fl.nearest_zero, show Fl.wd false 0 = 0 from rfl, Fl.div_zero _ _ _ _ (Fl.read_norm 1266679808 (by omega) (by omega)) (by omega)]
    rfl
  · refine ⟨_, Fl.div_pow z 24 hz (by omega) (by omega), ?_⟩
    exact Fl.nearest_rnd false z _ (by omega) (by omega) (by omega)
set_option maxHeartbeats 1000000 in
theorem unit_any (s v : Int) (h0 : 0 ≤ s) (h1 : s < 18446744073709551616) (v0 : 0 ≤ v) (v1 : v < 4294967296) (w : World) (ht : TabAt w) : Calls Tryd.prog 6 #[.int .u64 s, .int .u32 v] w fun e w' => e = .returned (.int .u32 (Rd.rnd false (mix s v / 1099511627776) (-24))) ∧ w' = w := by
  have HM := hide (mix_any s v h0 h1 v0 v1 w ht)
  have mb := mix_b s v
  obtain ⟨r, e1, e2⟩ := unit_div (mix s v / 1099511627776) (by omega) (by omega)
  have hd := fdiv_run e1
  have hc := fconv_run (mix s v / 1099511627776)
  have HB := hide (bits_any r)
  have HE := hide e2
  rw [HE.out.symm]
  clear e1 e2 ht
  generalize mix s v = m at *
  go_enter Tryd.func6, Tryd.ntmps6
  go_wp2_with (fail)
  refine HM.out.mono ?_
  rintro e9 w9 ⟨rfl, hw9⟩
  subst w9
  go_wp2_with (fail)
  refine (HB.out _).mono ?_
  rintro e9 w9 ⟨rfl, hw9⟩
  subst w9
  go_wp2
  go_ret
  exact ⟨rfl, rfl⟩
set_option maxHeartbeats 1000000 in
theorem runit_any (s v : Int) (h0 : 0 ≤ s) (h1 : s < 18446744073709551616) (v0 : 0 ≤ v) (v1 : v < 4294967296) (w : World) : Calls Tryd.prog 7 #[.int .u64 s, .int .u32 v] w fun e w' => e = .returned (.int .u32 (Rd.rnd false (mix s v / 1099511627776) (-24))) ∧ w' = w := by
  have HM := hide (rmix_any s v h0 h1 v0 v1 w)
  have mb := mix_b s v
  have HR := hide (Rd.ref_any false (mix s v / 1099511627776) (-24) (by omega) (by omega) (by omega) (by omega))
  generalize mix s v = m at *
  go_enter Tryd.func7, Tryd.ntmps7
  go_wp2_with (fail)
  refine HM.out.mono ?_
  rintro e9 w9 ⟨rfl, hw9⟩
  subst w9
  go_wp2_with (fail)
  refine (HR.out _).mono ?_
  rintro e9 w9 ⟨rfl, hw9⟩
  subst w9
  go_wp2
  go_ret
  exact ⟨rfl, rfl⟩
theorem and1 (x : Int) (h0 : 0 ≤ x) (h1 : x < 18446744073709551616) : bits .and .u64 x 1 = x % 2 := by
  rw [u64_and x 1 h0 h1 (by omega) (by omega)]
  obtain ⟨n, rfl⟩ := Int.eq_ofNat_of_zero_le h0
  rw [Int.toNat_natCast, show (1 : Int).toNat = 2 ^ 1 - 1 from rfl, Nat.and_two_pow_sub_one_eq_mod]; simp
set_option maxHeartbeats 1000000 in
theorem in_any (s v : Int) (h0 : 0 ≤ s) (h1 : s < 18446744073709551616) (v0 : 0 ≤ v) (v1 : v < 4294967296) (w : World) (ht : TabAt w) : Calls Tryd.prog 8 #[.int .u64 s, .int .u32 v] w fun e w' => e = .returned (.bool (mix s v % 2 == 1)) ∧ w' = w := by
  have HM := hide (mix_any s v h0 h1 v0 v1 w ht)
  have mb := mix_b s v
  have ha := and1 (mix s v) mb.1 mb.2
  clear ht
  generalize mix s v = m at *
  go_enter Tryd.func8, Tryd.ntmps8
  go_wp2_with (fail)
  refine HM.out.mono ?_
  rintro e9 w9 ⟨rfl, hw9⟩
  subst w9
  go_wp2
  go_ret
  exact ⟨rfl, rfl⟩
set_option maxHeartbeats 1000000 in
theorem rin_any (s v : Int) (h0 : 0 ≤ s) (h1 : s < 18446744073709551616) (v0 : 0 ≤ v) (v1 : v < 4294967296) (w : World) : Calls Tryd.prog 9 #[.int .u64 s, .int .u32 v] w fun e w' => e = .returned (.bool (mix s v % 2 == 1)) ∧ w' = w := by
  have HM := hide (rmix_any s v h0 h1 v0 v1 w)
  have mb := mix_b s v
  generalize mix s v = m at *
  go_enter Tryd.func9, Tryd.ntmps9
  go_wp2_with (fail)
  refine HM.out.mono ?_
  rintro e9 w9 ⟨rfl, hw9⟩
  subst w9
  go_wp2
  go_ret
  exact ⟨rfl, rfl⟩
set_option maxHeartbeats 2000000 in
theorem walk (s v : Int) (h0 : 0 ≤ s) (h1 : s < 18446744073709551616) (v0 : 0 ≤ v) (v1 : v < 4294967296) (w : World) (ht : TabAt w) : Calls Tryd.prog 3 #[.int .u64 s, .int .u32 v] w fun e w' => e = .returned (.bool true) ∧ w' = w := by
  have H1 := hide (mix_any s v h0 h1 v0 v1 w ht)
  have H2 := hide (rmix_any s v h0 h1 v0 v1 w)
  have H3 := hide (unit_any s v h0 h1 v0 v1 w ht)
  have H4 := hide (runit_any s v h0 h1 v0 v1 w)
  have H5 := hide (in_any s v h0 h1 v0 v1 w ht)
  have H6 := hide (rin_any s v h0 h1 v0 v1 w)
  clear ht
  generalize Rd.rnd false (mix s v / 1099511627776) (-24) = u at *
  generalize (mix s v % 2 == 1) = b at *
  generalize mix s v = m at *
  go_enter Tryd.func3, Tryd.ntmps3
  go_wp2_with (first
      | (go_at_call 4; refine H1.out.mono ?_; rintro e9 w9 ⟨rfl, hw9⟩; subst w9)
      | (go_at_call 5; refine H2.out.mono ?_; rintro e9 w9 ⟨rfl, hw9⟩; subst w9)
      | (go_at_call 6; refine H3.out.mono ?_; rintro e9 w9 ⟨rfl, hw9⟩; subst w9)
      | (go_at_call 7; refine H4.out.mono ?_; rintro e9 w9 ⟨rfl, hw9⟩; subst w9)
      | (go_at_call 8; refine H5.out.mono ?_; rintro e9 w9 ⟨rfl, hw9⟩; subst w9)
      | (go_at_call 9; refine H6.out.mono ?_; rintro e9 w9 ⟨rfl, hw9⟩; subst w9))
  all_goals go_ret
  all_goals exact ⟨by simp, rfl⟩
end Rx
end Go.Proofs.YtonhmaocgfhcfaaDoor
