import Derived.Test.YtgoigcpdfecfhaaGreatDoorRxA
import Derived.Below
import Derived.Laws.BitsAllLaws
namespace Go.Proofs.YtgoigcpdfecfhaaGreatDoor
namespace Rx
open Go.RowKit Ieee
set_option linter.unusedVariables false
set_option maxRecDepth 8000
theorem hide {p : Prop} (h : p) : Hid p := h
theorem tobits (b : Nat) (w : World) : (callFunc 119 #[.float .f32 b]).run Tryz.prog w = .ok (.value (.int .u32 b)) w := by
  rw [run_callFunc_extern Tryz.func119 (by kernel_rfl) (by kernel_rfl) (by kernel_rfl) (e := Extern.MathFloatBits.float32bits) (by kernel_rfl)]
  rfl
theorem bits_any (b : Nat) (w : World) : Calls Tryz.prog 71 #[.float .f32 b] w fun e w' => e = .returned (.int .u32 b) ∧ w' = w := by
  have h := tobits b w
  go_enter Tryz.func71, Tryz.ntmps71
  go_wp2
  go_ret
  exact ⟨rfl, rfl⟩
theorem fdiv_run {x y r : Nat} (h : Ieee.single.div x y = some r) (W : World) : (binOp .quo 98 (.float .f32 x) (.float .f32 y)).run Tryz.prog W = .ok (.float .f32 r) W := by
  show (Op.floatArith .quo .f32 x y).run Tryz.prog W = _
  unfold Op.floatArith
  simp [FloatKind.format, h]
theorem fconv_run (n : Int) (W : World) : (convert 28 98 (.int .u64 n)).run Tryz.prog W = .ok (.float .f32 (Ieee.single.nearest (decide (n < 0)) n.natAbs 0)) W := by
  unfold convert
  simp only [Sem.run_bind, run_underlying Tryz.underlying28, run_underlying Tryz.underlying98, Result.andThen_ok]
  rfl
theorem unit_div (m : Int) (h0 : 0 ≤ m) (h1 : m < 16777216) : ∃ r : Nat, single.div (single.nearest (decide (m < 0)) m.natAbs 0) 1266679808 = some r ∧ ((r : Nat) : Int) = Rd.rnd false m (-24) := by
  obtain ⟨z, rfl⟩ := Int.eq_ofNat_of_zero_le h0
  have hd : decide ((z : Int) < 0) = false := by simp
  rw [hd, Int.natAbs_natCast]
  rcases Nat.eq_zero_or_pos z with hz | hz
  · subst hz
    refine ⟨0, ?_, by decide⟩
    rw [Fl.nearest_zero, show Fl.wd false 0 = 0 from rfl, Fl.div_zero _ _ _ _ (Fl.read_norm 1266679808 (by omega) (by omega)) (by omega)]
    rfl
  · refine ⟨_, Fl.div_pow z 24 hz (by omega) (by omega), ?_⟩
    exact Fl.nearest_rnd false z _ (by omega) (by omega) (by omega)
set_option maxHeartbeats 1000000 in
theorem unit_any (s v : Int) (h0 : 0 ≤ s) (h1 : s < 18446744073709551616) (v0 : 0 ≤ v) (v1 : v < 4294967296) (w : World) (ht : TabAt w) : Calls Tryz.prog 69 #[.int .u64 s, .int .u32 v] w fun e w' => e = .returned (.int .u32 (Rd.rnd false (mix s v / 1099511627776) (-24))) ∧ w' = w := by
  have HM := hide (mix_any s v h0 h1 v0 v1 w ht)
  have mb := mix_b s v
  obtain ⟨r, e1, e2⟩ := unit_div (mix s v / 1099511627776) (by omega) (by omega)
  have hd := fdiv_run e1
  have hc := fconv_run (mix s v / 1099511627776)
  have HB := hide (bits_any r)
  have HE := hide e2
  rw [HE.out.symm]
  clear e1 e2 ht
  generalize mix s v = m at *
  go_enter Tryz.func69, Tryz.ntmps69
  go_wp2_with (fail)
  refine HM.out.mono ?_
  rintro e9 w9 ⟨rfl, hw9⟩
  subst w9
  go_wp2_with (fail)
  refine (HB.out _).mono ?_
  rintro e9 w9 ⟨rfl, hw9⟩
  subst w9
  go_wp2
  go_ret
  exact ⟨rfl, rfl⟩
set_option maxHeartbeats 1000000 in
theorem runit_any (s v : Int) (h0 : 0 ≤ s) (h1 : s < 18446744073709551616) (v0 : 0 ≤ v) (v1 : v < 4294967296) (w : World) : Calls Tryz.prog 124 #[.int .u64 s, .int .u32 v] w fun e w' => e = .returned (.int .u32 (Rd.rnd false (mix s v / 1099511627776) (-24))) ∧ w' = w := by
  have HM := hide (rmix_any s v h0 h1 v0 v1 w)
  have mb := mix_b s v
  have HR := hide (Rd.ref_any false (mix s v / 1099511627776) (-24) (by omega) (by omega) (by omega) (by omega))
  generalize mix s v = m at *
  go_enter Tryz.func124, Tryz.ntmps124
  go_wp2_with (fail)
  refine HM.out.mono ?_
  rintro e9 w9 ⟨rfl, hw9⟩
  subst w9
  go_wp2_with (fail)
  refine (HR.out _).mono ?_
  rintro e9 w9 ⟨rfl, hw9⟩
  subst w9
  go_wp2
  go_ret
  exact ⟨rfl, rfl⟩
theorem and1 (x : Int) (h0 : 0 ≤ x) (h1 : x < 18446744073709551616) : bits .and .u64 x 1 = x % 2 := by
  rw [u64_and x 1 h0 h1 (by omega) (by omega)]
  obtain ⟨n, rfl⟩ := Int.eq_ofNat_of_zero_le h0
  rw [Int.toNat_natCast, show (1 : Int).toNat = 2 ^ 1 - 1 from rfl, Nat.and_two_pow_sub_one_eq_mod]; simp
set_option maxHeartbeats 1000000 in
theorem in_any (s v : Int) (h0 : 0 ≤ s) (h1 : s < 18446744073709551616) (v0 : 0 ≤ v) (v1 : v < 4294967296) (w : World) (ht : TabAt w) : Calls Tryz.prog 37 #[.int .u64 s, .int .u32 v] w fun e w' => e = .returned (.bool (mix s v % 2 == 1)) ∧ w' = w := by
  have HM := hide (mix_any s v h0 h1 v0 v1 w ht)
  have mb := mix_b s v
  have ha := and1 (mix s v) mb.1 mb.2
  clear ht
  generalize mix s v = m at *
  go_enter Tryz.func37, Tryz.ntmps37
  go_wp2_with (fail)
  refine HM.out.mono ?_
  rintro e9 w9 ⟨rfl, hw9⟩
  subst w9
  go_wp2
  go_ret
  exact ⟨rfl, rfl⟩
set_option maxHeartbeats 1000000 in
theorem rin_any (s v : Int) (h0 : 0 ≤ s) (h1 : s < 18446744073709551616) (v0 : 0 ≤ v) (v1 : v < 4294967296) (w : World) : Calls Tryz.prog 97 #[.int .u64 s, .int .u32 v] w fun e w' => e = .returned (.bool (mix s v % 2 == 1)) ∧ w' = w := by
  have HM := hide (rmix_any s v h0 h1 v0 v1 w)
  have mb := mix_b s v
  generalize mix s v = m at *
  go_enter Tryz.func97, Tryz.ntmps97
  go_wp2_with (fail)
  refine HM.out.mono ?_
  rintro e9 w9 ⟨rfl, hw9⟩
  subst w9
  go_wp2
  go_ret
  exact ⟨rfl, rfl⟩
end Rx
end Go.Proofs.YtgoigcpdfecfhaaGreatDoor
