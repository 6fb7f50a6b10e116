import Derived.Test.YtobhmadckoemdaaTyDw
namespace Go.Proofs.Ytobhmadckoemdaa
namespace Ty
open Go.RowKit
set_option linter.unusedVariables false
theorem quo_b {hi lo y : Int} (h0 : 0 ≤ hi) (h1 : hi < y) (l0 : 0 ≤ lo) (l1 : lo < 18446744073709551616) : 0 ≤ (hi * 18446744073709551616 + lo) / y ∧ (hi * 18446744073709551616 + lo) / y < 18446744073709551616 ∧ 0 ≤ (hi * 18446744073709551616 + lo) % y ∧ (hi * 18446744073709551616 + lo) % y < y := by
  refine ⟨Int.ediv_nonneg (by omega) (by omega), Int.ediv_lt_of_lt_mul (by omega) ?_, Int.emod_nonneg _ (by omega), Int.emod_lt_of_pos _ (by omega)⟩
  have : 18446744073709551616 * (hi + 1) ≤ 18446744073709551616 * y := Int.mul_le_mul_of_nonneg_left (by omega) (by omega)
  omega
/-- Both words of what is divided, in halves: the quotient by two digits, and what is left. -/
theorem dv_all {X y P Y u t : Int} (hP : 0 < P) (hY : y * P = Y) (hy : 0 < Y) (hX : X * P = u * 18446744073709551616 + t) :
    (u * 4294967296 + t / 4294967296) / Y * 4294967296 + ((u * 4294967296 + t / 4294967296) % Y * 4294967296 + t % 4294967296) / Y = X / y ∧ ((u * 4294967296 + t / 4294967296) % Y * 4294967296 + t % 4294967296) % Y / P = X % y := by
  obtain ⟨h1, h2⟩ := dv_two (u * 4294967296 + t / 4294967296) (t % 4294967296) 4294967296 Y hy
  have e : (u * 4294967296 + t / 4294967296) * 4294967296 + t % 4294967296 = X * P := by rw [hX]; omega
  rw [e] at h1 h2
  rw [← h1, ← h2, ← hY]
  exact dv_scale X y P hP
set_option maxHeartbeats 800000 in
theorem div64_any (hi lo y : Int) (h0 : 0 ≤ hi) (h1 : hi < y) (hy : y < 18446744073709551616) (l0 : 0 ≤ lo) (l1 : lo < 18446744073709551616) (w : World) :
    Calls Try.prog 46 #[.int .u64 hi, .int .u64 lo, .int .u64 y] w fun e w' => e = .returned (.tuple #[.int .u64 ((hi * 18446744073709551616 + lo) / y), .int .u64 ((hi * 18446744073709551616 + lo) % y)]) ∧ ∃ m, w' = w.drewN m := by
  by_cases hz : hi = 0
  · subst hz
    rw [show (0 : Int) * 18446744073709551616 + lo = lo from by omega]
    have hyI : ¬ y ≤ 0 := by omega
    have hyp : (y == 0) = false := beq_false_of_ne (by omega)
    have e1 : IntKind.u64.wrap (lo.tdiv y) = lo / y := by
      rw [IntKind.wrap_u64, Int.tdiv_eq_ediv_of_nonneg l0]
      have a := Int.ediv_nonneg l0 (show 0 ≤ y by omega)
      have b := Int.ediv_le_self y l0
      omega
    have e2 : lo.tmod y = lo % y := Int.tmod_eq_emod_of_nonneg l0
    have e3 : IntKind.u64.wrap (lo % y) = lo % y := by
      rw [IntKind.wrap_u64]
      have a := Int.emod_nonneg lo (show y ≠ 0 by omega)
      have b := Int.emod_lt_of_pos lo (show 0 < y by omega)
      omega
    go_enter Try.func46, Try.ntmps46
    go_wp2
    go_quiet (fail)
    go_wp2
    go_ret2
    exact ⟨ret_two (by first | rfl | exact e1) (by first | rfl | exact e2 | exact e3), _, rfl⟩
  · obtain ⟨S, hS, hlen, n1, n2⟩ := len_pow y (by omega) hy
    obtain ⟨u, e3, u0, u1, hX⟩ := dv_norm hi lo y S hS n2 h0 h1 l0 l1
    obtain ⟨Y, eY⟩ : ∃ Y, Y = y * 2 ^ S := ⟨_, rfl⟩
    obtain ⟨t, et⟩ : ∃ t, t = lo * 2 ^ S % 18446744073709551616 := ⟨_, rfl⟩
    have tb : 0 ≤ t ∧ t < 18446744073709551616 := by omega
    rw [← eY] at n1 n2 u1
    rw [← et] at hX
    obtain ⟨k1, k2⟩ := dv_all (X := hi * 18446744073709551616 + lo) (y := y) (P := 2 ^ S) (Y := Y) (u := u) (t := t) (pw S) eY.symm (by omega) hX
    refine (div64_big hi lo y Y (Y / 4294967296) (Y % 4294967296) u t (t / 4294967296) (t % 4294967296) S hS hlen (by omega) hy (by omega) h1 l0 l1 (by rw [IntKind.wrap_u64, ← eY]; omega) (hv_of Y n1 n2) rfl (and32 Y (by omega) n2) (by rw [IntKind.wrap_u64]; exact e3) (by rw [IntKind.wrap_u64]; exact et.symm) rfl (and32 t tb.1 tb.2) u0 u1 (by omega) (by omega) (by omega) (by omega) w).mono ?_
    rintro e9 w9 ⟨rfl, rfl⟩
    exact ⟨by rw [k1, k2], 0, rfl⟩
end Ty
end Go.Proofs.Ytobhmadckoemdaa
