import Derived.Test.YtobhmadckoemdaaTyLn
import Derived.Test.YtobhmadckoemdaaTyDv
import Derived.Test.YtobhmadckoemdaaTyM
import Derived.Test.YtobhmadckoemdaaTyUp
namespace Go.Proofs.Ytobhmadckoemdaa
namespace Ty
open Go.RowKit
set_option linter.unusedVariables false
theorem len_pow (y : Int) (h0 : 0 < y) (h1 : y < 18446744073709551616) : ∃ S : Nat, S < 64 ∧ Rd.len y + S = 64 ∧ 9223372036854775808 ≤ y * 2 ^ S ∧ y * 2 ^ S < 18446744073709551616 := by
  obtain ⟨n, rfl⟩ : ∃ n : Nat, y = n := ⟨y.toNat, by omega⟩
  have hb := Rd.log2_b n (by omega)
  have hl : Rd.len (n : Int) = (Nat.log2 n : Int) + 1 := by
    unfold Rd.len Rd.lg
    rw [if_neg (by omega), Int.toNat_natCast]
  have hlt : Nat.log2 n < 64 := by
    by_cases h : Nat.log2 n < 64
    · exact h
    · have h2 : 2 ^ 64 ≤ 2 ^ Nat.log2 n := Nat.pow_le_pow_right (by omega) (by omega)
      have h3 : (2 : Nat) ^ 64 = 18446744073709551616 := by decide
      omega
  refine ⟨63 - Nat.log2 n, by omega, by rw [hl]; omega, ?_, ?_⟩
  · have h2 : 2 ^ Nat.log2 n * 2 ^ (63 - Nat.log2 n) ≤ n * 2 ^ (63 - Nat.log2 n) := Nat.mul_le_mul_right _ hb.1
    rw [← Nat.pow_add, show Nat.log2 n + (63 - Nat.log2 n) = 63 from by omega] at h2
    have h3 : (2 : Nat) ^ 63 = 9223372036854775808 := by decide
    rw [h3] at h2
    have h4 : ((n * 2 ^ (63 - Nat.log2 n) : Nat) : Int) = (n : Int) * 2 ^ (63 - Nat.log2 n) := by rw [Int.natCast_mul, Int.natCast_pow]; rfl
    rw [← h4]; omega
  · have h2 : n * 2 ^ (63 - Nat.log2 n) < 2 ^ (Nat.log2 n + 1) * 2 ^ (63 - Nat.log2 n) := Nat.mul_lt_mul_of_pos_right hb.2 (Nat.pow_pos (by omega))
    rw [← Nat.pow_add, show Nat.log2 n + 1 + (63 - Nat.log2 n) = 64 from by omega] at h2
    have h3 : (2 : Nat) ^ 64 = 18446744073709551616 := by decide
    rw [h3] at h2
    have h4 : ((n * 2 ^ (63 - Nat.log2 n) : Nat) : Int) = (n : Int) * 2 ^ (63 - Nat.log2 n) := by rw [Int.natCast_mul, Int.natCast_pow]; rfl
    rw [← h4]; omega
/-- What is divided, moved up by S places, in its two words. -/
theorem dv_norm (hi lo y : Int) (S : Nat) (hS : S < 64) (hy : y * 2 ^ S < 18446744073709551616) (h0 : 0 ≤ hi) (h1 : hi < y) (l0 : 0 ≤ lo) (l1 : lo < 18446744073709551616) :
    ∃ u, bits .or .u64 (hi * 2 ^ S % 18446744073709551616) (lo / 2 ^ (64 - S)) = u ∧ 0 ≤ u ∧ u < y * 2 ^ S ∧ (hi * 18446744073709551616 + lo) * 2 ^ S = u * 18446744073709551616 + lo * 2 ^ S % 18446744073709551616 := by
  have e : (18446744073709551616 : Int) = 2 ^ S * 2 ^ (64 - S) := by rw [← two64, ← Int.pow_add]; congr 1; omega
  have hP := pw S
  have hR := pw (64 - S)
  have hl0 : 0 ≤ lo / 2 ^ (64 - S) := Int.ediv_nonneg l0 (by omega)
  have hl1 : lo / 2 ^ (64 - S) < 2 ^ S := Int.ediv_lt_of_lt_mul hR (by rw [← e]; exact l1)
  have hs := shl_mod hi (lo / 2 ^ (64 - S)) S hS hl0 hl1
  have hh : hi * 2 ^ S + 2 ^ S ≤ y * 2 ^ S := by
    have : (hi + 1) * 2 ^ S ≤ y * 2 ^ S := Int.mul_le_mul_of_nonneg_right (by omega) (by omega)
    rw [Int.add_mul, Int.one_mul] at this; exact this
  have hn : 0 ≤ hi * 2 ^ S := Int.mul_nonneg h0 (by omega)
  have hsm : hi < 18446744073709551616 := by
    have : y * 1 ≤ y * 2 ^ S := Int.mul_le_mul_of_nonneg_left (by omega) (by omega)
    omega
  rw [Int.emod_eq_of_lt h0 hsm] at hs
  refine ⟨hi * 2 ^ S + lo / 2 ^ (64 - S), ?_, by omega, by omega, ?_⟩
  · rw [hs.2, Int.emod_eq_of_lt hn (by omega)]
  · have h3 : lo * 2 ^ S % 18446744073709551616 = lo % 2 ^ (64 - S) * 2 ^ S := by
      rw [e, Int.mul_comm lo, Int.mul_emod_mul_of_pos _ _ hP, Int.mul_comm]
    have h4 := Int.mul_ediv_add_emod lo (2 ^ (64 - S))
    have h5 : lo * 2 ^ S = lo / 2 ^ (64 - S) * 18446744073709551616 + lo % 2 ^ (64 - S) * 2 ^ S := by
      have : lo * 2 ^ S = (2 ^ (64 - S) * (lo / 2 ^ (64 - S)) + lo % 2 ^ (64 - S)) * 2 ^ S := by rw [h4]
      rw [this, Int.add_mul, e, Int.mul_comm (2 ^ (64 - S)) (lo / _), Int.mul_assoc, Int.mul_comm (2 ^ (64 - S)) (2 ^ S)]
    rw [h3, Int.add_mul, h5, Int.add_mul]
    have h6 : hi * 18446744073709551616 * 2 ^ S = hi * 2 ^ S * 18446744073709551616 := by rw [Int.mul_assoc, Int.mul_comm _ (2 ^ S), ← Int.mul_assoc]
    rw [h6]; omega
def LI (u d Y y1 q r : Int) : Prop := u = q * y1 + r ∧ 0 ≤ r ∧ r < 4294967296 ∧ 0 ≤ q ∧ q ≤ 4294967297 ∧ u * 4294967296 + d < (q + 1) * Y
/-- What a divisor of 64 bits with its highest bit set is in two halves. -/
def Hv (Y y1 y0 : Int) : Prop := Y = y1 * 4294967296 + y0 ∧ 2147483648 ≤ y1 ∧ y1 < 4294967296 ∧ 0 ≤ y0 ∧ y0 < 4294967296
theorem hv_of (Y : Int) (h : 9223372036854775808 ≤ Y) (h1 : Y < 18446744073709551616) : Hv Y (Y / 4294967296) (Y % 4294967296) := ⟨by omega, by omega, by omega, by omega, by omega⟩
theorem li_start {u d Y y1 y0 : Int} (hv : Hv Y y1 y0) (u0 : 0 ≤ u) (u1 : u < Y) (d0 : 0 ≤ d) (d1 : d < 4294967296) : LI u d Y y1 (u / y1) (u % y1) := by
  obtain ⟨rfl, a, b, c, e⟩ := hv
  have h1 := Int.mul_ediv_add_emod u y1
  have h2 := Int.emod_nonneg u (show y1 ≠ 0 by omega)
  have h3 := Int.emod_lt_of_pos u (show 0 < y1 by omega)
  have h4 : u = u / y1 * y1 + u % y1 := by rw [Int.mul_comm]; exact h1.symm
  have h0 : 0 ≤ u / y1 := Int.ediv_nonneg u0 (by omega)
  refine ⟨h4, h2, by omega, h0, dv_first (y1 := y1) (by omega) (by omega) e u1 h4 h2, ?_⟩
  refine dv_low ?_ d1 c h0 (by omega)
  rw [Int.add_mul, Int.one_mul]; omega
theorem mul_small {q y : Int} (h0 : 0 ≤ q) (h1 : q < 4294967296) (y0 : 0 ≤ y) (y1 : y < 4294967296) : 0 ≤ q * y ∧ q * y < 18446744073709551616 := by
  have a : q * y ≤ 4294967295 * y := Int.mul_le_mul_of_nonneg_right (by omega) y0
  have b : 0 ≤ q * y := Int.mul_nonneg h0 y0
  omega
/-- Too great: one less. -/
theorem li_pos {u d Y y1 y0 q r : Int} (hv : Hv Y y1 y0) (h : LI u d Y y1 q r) (u0 : 0 ≤ u) (u1 : u < Y) (d0 : 0 ≤ d) (d1 : d < 4294967296) (hc : 4294967296 ≤ q ∨ q * y0 > 4294967296 * r + d) : q * Y > u * 4294967296 + d ∧ 1 ≤ q := by
  obtain ⟨h1, h2, h3, h4, h5, h6⟩ := h
  have key : q * Y > u * 4294967296 + d := by
    rcases hc with hc | hc
    · exact dv_big hc u1 u0 d1 (by omega)
    · obtain ⟨rfl, _⟩ := hv
      exact (dv_iff h1).2 hc
  refine ⟨key, ?_⟩
  by_cases h : 1 ≤ q
  · exact h
  · have : q = 0 := by omega
    rw [this, Int.zero_mul] at key; omega
theorem li_next {u d Y y1 y0 q r : Int} (hv : Hv Y y1 y0) (h : LI u d Y y1 q r) (u0 : 0 ≤ u) (u1 : u < Y) (d0 : 0 ≤ d) (d1 : d < 4294967296) (hc : 4294967296 ≤ q ∨ q * y0 > 4294967296 * r + d) (hr : r + y1 < 4294967296) : LI u d Y y1 (q - 1) (r + y1) := by
  obtain ⟨k1, k2⟩ := li_pos hv h u0 u1 d0 d1 hc
  obtain ⟨h1, h2, h3, h4, h5, h6⟩ := h
  obtain ⟨_, a, b, c, e⟩ := hv
  exact ⟨dv_step h1, by omega, hr, by omega, by omega, by rw [show q - 1 + 1 = q from by omega]; omega⟩
theorem li_break {u d Y y1 y0 q r : Int} (hv : Hv Y y1 y0) (h : LI u d Y y1 q r) (u0 : 0 ≤ u) (u1 : u < Y) (d0 : 0 ≤ d) (d1 : d < 4294967296) (hc : 4294967296 ≤ q ∨ q * y0 > 4294967296 * r + d) (hr : 4294967296 ≤ r + y1) : (u * 4294967296 + d) / Y = q - 1 := by
  obtain ⟨k1, k2⟩ := li_pos hv h u0 u1 d0 d1 hc
  obtain ⟨h1, h2, h3, h4, h5, h6⟩ := h
  have hv' := hv
  obtain ⟨e0, a, b, c, e⟩ := hv
  refine dv_end ?_ (by rw [show q - 1 + 1 = q from by omega]; omega) (by omega)
  rw [e0]
  intro hh
  have := (dv_iff (dv_step h1)).1 hh
  exact dv_break (by omega) c e hr d0 this
theorem li_end {u d Y y1 y0 q r : Int} (hv : Hv Y y1 y0) (h : LI u d Y y1 q r) (u0 : 0 ≤ u) (u1 : u < Y) (d0 : 0 ≤ d) (d1 : d < 4294967296) (hc : ¬ q * y0 > 4294967296 * r + d) : (u * 4294967296 + d) / Y = q := by
  obtain ⟨h1, h2, h3, h4, h5, h6⟩ := h
  obtain ⟨e0, a, b, c, e⟩ := hv
  refine dv_end ?_ h6 (by omega)
  rw [e0]
  intro hh
  exact hc ((dv_iff h1).1 hh)
/-- A digit is below 2^32, and what is left is below the divisor. -/
theorem dv_dig {u d Y : Int} (u0 : 0 ≤ u) (u1 : u < Y) (d0 : 0 ≤ d) (d1 : d < 4294967296) : 0 ≤ (u * 4294967296 + d) / Y ∧ (u * 4294967296 + d) / Y < 4294967296 ∧ 0 ≤ (u * 4294967296 + d) % Y ∧ (u * 4294967296 + d) % Y < Y := by
  refine ⟨Int.ediv_nonneg (by omega) (by omega), Int.ediv_lt_of_lt_mul (by omega) ?_, Int.emod_nonneg _ (by omega), Int.emod_lt_of_pos _ (by omega)⟩
  have : 4294967296 * (u + 1) ≤ 4294967296 * Y := Int.mul_le_mul_of_nonneg_left (by omega) (by omega)
  omega
/-- What is left, in words of 64 bits. -/
theorem dv_rest {X Y : Int} (hY : 0 < Y) (h1 : Y ≤ 18446744073709551616) : (X - X / Y * Y) % 18446744073709551616 = X % Y := by
  have h := Int.mul_ediv_add_emod X Y
  have e : X - X / Y * Y = X % Y := by rw [Int.mul_comm]; omega
  have a := Int.emod_nonneg X (show Y ≠ 0 by omega)
  have b := Int.emod_lt_of_pos X hY
  rw [e, Int.emod_eq_of_lt a (by omega)]
theorem lz_any (x : Int) (S : Nat) (h0 : 0 ≤ x) (h1 : x < 18446744073709551616) (hS : Rd.len x + S = 64) (w : World) :
    Calls Try.prog 57 #[.int .u64 x] w fun e w' => e = .returned (.int .i64 (S : Int)) ∧ w' = w := by
  have hb := Rd.len_b x h0 h1
  have hw : IntKind.i64.wrap (64 - Rd.len x) = (S : Int) := by rw [IntKind.wrap_i64]; omega
  have HS : Hid (Rd.len x + S = 64) := hS
  clear hS
  go_enter Try.func57, Try.ntmps57
  go_wp2_with (fail)
  refine (Rd.len_any x h0 h1 _).mono ?_
  rintro e9 w9 ⟨rfl, hw9⟩
  subst w9
  go_wp2
  go_ret
  refine ⟨Rd.ret_int ?_, rfl⟩
  have := HS.out
  omega
theorem li_wrap {u d Y y1 y0 : Int} (hv : Hv Y y1 y0) (u0 : 0 ≤ u) (u1 : u < Y) (d0 : 0 ≤ d) (d1 : d < 4294967296) : ∃ q r, IntKind.u64.wrap (u.tdiv y1) = q ∧ IntKind.u64.wrap (u - IntKind.u64.wrap (q * y1)) = r ∧ LI u d Y y1 q r := by
  have h := li_start hv u0 u1 d0 d1
  have hv' := hv
  obtain ⟨e, a, b, c, f⟩ := hv
  have hq : IntKind.u64.wrap (u.tdiv y1) = u / y1 := by
    rw [IntKind.wrap_u64, Int.tdiv_eq_ediv_of_nonneg u0]
    obtain ⟨h1, h2, h3, h4, h5, h6⟩ := h
    omega
  refine ⟨u / y1, u % y1, hq, ?_, h⟩
  have h1 := Int.mul_ediv_add_emod u y1
  obtain ⟨g1, h2, h3, h4, h5, h6⟩ := h
  rw [IntKind.wrap_u64, IntKind.wrap_u64]
  generalize u / y1 * y1 = z at *
  omega
/-- The tests of a round, in words. -/
theorem dv_tests {u d Y y1 y0 q r : Int} (hv : Hv Y y1 y0) (h : LI u d Y y1 q r) (d0 : 0 ≤ d) (d1 : d < 4294967296) (hq : q < 4294967296) : IntKind.u64.wrap (q * y0) = q * y0 ∧ IntKind.u64.wrap (IntKind.u64.wrap (4294967296 * r) + d) = 4294967296 * r + d := by
  obtain ⟨h1, h2, h3, h4, h5, h6⟩ := h
  obtain ⟨e, a, b, c, f⟩ := hv
  have := mul_small h4 hq c f
  simp only [IntKind.wrap_u64]
  omega
theorem dv_less {u d Y y1 y0 q r : Int} (hv : Hv Y y1 y0) (h : LI u d Y y1 q r) (hq : 1 ≤ q) : IntKind.u64.wrap (q - 1) = q - 1 ∧ IntKind.u64.wrap (r + y1) = r + y1 := by
  obtain ⟨h1, h2, h3, h4, h5, h6⟩ := h
  obtain ⟨e, a, b, c, f⟩ := hv
  simp only [IntKind.wrap_u64]
  omega
theorem dv_second {u d Y X : Int} (hX : (u * 4294967296 + d) / Y = X) (h0 : 9223372036854775808 ≤ Y) (h1 : Y < 18446744073709551616) : IntKind.u64.wrap (IntKind.u64.wrap (IntKind.u64.wrap (u * 4294967296) + d) - IntKind.u64.wrap (X * Y)) = (u * 4294967296 + d) % Y := by
  rw [← dv_rest (X := u * 4294967296 + d) (Y := Y) (by omega) (by omega), hX]
  simp only [IntKind.wrap_u64]
  generalize X * Y = z
  omega
theorem dv_third {X1 X2 : Int} (a : 0 ≤ X1) (b : X1 < 4294967296) (c : 0 ≤ X2) (d : X2 < 4294967296) : IntKind.u64.wrap (IntKind.u64.wrap (X1 * 4294967296) + X2) = X1 * 4294967296 + X2 := by
  simp only [IntKind.wrap_u64]; omega
set_option maxRecDepth 4000 in
set_option maxHeartbeats 3200000 in
theorem div64_big (hi lo y Y y1 y0 u t d1 d0 : Int) (S : Nat) (hS : S < 64) (hlen : Rd.len y + S = 64) (hy0 : 0 < y) (hy1 : y < 18446744073709551616) (hh0 : 0 < hi) (hh1 : hi < y) (l0 : 0 ≤ lo) (l1 : lo < 18446744073709551616)
    (eY : IntKind.u64.wrap (y * 2 ^ S) = Y) (hv : Hv Y y1 y0) (e1 : Y / 4294967296 = y1) (e2 : bits .and .u64 Y 4294967295 = y0) (e3 : bits .or .u64 (IntKind.u64.wrap (hi * 2 ^ S)) (lo / 2 ^ (64 - S)) = u) (e4 : IntKind.u64.wrap (lo * 2 ^ S) = t) (e5 : t / 4294967296 = d1) (e6 : bits .and .u64 t 4294967295 = d0) (u0 : 0 ≤ u) (u1 : u < Y) (a0 : 0 ≤ d1) (a1 : d1 < 4294967296) (b0 : 0 ≤ d0) (b1 : d0 < 4294967296) (w : World) :
    Calls Try.prog 46 #[.int .u64 hi, .int .u64 lo, .int .u64 y] w fun e w' => e = .returned (.tuple #[.int .u64 ((u * 4294967296 + d1) / Y * 4294967296 + ((u * 4294967296 + d1) % Y * 4294967296 + d0) / Y), .int .u64 (((u * 4294967296 + d1) % Y * 4294967296 + d0) % Y / 2 ^ S)]) ∧ w' = w := by
  have HL : Hid (∀ w, Calls Try.prog 57 #[.int .u64 y] w fun e w' => e = .returned (.int .i64 (S : Int)) ∧ w' = w) := fun w => lz_any y S (by omega) hy1 hlen w
  obtain ⟨q9, r9, e7, e8, li9⟩ := li_wrap hv u0 u1 a0 a1
  have LS : Hid (LI u d1 Y y1 q9 r9) := li9
  have HV : Hid (Hv Y y1 y0) := hv
  have hYb : 9223372036854775808 ≤ Y ∧ Y < 18446744073709551616 := by obtain ⟨k, m1, m2, m3, m4⟩ := hv; omega
  have hy1p : 0 < y1 := by obtain ⟨k, m1, m2, m3, m4⟩ := hv; omega
  have hy10 : (y1 == 0) = false := by obtain ⟨k, m1, m2, m3, m4⟩ := hv; exact beq_false_of_ne (by omega)
  obtain ⟨g1, g2, g3, g4⟩ := dv_dig u0 u1 a0 a1
  have gs := dv_second (u := u) (d := d1) (Y := Y) rfl hYb.1 hYb.2
  obtain ⟨X1, hX1⟩ : ∃ X1, X1 = (u * 4294967296 + d1) / Y := ⟨_, rfl⟩
  obtain ⟨v, hv9⟩ : ∃ v, v = (u * 4294967296 + d1) % Y := ⟨_, rfl⟩
  rw [← hX1] at g1 g2 gs
  rw [← hv9] at g3 g4 gs
  rw [← hX1, ← hv9]
  have HX1 : Hid (X1 = (u * 4294967296 + d1) / Y) := hX1
  clear hX1 hv9
  obtain ⟨q8, r8, e9, e10, li8⟩ := li_wrap hv g3 g4 b0 b1
  have LT : Hid (LI v d0 Y y1 q8 r8) := li8
  obtain ⟨i1, i2, i3, i4⟩ := dv_dig g3 g4 b0 b1
  have gt := dv_second (u := v) (d := d0) (Y := Y) rfl hYb.1 hYb.2
  obtain ⟨X2, hX2⟩ : ∃ X2, X2 = (v * 4294967296 + d0) / Y := ⟨_, rfl⟩
  obtain ⟨z, hz9⟩ : ∃ z, z = (v * 4294967296 + d0) % Y := ⟨_, rfl⟩
  rw [← hX2] at i1 i2 gt
  rw [← hz9] at i3 i4 gt
  rw [← hX2, ← hz9]
  have HX2 : Hid (X2 = (v * 4294967296 + d0) / Y) := hX2
  have g5 := dv_third g1 g2 i1 i2
  clear hX2 hz9 hlen li8 li9 hv
  have hyI : ¬ y ≤ hi := by omega
  go_enter Try.func46, Try.ntmps46
  go_wp2_with (fail)
  refine (HL.out _).mono ?_
  rintro e9 w9 ⟨rfl, hw9⟩
  subst w9
  go_wp2
  clear e1 e2 e3 e4 e5 e6 e7 e8 eY hyI HL
  go_loop [15, 16] (fun q r => ∃ Q R, q = .int .u64 Q ∧ r = .int .u64 R ∧ LI u d1 Y y1 Q R) (fun q _ => (intOf q).toNat)
  case atStart => exact ⟨_, _, rfl, rfl, LS.out⟩
  case round =>
    clear LS
    obtain ⟨Q, R, rfl, rfl, li⟩ := hrel
    have LQ : Hid (LI u d1 Y y1 Q R) := li
    have hQ0 : 0 ≤ Q := li.2.2.2.1
    by_cases hb : 4294967296 ≤ Q
    · clear li
      have hor : 4294967296 ≤ Q ∨ Q * y0 > 4294967296 * R + d1 := Or.inl hb
      have hp := (li_pos HV.out LQ.out u0 u1 a0 a1 hor).2
      obtain ⟨w1, w2⟩ := dv_less HV.out LQ.out hp
      by_cases hr : R + y1 < 4294967296
      · have hr2 : ¬ 4294967296 ≤ R + y1 := by omega
        have LN : Hid (LI u d1 Y y1 (Q - 1) (R + y1)) := li_next HV.out LQ.out u0 u1 a0 a1 hor hr
        clear hr hor
        go_wp2
        go_round
        case rel => exact ⟨_, _, rfl, rfl, LN.out⟩
        case measure => simp [intOf]; omega
      · have hr2 : 4294967296 ≤ R + y1 := by omega
        have hx : X1 = Q - 1 := HX1.out.trans (li_break HV.out LQ.out u0 u1 a0 a1 hor hr2)
        have w3 : IntKind.u64.wrap (Q - 1) = X1 := w1.trans hx.symm
        clear w1
        clear hr hx hor
        go_wp2
        clear w3 w2 hr2 hp hQ0 LQ
        go_loop [18, 16] (fun q r => ∃ Q R, q = .int .u64 Q ∧ r = .int .u64 R ∧ LI v d0 Y y1 Q R) (fun q _ => (intOf q).toNat)
        case atStart => exact ⟨_, _, rfl, rfl, LT.out⟩
        case round =>
          clear LT
          obtain ⟨Q, R, rfl, rfl, li⟩ := hrel
          have LQ : Hid (LI v d0 Y y1 Q R) := li
          have hQ0 : 0 ≤ Q := li.2.2.2.1
          by_cases hb : 4294967296 ≤ Q
          · clear li
            have hor : 4294967296 ≤ Q ∨ Q * y0 > 4294967296 * R + d0 := Or.inl hb
            have hp := (li_pos HV.out LQ.out g3 g4 b0 b1 hor).2
            obtain ⟨w1, w2⟩ := dv_less HV.out LQ.out hp
            by_cases hr : R + y1 < 4294967296
            · have hr2 : ¬ 4294967296 ≤ R + y1 := by omega
              have LN : Hid (LI v d0 Y y1 (Q - 1) (R + y1)) := li_next HV.out LQ.out g3 g4 b0 b1 hor hr
              clear hr hor
              go_wp2
              go_round
              case rel => exact ⟨_, _, rfl, rfl, LN.out⟩
              case measure => simp [intOf]; omega
            · have hr2 : 4294967296 ≤ R + y1 := by omega
              have hx : X2 = Q - 1 := HX2.out.trans (li_break HV.out LQ.out g3 g4 b0 b1 hor hr2)
              have w3 : IntKind.u64.wrap (Q - 1) = X2 := w1.trans hx.symm
              clear w1
              clear hr hx hor
              go_wp2
              clear w3 w2 hr2 hp hQ0 LQ
              go_ret2
              exact ⟨ret_two (by first | rfl | exact g5) (by first | rfl | exact congrArg (· / 2 ^ S) gt), rfl⟩
          · obtain ⟨t1, t2⟩ := dv_tests HV.out LQ.out b0 b1 (by omega)
            clear li
            have hb2 : Q < 4294967296 := by omega
            by_cases hc : Q * y0 > 4294967296 * R + d0
            · have hor : 4294967296 ≤ Q ∨ Q * y0 > 4294967296 * R + d0 := Or.inr hc
              have hp := (li_pos HV.out LQ.out g3 g4 b0 b1 hor).2
              obtain ⟨w1, w2⟩ := dv_less HV.out LQ.out hp
              by_cases hr : R + y1 < 4294967296
              · have hr2 : ¬ 4294967296 ≤ R + y1 := by omega
                have LN : Hid (LI v d0 Y y1 (Q - 1) (R + y1)) := li_next HV.out LQ.out g3 g4 b0 b1 hor hr
                clear hr hor
                go_wp2
                go_round
                case rel => exact ⟨_, _, rfl, rfl, LN.out⟩
                case measure => simp [intOf]; omega
              · have hr2 : 4294967296 ≤ R + y1 := by omega
                have hx : X2 = Q - 1 := HX2.out.trans (li_break HV.out LQ.out g3 g4 b0 b1 hor hr2)
                have w3 : IntKind.u64.wrap (Q - 1) = X2 := w1.trans hx.symm
                clear w1
                clear hr hx hor
                go_wp2
                clear w3 w2 hr2 hp hQ0 LQ
                go_ret2
                exact ⟨ret_two (by first | rfl | exact g5) (by first | rfl | exact congrArg (· / 2 ^ S) gt), rfl⟩
            · have hx : X2 = Q := HX2.out.trans (li_end HV.out LQ.out g3 g4 b0 b1 hc)
              subst Q
              go_wp2
              clear LQ t1 t2 hc hb hb2 hQ0
              go_ret2
              exact ⟨ret_two (by first | rfl | exact g5) (by first | rfl | exact congrArg (· / 2 ^ S) gt), rfl⟩
    · obtain ⟨t1, t2⟩ := dv_tests HV.out LQ.out a0 a1 (by omega)
      clear li
      have hb2 : Q < 4294967296 := by omega
      by_cases hc : Q * y0 > 4294967296 * R + d1
      · have hor : 4294967296 ≤ Q ∨ Q * y0 > 4294967296 * R + d1 := Or.inr hc
        have hp := (li_pos HV.out LQ.out u0 u1 a0 a1 hor).2
        obtain ⟨w1, w2⟩ := dv_less HV.out LQ.out hp
        by_cases hr : R + y1 < 4294967296
        · have hr2 : ¬ 4294967296 ≤ R + y1 := by omega
          have LN : Hid (LI u d1 Y y1 (Q - 1) (R + y1)) := li_next HV.out LQ.out u0 u1 a0 a1 hor hr
          clear hr hor
          go_wp2
          go_round
          case rel => exact ⟨_, _, rfl, rfl, LN.out⟩
          case measure => simp [intOf]; omega
        · have hr2 : 4294967296 ≤ R + y1 := by omega
          have hx : X1 = Q - 1 := HX1.out.trans (li_break HV.out LQ.out u0 u1 a0 a1 hor hr2)
          have w3 : IntKind.u64.wrap (Q - 1) = X1 := w1.trans hx.symm
          clear w1
          clear hr hx hor
          go_wp2
          clear w3 w2 hr2 hp hQ0 LQ
          go_loop [18, 16] (fun q r => ∃ Q R, q = .int .u64 Q ∧ r = .int .u64 R ∧ LI v d0 Y y1 Q R) (fun q _ => (intOf q).toNat)
          case atStart => exact ⟨_, _, rfl, rfl, LT.out⟩
          case round =>
            clear LT
            obtain ⟨Q, R, rfl, rfl, li⟩ := hrel
            have LQ : Hid (LI v d0 Y y1 Q R) := li
            have hQ0 : 0 ≤ Q := li.2.2.2.1
            by_cases hb : 4294967296 ≤ Q
            · clear li
              have hor : 4294967296 ≤ Q ∨ Q * y0 > 4294967296 * R + d0 := Or.inl hb
              have hp := (li_pos HV.out LQ.out g3 g4 b0 b1 hor).2
              obtain ⟨w1, w2⟩ := dv_less HV.out LQ.out hp
              by_cases hr : R + y1 < 4294967296
              · have hr2 : ¬ 4294967296 ≤ R + y1 := by omega
                have LN : Hid (LI v d0 Y y1 (Q - 1) (R + y1)) := li_next HV.out LQ.out g3 g4 b0 b1 hor hr
                clear hr hor
                go_wp2
                go_round
                case rel => exact ⟨_, _, rfl, rfl, LN.out⟩
                case measure => simp [intOf]; omega
              · have hr2 : 4294967296 ≤ R + y1 := by omega
                have hx : X2 = Q - 1 := HX2.out.trans (li_break HV.out LQ.out g3 g4 b0 b1 hor hr2)
                have w3 : IntKind.u64.wrap (Q - 1) = X2 := w1.trans hx.symm
                clear w1
                clear hr hx hor
                go_wp2
                clear w3 w2 hr2 hp hQ0 LQ
                go_ret2
                exact ⟨ret_two (by first | rfl | exact g5) (by first | rfl | exact congrArg (· / 2 ^ S) gt), rfl⟩
            · obtain ⟨t1, t2⟩ := dv_tests HV.out LQ.out b0 b1 (by omega)
              clear li
              have hb2 : Q < 4294967296 := by omega
              by_cases hc : Q * y0 > 4294967296 * R + d0
              · have hor : 4294967296 ≤ Q ∨ Q * y0 > 4294967296 * R + d0 := Or.inr hc
                have hp := (li_pos HV.out LQ.out g3 g4 b0 b1 hor).2
                obtain ⟨w1, w2⟩ := dv_less HV.out LQ.out hp
                by_cases hr : R + y1 < 4294967296
                · have hr2 : ¬ 4294967296 ≤ R + y1 := by omega
                  have LN : Hid (LI v d0 Y y1 (Q - 1) (R + y1)) := li_next HV.out LQ.out g3 g4 b0 b1 hor hr
                  clear hr hor
                  go_wp2
                  go_round
                  case rel => exact ⟨_, _, rfl, rfl, LN.out⟩
                  case measure => simp [intOf]; omega
                · have hr2 : 4294967296 ≤ R + y1 := by omega
                  have hx : X2 = Q - 1 := HX2.out.trans (li_break HV.out LQ.out g3 g4 b0 b1 hor hr2)
                  have w3 : IntKind.u64.wrap (Q - 1) = X2 := w1.trans hx.symm
                  clear w1
                  clear hr hx hor
                  go_wp2
                  clear w3 w2 hr2 hp hQ0 LQ
                  go_ret2
                  exact ⟨ret_two (by first | rfl | exact g5) (by first | rfl | exact congrArg (· / 2 ^ S) gt), rfl⟩
              · have hx : X2 = Q := HX2.out.trans (li_end HV.out LQ.out g3 g4 b0 b1 hc)
                subst Q
                go_wp2
                clear LQ t1 t2 hc hb hb2 hQ0
                go_ret2
                exact ⟨ret_two (by first | rfl | exact g5) (by first | rfl | exact congrArg (· / 2 ^ S) gt), rfl⟩
      · have hx : X1 = Q := HX1.out.trans (li_end HV.out LQ.out u0 u1 a0 a1 hc)
        subst Q
        go_wp2
        clear LQ t1 t2 hc hb hb2 hQ0
        go_loop [18, 16] (fun q r => ∃ Q R, q = .int .u64 Q ∧ r = .int .u64 R ∧ LI v d0 Y y1 Q R) (fun q _ => (intOf q).toNat)
        case atStart => exact ⟨_, _, rfl, rfl, LT.out⟩
        case round =>
          clear LT
          obtain ⟨Q, R, rfl, rfl, li⟩ := hrel
          have LQ : Hid (LI v d0 Y y1 Q R) := li
          have hQ0 : 0 ≤ Q := li.2.2.2.1
          by_cases hb : 4294967296 ≤ Q
          · clear li
            have hor : 4294967296 ≤ Q ∨ Q * y0 > 4294967296 * R + d0 := Or.inl hb
            have hp := (li_pos HV.out LQ.out g3 g4 b0 b1 hor).2
            obtain ⟨w1, w2⟩ := dv_less HV.out LQ.out hp
            by_cases hr : R + y1 < 4294967296
            · have hr2 : ¬ 4294967296 ≤ R + y1 := by omega
              have LN : Hid (LI v d0 Y y1 (Q - 1) (R + y1)) := li_next HV.out LQ.out g3 g4 b0 b1 hor hr
              clear hr hor
              go_wp2
              go_round
              case rel => exact ⟨_, _, rfl, rfl, LN.out⟩
              case measure => simp [intOf]; omega
            · have hr2 : 4294967296 ≤ R + y1 := by omega
              have hx : X2 = Q - 1 := HX2.out.trans (li_break HV.out LQ.out g3 g4 b0 b1 hor hr2)
              have w3 : IntKind.u64.wrap (Q - 1) = X2 := w1.trans hx.symm
              clear w1
              clear hr hx hor
              go_wp2
              clear w3 w2 hr2 hp hQ0 LQ
              go_ret2
              exact ⟨ret_two (by first | rfl | exact g5) (by first | rfl | exact congrArg (· / 2 ^ S) gt), rfl⟩
          · obtain ⟨t1, t2⟩ := dv_tests HV.out LQ.out b0 b1 (by omega)
            clear li
            have hb2 : Q < 4294967296 := by omega
            by_cases hc : Q * y0 > 4294967296 * R + d0
            · have hor : 4294967296 ≤ Q ∨ Q * y0 > 4294967296 * R + d0 := Or.inr hc
              have hp := (li_pos HV.out LQ.out g3 g4 b0 b1 hor).2
              obtain ⟨w1, w2⟩ := dv_less HV.out LQ.out hp
              by_cases hr : R + y1 < 4294967296
              · have hr2 : ¬ 4294967296 ≤ R + y1 := by omega
                have LN : Hid (LI v d0 Y y1 (Q - 1) (R + y1)) := li_next HV.out LQ.out g3 g4 b0 b1 hor hr
                clear hr hor
                go_wp2
                go_round
                case rel => exact ⟨_, _, rfl, rfl, LN.out⟩
                case measure => simp [intOf]; omega
              · have hr2 : 4294967296 ≤ R + y1 := by omega
                have hx : X2 = Q - 1 := HX2.out.trans (li_break HV.out LQ.out g3 g4 b0 b1 hor hr2)
                have w3 : IntKind.u64.wrap (Q - 1) = X2 := w1.trans hx.symm
                clear w1
                clear hr hx hor
                go_wp2
                clear w3 w2 hr2 hp hQ0 LQ
                go_ret2
                exact ⟨ret_two (by first | rfl | exact g5) (by first | rfl | exact congrArg (· / 2 ^ S) gt), rfl⟩
            · have hx : X2 = Q := HX2.out.trans (li_end HV.out LQ.out g3 g4 b0 b1 hc)
              subst Q
              go_wp2
              clear LQ t1 t2 hc hb hb2 hQ0
              go_ret2
              exact ⟨ret_two (by first | rfl | exact g5) (by first | rfl | exact congrArg (· / 2 ^ S) gt), rfl⟩
end Ty
end Go.Proofs.Ytobhmadckoemdaa
