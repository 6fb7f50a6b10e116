import Derived.Test.YtgoigcpdfecfhaaGreatDoorHxM
import Derived.Test.YtgoigcpdfecfhaaGreatDoorMgI
namespace Go.Proofs.YtgoigcpdfecfhaaGreatDoor
namespace Kt
open Go.RowKit Ieee
set_option linter.unusedVariables false
set_option maxRecDepth 8000
theorem hide {p : Prop} (h : p) : Hid p := h
theorem chain {w w1 w2 : World} (h : Below w.heap.size w w1) (h2 : Below w1.heap.size w1 w2) : Below w.heap.size w w2 := h.trans (h2.mono h.size)
theorem norm_parts (u : Int) (h0 : 8388608 ≤ u) (h1 : u < 2139095040) : Cl.pn u = false ∧ Cl.pm u * 2 ^ (23 - Rd.lg (Cl.pm u)).toNat = 8388608 + u % 8388608 ∧ Cl.pe u - (23 - Rd.lg (Cl.pm u)) = u / 8388608 - 150 := by
  have hm : u % 2147483648 = u := by omega
  obtain ⟨a, b, c, -⟩ := Cl.p_fin u (by omega) (by omega)
  rw [hm] at b c
  have eM : Cl.M0 u = u % 8388608 + 8388608 := by unfold Cl.M0; rw [if_neg (by omega)]
  have eE : Cl.E0 u = u / 8388608 - 150 := by unfold Cl.E0; rw [if_neg (by omega)]
  obtain ⟨n, hn⟩ := Int.eq_ofNat_of_zero_le (show 0 ≤ Cl.M0 u by omega)
  have hnb : 8388608 ≤ n ∧ n < 16777216 := by omega
  have hX : 8388608 + u % 8388608 = (n : Int) := by omega
  rw [hX]
  unfold Cl.tzI at c
  rw [hn, Int.toNat_natCast] at b c
  obtain ⟨h2, j, hj⟩ := Cl.tz_spec 32 n (by omega) (by omega)
  generalize Cl.tz n 32 = t at *
  have hd : n / 2 ^ t = 2 * j + 1 := by rw [hj]; exact Nat.mul_div_cancel_left _ (Nat.two_pow_pos t)
  have e : (n : Int) / 2 ^ t = ((n / 2 ^ t : Nat) : Int) := by simp
  rw [e, hd] at b
  have hlg : Rd.lg (Cl.pm u) + t = 23 := by
    rw [b]
    unfold Rd.lg
    rw [Int.toNat_natCast]
    have l1 : n.log2 = 23 := (Nat.log2_eq_iff (by omega)).2 ⟨by omega, by omega⟩
    have l2 := Rd.log2_div n t (by rw [hj]; exact Nat.le_mul_of_pos_right _ (by omega))
    rw [hd, l1] at l2
    omega
  refine ⟨by rw [a]; simp; omega, ?_, by omega⟩
  rw [show (23 - Rd.lg (Cl.pm u)).toNat = t by omega, b]
  have : ((2 * j + 1 : Nat) : Int) * 2 ^ t = ((2 ^ t * (2 * j + 1) : Nat) : Int) := by rw [Int.natCast_mul, Int.mul_comm]; simp
  rw [this, ← hj]
/-- A normal number, taken apart by the document. -/
theorem full_norm (u : Int) (h0 : 8388608 ≤ u) (h1 : u < 2139095040) (w : World) :
    Calls Tryz.prog 194 #[.int .u32 u] w fun r w' => r = .returned (.tuple #[.bool false, .int .u64 (8388608 + u % 8388608), .int .i64 (u / 8388608 - 150)]) ∧ Below w.heap.size w w' := by
  obtain ⟨a, b, c⟩ := norm_parts u h0 h1
  have := Hx.full_any u (by omega) (by omega) (by omega) (by omega) w
  rw [a, b, c] at this
  exact this
set_option maxHeartbeats 1000000 in
theorem full_zero (w : World) : Calls Tryz.prog 194 #[.int .u32 0] w fun r w' => r = .returned (.tuple #[.bool false, .int .u64 0, .int .i64 0]) ∧ Below w.heap.size w w' := by
  have HP : Hid (∀ W, Calls Tryz.prog 242 #[.int .u32 0] W fun r W' => r = .returned (.tuple #[.bool false, .int .u32 0, .int .i64 0, .int .i64 0]) ∧ Below W.heap.size W W') := fun W => by
    refine (Cl.rparts_any 0 (by omega) (by omega) W).mono ?_
    rintro e w' ⟨rfl, n, rfl⟩
    obtain ⟨a, b, c, d⟩ := Cl.p_zero 0 (by decide)
    rw [a, b, c, d]
    exact ⟨rfl, Hx.below_drewN W n⟩
  go_enter Tryz.func194, Tryz.ntmps194
  go_wp2_with (go_at_call 242; refine (HP.out _).mono ?_; rintro e9 w1 ⟨rfl, hb⟩)
  go_loop [9, 7] (fun x y => x = .int .u64 0 ∧ y = .int .i64 0) (fun _ _ => 0)
  case atStart => exact ⟨rfl, rfl⟩
  case round =>
    obtain ⟨rfl, rfl⟩ := hrel
    go_wp2
    go_ret3
    exact ⟨rfl, hb⟩
/-- What the document's quotient is. -/
def dv (a b : Int) : Int := Rd.rnd false (Fl.quo (8388608 + a % 8388608).toNat (8388608 + b % 8388608).toNat 38 : Nat) (a / 8388608 - 150 - 39 - (b / 8388608 - 150))
theorem quo_b (X Y : Nat) (hX : X < 16777216) (hY : 8388608 ≤ Y) : Fl.quo X Y 38 < 2199023255552 := by
  unfold Fl.quo
  rw [show (2 : Nat) ^ 38 = 274877906944 from rfl]
  have hs : (X * 274877906944 % Y != 0).toNat ≤ 1 := Bool.toNat_le _
  have : X * 274877906944 / Y < 549755813888 := by
    refine (Nat.div_lt_iff_lt_mul (by omega)).2 ?_
    have h1 : 549755813888 * 8388608 ≤ 549755813888 * Y := Nat.mul_le_mul_left _ hY
    have h2 : X * 274877906944 < 16777216 * 274877906944 := Nat.mul_lt_mul_of_pos_right hX (by decide)
    exact Nat.lt_of_lt_of_le h2 h1
  generalize (X * 274877906944 % Y != 0).toNat = s at *
  generalize X * 274877906944 / Y = q at *
  omega
theorem quo38 (X Y : Nat) : Fl.quo X Y 38 = 2 * (X * 274877906944 / Y) + (X * 274877906944 % Y != 0).toNat := by
  unfold Fl.quo; rfl
theorem qi (q r : Nat) : (((r : Int) != 0) = true → 2 * (q : Int) + 1 = ((2 * q + (r != 0).toNat : Nat) : Int)) ∧ (((r : Int) != 0) = false → 2 * (q : Int) = ((2 * q + (r != 0).toNat : Nat) : Int)) := by
  constructor
  · intro h
    have : (r != 0) = true := by simpa using h
    rw [this]; simp
  · intro h
    have : (r != 0) = false := by simpa using h
    rw [this]; simp
theorem quo_int (x y : Int) (X Y : Nat) (hx : x = (X : Int)) (hy : y = (Y : Int)) :
    ((x * 274877906944 % y != 0) = true → 2 * (x * 274877906944 / y) + 1 = (Fl.quo X Y 38 : Nat)) ∧ ((x * 274877906944 % y != 0) = false → 2 * (x * 274877906944 / y) = (Fl.quo X Y 38 : Nat)) := by
  subst hx hy
  have e1 : (X : Int) * 274877906944 / (Y : Int) = ((X * 274877906944 / Y : Nat) : Int) := by rw [Int.natCast_ediv, Int.natCast_mul]; rfl
  have e2 : (X : Int) * 274877906944 % (Y : Int) = ((X * 274877906944 % Y : Nat) : Int) := by rw [Int.natCast_emod, Int.natCast_mul]; rfl
  rw [e1, e2, quo38]
  exact qi _ _
set_option maxHeartbeats 2000000 in
theorem divf_any (a b : Int) (ha : 8388608 ≤ a) (ha2 : a < 2139095040) (hb : 8388608 ≤ b) (hb2 : b < 2139095040) (w : World) :
    Calls Tryz.prog 114 #[.int .u32 a, .int .u32 b] w fun r w' => r = .returned (.int .u32 (dv a b)) ∧ Below w.heap.size w w' := by
  have HA := hide (full_norm a ha ha2)
  have HB := hide (full_norm b hb hb2)
  obtain ⟨X, hX⟩ := Int.eq_ofNat_of_zero_le (show 0 ≤ 8388608 + a % 8388608 by omega)
  obtain ⟨Y, hY⟩ := Int.eq_ofNat_of_zero_le (show 0 ≤ 8388608 + b % 8388608 by omega)
  have hXb : X < 16777216 := by omega
  have hYb : 8388608 ≤ Y := by omega
  obtain ⟨q1, q2⟩ := quo_int (8388608 + a % 8388608) (8388608 + b % 8388608) X Y hX hY
  have qb := quo_b X Y hXb hYb
  have eD : Hid (dv a b = Rd.rnd false (Fl.quo X Y 38 : Nat) (a / 8388608 - 150 - 39 - (b / 8388608 - 150))) := by
    show _ = _; unfold dv; rw [hX, hY]; simp
  have x0 : 8388608 ≤ 8388608 + a % 8388608 := by omega
  have x1 : 8388608 + a % 8388608 < 16777216 := by omega
  have y0 : 8388608 ≤ 8388608 + b % 8388608 := by omega
  have y1 : 8388608 + b % 8388608 < 16777216 := by omega
  have e0 : -150 ≤ a / 8388608 - 150 ∧ a / 8388608 - 150 ≤ 150 := by omega
  have f0 : -150 ≤ b / 8388608 - 150 ∧ b / 8388608 - 150 ≤ 150 := by omega
  rw [eD.out]
  clear eD hX hY ha ha2 hb hb2 hXb hYb
  generalize 8388608 + a % 8388608 = x at *
  generalize 8388608 + b % 8388608 = y at *
  generalize a / 8388608 - 150 = e at *
  generalize b / 8388608 - 150 = f at *
  have HR := hide (Rd.ref_any false (Fl.quo X Y 38 : Nat) (e - 39 - f) (by omega) (by omega) (by omega) (by omega))
  generalize Fl.quo X Y 38 = Q at *
  have hqb : x * 274877906944 / y < 1099511627776 := by
    refine Int.ediv_lt_of_lt_mul (by omega) ?_
    have : 1099511627776 * 8388608 ≤ 1099511627776 * y := by omega
    omega
  have hq0 : 0 ≤ x * 274877906944 / y := Int.ediv_nonneg (by omega) (by omega)
  have hy0 : (y == 0) = false := by simp; omega
  have hx0 : (x == 0) = false := by simp; omega
  obtain ⟨E0, E1⟩ := e0
  obtain ⟨F0, F1⟩ := f0
  cases hr : (x * 274877906944 % y != 0)
  · have h2 := hide (q2 hr)
    have hq2 : 0 ≤ 2 * (x * 274877906944 / y) := by omega
    have hq3 : 2 * (x * 274877906944 / y) < 18446744073709551616 := by omega
    clear q1 q2
    go_enter Tryz.func114, Tryz.ntmps114
    go_wp2_with (fail)
    refine (HA.out _).mono ?_
    rintro e1 w1 ⟨rfl, hb1⟩
    go_wp2_with (fail)
    refine (HB.out _).mono ?_
    rintro e2 w2 ⟨rfl, hb2⟩
    go_wp2_with (fail)
    rw [h2.out]
    refine (HR.out _).mono ?_
    rintro e3 w3 ⟨rfl, hw3⟩
    subst w3
    go_wp2
    go_ret
    exact ⟨rfl, chain hb1 hb2⟩
  · have h2 := hide (q1 hr)
    have hq2 : 0 ≤ 2 * (x * 274877906944 / y) := by omega
    have hq3 : 2 * (x * 274877906944 / y) + 1 < 18446744073709551616 := by omega
    clear q1 q2
    go_enter Tryz.func114, Tryz.ntmps114
    go_wp2_with (fail)
    refine (HA.out _).mono ?_
    rintro e1 w1 ⟨rfl, hb1⟩
    go_wp2_with (fail)
    refine (HB.out _).mono ?_
    rintro e2 w2 ⟨rfl, hb2⟩
    go_wp2_with (fail)
    rw [h2.out]
    refine (HR.out _).mono ?_
    rintro e3 w3 ⟨rfl, hw3⟩
    subst w3
    go_wp2
    go_ret
    exact ⟨rfl, chain hb1 hb2⟩
set_option maxHeartbeats 2000000 in
theorem divf_zero (b : Int) (hb : 8388608 ≤ b) (hb2 : b < 2139095040) (w : World) :
    Calls Tryz.prog 114 #[.int .u32 0, .int .u32 b] w fun r w' => r = .returned (.int .u32 0) ∧ Below w.heap.size w w' := by
  have HA := hide full_zero
  have HB := hide (full_norm b hb hb2)
  have HS := hide (Rd.signed_any false 0 (by omega) (by omega))
  clear hb hb2
  generalize 8388608 + b % 8388608 = y at *
  generalize b / 8388608 - 150 = f at *
  go_enter Tryz.func114, Tryz.ntmps114
  go_wp2_with (fail)
  refine (HA.out _).mono ?_
  rintro e1 w1 ⟨rfl, hb1⟩
  go_wp2_with (fail)
  refine (HB.out _).mono ?_
  rintro e2 w2 ⟨rfl, hb2⟩
  go_wp2_with (fail)
  refine (HS.out _).mono ?_
  rintro e3 w3 ⟨rfl, hw3⟩
  subst w3
  go_wp2
  go_ret
  exact ⟨rfl, chain hb1 hb2⟩
theorem rnd_nn (m e : Int) : 0 ≤ Rd.rnd false m e := by
  unfold Rd.rnd Rd.sg
  have h : ∀ x : Int, 0 ≤ IntKind.u64.wrap x := fun x => by rw [IntKind.wrap_u64]; omega
  have h1 := h ((Rd.last m e + 149) * 8388608 + Rd.near m (Rd.last m e - e))
  generalize IntKind.u64.wrap ((Rd.last m e + 149) * 8388608 + Rd.near m (Rd.last m e - e)) = v at *
  rw [if_neg (by decide), Int.zero_add]
  split
  · omega
  split
  · omega
  exact Int.le_min.2 ⟨h1, by omega⟩
/-- The model's quotient is the document's. -/
theorem div_dv (a b : Int) (ha : 8388608 ≤ a) (ha2 : a < 2139095040) (hb : 8388608 ≤ b) (hb2 : b < 2139095040) (hd : a / 8388608 - b / 8388608 ≤ 200) :
    ∃ r : Nat, single.div a.toNat b.toNat = some r ∧ (r : Int) = dv a b := by
  obtain ⟨m, rfl⟩ := Int.eq_ofNat_of_zero_le (show 0 ≤ a by omega)
  obtain ⟨n, rfl⟩ := Int.eq_ofNat_of_zero_le (show 0 ≤ b by omega)
  rw [Int.toNat_natCast, Int.toNat_natCast]
  have ra := Fl.read_norm m (by omega) (by omega)
  have rb := Fl.read_norm n (by omega) (by omega)
  refine ⟨_, Fl.div_norm _ _ _ _ _ _ _ _ ra rb (by omega) (by omega) (by omega) (by omega), ?_⟩
  have e := Fl.quo_more false (8388608 + m % 8388608) (8388608 + n % 8388608) 25 38 (((m / 8388608 : Nat) : Int) - 150 - (((n / 8388608 : Nat) : Int) - 150)) (by omega) (by omega) (by omega) (by omega) (by omega) (by omega) (by omega) (by omega) (by omega)
  have e1 : ((m / 8388608 : Nat) : Int) - 150 - (((n / 8388608 : Nat) : Int) - 150) - ((25 : Nat) : Int) - 1 = ((m / 8388608 : Nat) : Int) - 150 - (((n / 8388608 : Nat) : Int) - 150) - 26 := by omega
  rw [e1] at e
  rw [Bool.false_xor, e, Fl.nearest_rnd false _ _ (Nat.lt_trans (quo_b _ _ (by omega) (by omega)) (by decide)) (by omega) (by omega)]
  unfold dv
  have f1 : (8388608 + (m : Int) % 8388608).toNat = 8388608 + m % 8388608 := by omega
  have f2 : (8388608 + (n : Int) % 8388608).toNat = 8388608 + n % 8388608 := by omega
  rw [f1, f2]
  congr 1
  omega
theorem dv_nn (a b : Int) : 0 ≤ dv a b := rnd_nn _ _
end Kt
end Go.Proofs.YtgoigcpdfecfhaaGreatDoor
