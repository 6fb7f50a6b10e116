import Derived.Test.YtbnmjmlcedkoaabGreatDoorTyO
import Derived.Test.YtbnmjmlcedkoaabGreatDoorTyGb
import Derived.Test.YtbnmjmlcedkoaabGreatDoorTyB
import Derived.Test.YtbnmjmlcedkoaabGreatDoorTyC
import Derived.WalkKit
import Derived.Test.YtbnmjmlcedkoaabGreatDoorRows
import Derived.BigQuiet
import Derived.Deep.QuietTactic
import Derived.Laws.Externs
import Derived.Handy
namespace Go.Proofs.YtbnmjmlcedkoaabGreatDoor
namespace Ty
open Go.RowKit
set_option linter.unusedVariables false
def M0 (s : Int) : Int := if s / 8388608 = 0 then s else s % 8388608 + 8388608
def S0 (s : Int) : Nat := if s / 8388608 = 0 then 0 else (s / 8388608 - 1).toNat
/-- The units of a finite float32. -/
def mag (u : Int) : Int := M0 (u % 2147483648) * 2 ^ S0 (u % 2147483648)
def un (u : Int) : Int := if 2147483648 ≤ u then -mag u else mag u
/-- A sum with a float32 added, if it is finite. -/
def pt (A u : Int) : Int := if u % 2147483648 < 2139095040 then A + un u else A
/-- A list of uint32 that lies in memory. -/
def URow (w : World) (a : Option Addr) (len : Nat) (zs : List Int) : Prop :=
  (len ≤ zs.length ∧ len ≤ 9223372036854775807) ∧ (0 < len → ∃ x : Addr, a = some x ∧ x.block < w.heap.size ∧ ∀ i, i < len → w.cell? (x.add i) = some (.int .u32 (zs.getD i 0))) ∧ ∀ i, i < len → 0 ≤ zs.getD i 0 ∧ zs.getD i 0 < 4294967296
theorem URow.on {w w' : World} {a : Option Addr} {len : Nat} {zs : List Int} (h : URow w a len zs) (hb : Below w.heap.size w w') : URow w' a len zs := by
  obtain ⟨h1, h2, h3⟩ := h
  refine ⟨h1, fun h0 => ?_, h3⟩
  obtain ⟨x, rfl, hx, hc⟩ := h2 h0
  exact ⟨x, rfl, Nat.lt_of_lt_of_le hx hb.size, fun i hi => (hb.cell (p := x.add i) (by unfold Addr.add; split <;> exact hx)).trans (hc i hi)⟩
/-- The sum behind k numbers. -/
def pts (A : Int) (zs : List Int) : Nat → Int
  | 0 => A
  | k + 1 => pt (pts A zs k) (zs.getD k 0)
end Ty
end Go.Proofs.YtbnmjmlcedkoaabGreatDoor
namespace Go.Proofs.YtbnmjmlcedkoaabGreatDoor
namespace Cl
open Go.RowKit
theorem andNot_top (u : Int) (h0 : 0 ≤ u) (h1 : u < 4294967296) : bits .andNot .u32 u 2147483648 = u % 2147483648 := by
  rw [u32_andNot u 2147483648 h0 h1 (by omega) (by omega)]
  obtain ⟨n, rfl⟩ := Int.eq_ofNat_of_zero_le h0
  have e : n &&& (2 ^ 31 - 1) = n % 2 ^ 31 := Nat.and_two_pow_sub_one_eq_mod n 31
  have e2 : (4294967295 - (2147483648 : Int).toNat) = 2 ^ 31 - 1 := by decide
  rw [e2, Int.toNat_natCast, e]; simp
theorem and_low (u : Int) (h0 : 0 ≤ u) (h1 : u < 4294967296) : bits .and .u32 u 8388607 = u % 8388608 := by
  rw [u32_and u 8388607 h0 h1 (by omega) (by omega)]
  obtain ⟨n, rfl⟩ := Int.eq_ofNat_of_zero_le h0
  have e : n &&& (2 ^ 23 - 1) = n % 2 ^ 23 := Nat.and_two_pow_sub_one_eq_mod n 23
  have e2 : (8388607 : Int).toNat = 2 ^ 23 - 1 := by decide
  rw [e2, Int.toNat_natCast, e]; simp
theorem or_bit (m : Int) (h0 : 0 ≤ m) (h1 : m < 8388608) : bits .or .u32 m 8388608 = m + 8388608 := by
  have hc : bits .or .u32 m 8388608 = bits .or .u32 8388608 m := by
    rw [u32_or m _ h0 (by omega) (by omega) (by omega), u32_or _ m (by omega) (by omega) h0 (by omega), Nat.or_comm]
  rw [hc, bits_join .u32 32 (by decide) (fun n a b => by rw [IntKind.wrap_u32]; omega) 23 8388608 m (by decide) (by decide) (by decide) h0 (by omega) (by omega)]; omega
/-- The lowest bit that is set. -/
def tz (n : Nat) : Nat → Nat
  | 0 => 0
  | f + 1 => if n % 2 = 0 then tz (n / 2) f + 1 else 0
theorem tz_spec (f n : Nat) (h0 : 0 < n) (h1 : n < 2 ^ f) : tz n f < f ∧ ∃ j, n = 2 ^ tz n f * (2 * j + 1) := by
  induction f generalizing n with
  | zero => omega
  | succ f ih =>
    unfold tz
    split
    · rename_i h
      obtain ⟨h2, j, hj⟩ := ih (n / 2) (by omega) (by rw [Nat.pow_succ] at h1; omega)
      refine ⟨by omega, j, ?_⟩
      rw [Nat.pow_succ, Nat.mul_assoc, Nat.mul_comm 2, ← Nat.mul_assoc, ← hj]; omega
    · exact ⟨by omega, n / 2, by rw [Nat.pow_zero]; omega⟩
theorem and_compl (k a : Nat) (h : a < 2 ^ k) : a &&& (2 ^ k - 1 - a) = 0 := by
  have e : (BitVec.ofNat k a &&& ~~~ BitVec.ofNat k a) = 0#k := by simp
  have e2 := congrArg BitVec.toNat e
  rw [BitVec.toNat_and, BitVec.toNat_not, BitVec.toNat_ofNat, Nat.mod_eq_of_lt h] at e2
  simpa using e2
theorem two_mul_and (a b : Nat) : (2 * a) &&& (2 * b) = 2 * (a &&& b) := by
  apply Nat.eq_of_testBit_eq; intro i
  cases i with
  | zero => simp
  | succ i =>
    rw [Nat.testBit_and]
    simp only [Nat.testBit_succ]
    rw [show 2 * a / 2 = a from by omega, show 2 * b / 2 = b from by omega, show 2 * (a &&& b) / 2 = a &&& b from by omega, Nat.testBit_and]
theorem odd_and (a b : Nat) : (2 * a + 1) &&& (2 * b + 1) = 2 * (a &&& b) + 1 := by
  apply Nat.eq_of_testBit_eq; intro i
  cases i with
  | zero => simp
  | succ i =>
    rw [Nat.testBit_and]
    simp only [Nat.testBit_succ]
    rw [show (2 * a + 1) / 2 = a from by omega, show (2 * b + 1) / 2 = b from by omega, show (2 * (a &&& b) + 1) / 2 = a &&& b from by omega, Nat.testBit_and]
theorem low_bit (t : Nat) : ∀ k j, t < k → 2 ^ t * (2 * j + 1) < 2 ^ k → (2 ^ t * (2 * j + 1)) &&& (2 ^ k - 2 ^ t * (2 * j + 1)) = 2 ^ t := by
  induction t with
  | zero =>
    intro k j hk h
    obtain ⟨k, rfl⟩ : ∃ m, k = m + 1 := ⟨k - 1, by omega⟩
    rw [Nat.pow_zero, Nat.one_mul] at *
    rw [Nat.pow_succ] at *
    rw [show 2 ^ k * 2 - (2 * j + 1) = 2 * (2 ^ k - 1 - j) + 1 from by omega, odd_and, and_compl k j (by omega)]
  | succ t ih =>
    intro k j hk h
    obtain ⟨k, rfl⟩ : ∃ m, k = m + 1 := ⟨k - 1, by omega⟩
    have e1 : 2 ^ (t + 1) * (2 * j + 1) = 2 * (2 ^ t * (2 * j + 1)) := by rw [Nat.pow_succ, Nat.mul_comm (2 ^ t) 2, Nat.mul_assoc]
    have e3 : 2 ^ (k + 1) = 2 * 2 ^ k := by rw [Nat.pow_succ, Nat.mul_comm]
    have e4 : 2 ^ (t + 1) = 2 * 2 ^ t := by rw [Nat.pow_succ, Nat.mul_comm]
    rw [e1, e3] at h
    rw [e1, e3, e4]
    have h5 : 2 ^ t * (2 * j + 1) < 2 ^ k := by omega
    have h6 := ih k j (by omega) h5
    generalize 2 ^ t * (2 * j + 1) = x at *
    rw [show 2 * 2 ^ k - 2 * x = 2 * (2 ^ k - x) from by omega, two_mul_and, h6]
def tzI (u : Int) : Int := (tz u.toNat 32 : Int)
theorem and_neg (u : Int) (h0 : 0 < u) (h1 : u < 4294967296) : bits .and .u32 u (IntKind.u32.wrap (-u)) = 2 ^ tz u.toNat 32 := by
  have e : IntKind.u32.wrap (-u) = 4294967296 - u := by rw [IntKind.wrap_u32]; omega
  rw [e, u32_and u _ (by omega) h1 (by omega) (by omega)]
  obtain ⟨n, rfl⟩ := Int.eq_ofNat_of_zero_le (show 0 ≤ u by omega)
  obtain ⟨h2, j, hj⟩ := tz_spec 32 n (by omega) (by omega)
  have e2 : (4294967296 - (n : Int)).toNat = 2 ^ 32 - n := by omega
  rw [e2, Int.toNat_natCast]
  have h3 := low_bit (tz n 32) 32 j h2 (by rw [← hj]; omega)
  rw [← hj] at h3
  rw [h3]; simp
def tab : List Int := [0, 1, 28, 2, 29, 14, 24, 3, 30, 22, 20, 15, 25, 17, 4, 8, 31, 27, 13, 23, 21, 19, 16, 7, 26, 12, 18, 6, 11, 5, 10, 9]
def idx (t : Nat) : Nat := 2 ^ t * 125613361 % 4294967296 / 134217728
theorem tab_idx : ∀ t : Fin 32, idx t.val < 32 ∧ tab.getD (idx t.val) 0 = (t.val : Int) := by decide +kernel
end Cl
end Go.Proofs.YtbnmjmlcedkoaabGreatDoor
namespace Go.Proofs.YtbnmjmlcedkoaabGreatDoor
namespace Cl
open Go.RowKit
theorem ret_int {k : IntKind} {a b : Int} (h : a = b) : Ending.returned (.int k a) = .returned (.int k b) := by rw [h]
def TabAt (w : World) : Prop := ∀ i, i < 32 → w.cell? ⟨1, i, none⟩ = some (.int .u8 (tab.getD i 0))
theorem tab_at (t : Nat) (h : t < 32) : idx t < 32 ∧ tab.getD (idx t) 0 = (t : Int) := tab_idx ⟨t, h⟩
theorem tz_facts (u : Int) (h0 : 0 < u) (h1 : u < 4294967296) : ∃ t i : Nat, tzI u = (t : Int) ∧ t < 32 ∧ bits .and .u32 u (-u % 4294967296) = 2 ^ t ∧ (2 : Int) ^ t * 125613361 % 4294967296 / 134217728 = (i : Int) ∧ i < 32 ∧ tab.getD i 0 = (t : Int) := by
  have e1 : bits .and .u32 u (-u % 4294967296) = 2 ^ tz u.toNat 32 := by rw [← IntKind.wrap_u32]; exact and_neg u h0 h1
  have hs := (tz_spec 32 u.toNat (by omega) (by omega)).1
  obtain ⟨i1, i2⟩ := tab_at _ hs
  refine ⟨tz u.toNat 32, idx (tz u.toNat 32), rfl, hs, e1, ?_, i1, i2⟩
  generalize tz u.toNat 32 = t
  unfold idx
  simp
theorem tz_any (u : Int) (h0 : 0 < u) (h1 : u < 4294967296) (w : World) (ht : TabAt w) : Calls Tryz.prog 75 #[.int .u32 u] w fun e w' => e = .returned (.int .i64 (tzI u)) ∧ w' = w := by
  have hz : (u == 0) = false := by simp; omega
  obtain ⟨t, i, hv, hs, e1, e2, hi1, hi2⟩ := tz_facts u h0 h1
  have hc := ht i hi1
  rw [hi2] at hc
  have HV : Hid (tzI u = (t : Int)) := hv
  clear hi2 ht hv
  go_enter Tryz.func75, Tryz.ntmps75
  go_wp2
  go_ret
  exact ⟨ret_int HV.out.symm, rfl⟩
theorem tz_unique (k j f : Nat) (h : k < f) : tz (2 ^ k * (2 * j + 1)) f = k := by
  induction k generalizing f with
  | zero =>
    obtain ⟨f, rfl⟩ : ∃ m, f = m + 1 := ⟨f - 1, by omega⟩
    unfold tz; rw [Nat.pow_zero, Nat.one_mul, if_neg (by omega)]
  | succ k ih =>
    obtain ⟨f, rfl⟩ : ∃ m, f = m + 1 := ⟨f - 1, by omega⟩
    have e1 : 2 ^ (k + 1) * (2 * j + 1) = 2 * (2 ^ k * (2 * j + 1)) := by rw [Nat.pow_succ, Nat.mul_comm (2 ^ k) 2, Nat.mul_assoc]
    unfold tz
    rw [e1, if_pos (by omega), show 2 * (2 ^ k * (2 * j + 1)) / 2 = 2 ^ k * (2 * j + 1) from by omega, ih f (by omega)]
def M0 (s : Int) : Int := if s / 8388608 = 0 then s else s % 8388608 + 8388608
def E0 (s : Int) : Int := if s / 8388608 = 0 then -149 else s / 8388608 - 150
theorem M0_b (s : Int) (h0 : 0 < s) (h1 : s < 2147483648) : 0 < M0 s ∧ M0 s < 16777216 := by unfold M0; split <;> omega
theorem E0_b (s : Int) (h0 : 0 ≤ s) (h1 : s < 2147483648) : -149 ≤ E0 s ∧ E0 s < 200 := by unfold E0; split <;> omega
def pn (u : Int) : Bool := if 2139095040 ≤ u % 2147483648 then false else decide (2147483648 ≤ u)
def pm (u : Int) : Int := if 2139095040 ≤ u % 2147483648 ∨ u % 2147483648 = 0 then 0 else M0 (u % 2147483648) / 2 ^ tz (M0 (u % 2147483648)).toNat 32
def pe (u : Int) : Int := if 2139095040 ≤ u % 2147483648 ∨ u % 2147483648 = 0 then 0 else E0 (u % 2147483648) + tzI (M0 (u % 2147483648))
def pr (u : Int) : Int := if 2139095040 ≤ u % 2147483648 then 16 else 0
theorem p_inf (u : Int) (h : 2139095040 ≤ u % 2147483648) : pn u = false ∧ pm u = 0 ∧ pe u = 0 ∧ pr u = 16 := by
  unfold pn pm pe pr; rw [if_pos h, if_pos (Or.inl h), if_pos (Or.inl h), if_pos h]; exact ⟨rfl, rfl, rfl, rfl⟩
theorem p_zero (u : Int) (h : u % 2147483648 = 0) : pn u = decide (2147483648 ≤ u) ∧ pm u = 0 ∧ pe u = 0 ∧ pr u = 0 := by
  unfold pn pm pe pr; rw [if_neg (by omega), if_pos (Or.inr h), if_pos (Or.inr h), if_neg (by omega)]; exact ⟨rfl, rfl, rfl, rfl⟩
theorem p_fin (u : Int) (h : u % 2147483648 < 2139095040) (hz : ¬ u % 2147483648 = 0) : pn u = decide (2147483648 ≤ u) ∧ pm u = M0 (u % 2147483648) / 2 ^ tz (M0 (u % 2147483648)).toNat 32 ∧ pe u = E0 (u % 2147483648) + tzI (M0 (u % 2147483648)) ∧ pr u = 0 := by
  have n : ¬ (2139095040 ≤ u % 2147483648 ∨ u % 2147483648 = 0) := by omega
  unfold pn pm pe pr; rw [if_neg (by omega), if_neg n, if_neg n, if_neg (by omega)]; exact ⟨rfl, rfl, rfl, rfl⟩
theorem ret_four {a b : Bool} {k1 k2 k3 : IntKind} {c d e f g h : Int} (h1 : a = b) (h2 : c = d) (h3 : e = f) (h4 : g = h) :
    Ending.returned (.tuple #[.bool a, .int k1 c, .int k2 e, .int k3 g]) = .returned (.tuple #[.bool b, .int k1 d, .int k2 f, .int k3 h]) := by rw [h1, h2, h3, h4]
def Four (w : World) (u : Int) (e : Ending) (w' : World) : Prop := e = .returned (.tuple #[.bool (pn u), .int .u32 (pm u), .int .i64 (pe u), .int .i64 (pr u)]) ∧ ∃ n, w' = w.drewN n
set_option maxHeartbeats 600000 in
theorem parts_any (u : Int) (h0 : 0 ≤ u) (h1 : u < 4294967296) (w : World) (ht : TabAt w) : Calls Tryz.prog 44 #[.int .u32 u] w (Four w u) := by
  have e := andNot_top u h0 h1
  have s0 : 0 ≤ u % 2147483648 := by omega
  have s1 : u % 2147483648 < 2147483648 := by omega
  by_cases hi : 2139095040 ≤ u % 2147483648
  · have H : Hid (pn u = false ∧ pm u = 0 ∧ pe u = 0 ∧ pr u = 16) := p_inf u hi
    generalize u % 2147483648 = s at *
    go_enter Tryz.func44, Tryz.ntmps44
    go_wp2
    go_returns
    exact ⟨ret_four H.out.1.symm H.out.2.1.symm H.out.2.2.1.symm H.out.2.2.2.symm, 0, rfl⟩
  have hi' : u % 2147483648 < 2139095040 := by omega
  by_cases hz : u % 2147483648 = 0
  · have H : Hid (pn u = decide (2147483648 ≤ u) ∧ pm u = 0 ∧ pe u = 0 ∧ pr u = 0) := p_zero u hz
    have hzb : (u % 2147483648 == 0) = true := by simpa using hz
    clear hz
    generalize u % 2147483648 = s at *
    go_enter Tryz.func44, Tryz.ntmps44
    go_wp2
    go_returns
    exact ⟨ret_four H.out.1.symm H.out.2.1.symm H.out.2.2.1.symm H.out.2.2.2.symm, 0, rfl⟩
  have H : Hid (pn u = decide (2147483648 ≤ u) ∧ pm u = M0 (u % 2147483648) / 2 ^ tz (M0 (u % 2147483648)).toNat 32 ∧ pe u = E0 (u % 2147483648) + tzI (M0 (u % 2147483648)) ∧ pr u = 0) := p_fin u hi' hz
  have hzb : (u % 2147483648 == 0) = false := by simpa using hz
  generalize u % 2147483648 = s at *
  have e2 := and_low s s0 (by omega)
  have mb := M0_b s (by omega) (by omega)
  have eb := E0_b s s0 s1
  have tzb : 0 ≤ tzI (M0 s) ∧ tzI (M0 s) < 32 := by unfold tzI; have := (tz_spec 32 (M0 s).toNat (by omega) (by omega)).1; omega
  have HT : Hid ((tz (M0 s).toNat 32 : Int) = tzI (M0 s)) := rfl
  by_cases hx : s / 8388608 = 0
  · have hM : M0 s = s := by unfold M0; rw [if_pos hx]
    have hE : E0 s = -149 := by unfold E0; rw [if_pos hx]
    have e3 : s % 8388608 = s := by omega
    rw [hM] at mb tzb H HT
    rw [hE] at H
    have hx' : s / 8388608 ≤ 0 := by omega
    have hzs : ¬ s = 0 := hz
    clear hM hE eb hz
    go_enter Tryz.func44, Tryz.ntmps44
    go_wp2_with fail
    refine (tz_any s (by omega) (by omega) _ ht).mono ?_
    rintro e9 w9 ⟨rfl, hw9⟩
    subst w9
    go_wp2
    go_quiet (fail)
    go_wp2
    go_returns
    exact ⟨ret_four H.out.1.symm (H.out.2.1.trans (by rw [show tz (s).toNat 32 = (tzI (s)).toNat from by unfold tzI; omega])).symm H.out.2.2.1.symm H.out.2.2.2.symm, _, rfl⟩
  · have hM : M0 s = s % 8388608 + 8388608 := by unfold M0; rw [if_neg hx]
    have hE : E0 s = s / 8388608 - 150 := by unfold E0; rw [if_neg hx]
    have e4 := or_bit (s % 8388608) (by omega) (by omega)
    have hE2 : E0 s = -149 + (s / 8388608 - 1) := by omega
    have HM : Hid (s % 8388608 + 8388608 = M0 s) := hM.symm
    have HE : Hid (E0 s = -149 + (s / 8388608 - 1)) := hE2
    have hx1 : 0 < s / 8388608 := by omega
    have hx2 : s / 8388608 < 256 := by omega
    have m0 : 0 ≤ s % 8388608 := by omega
    have m1 : s % 8388608 < 8388608 := by omega
    clear hM hE hE2 hx hz
    go_enter Tryz.func44, Tryz.ntmps44
    go_wp2_with fail
    rw [HM.out]
    refine (tz_any (M0 s) (by omega) (by omega) _ ht).mono ?_
    rintro e9 w9 ⟨rfl, hw9⟩
    subst w9
    go_wp2
    go_quiet (fail)
    go_wp2
    go_returns
    exact ⟨ret_four H.out.1.symm (H.out.2.1.trans (by rw [show tz (M0 s).toNat 32 = (tzI (M0 s)).toNat from by unfold tzI; omega])).symm (H.out.2.2.1.trans (by rw [HE.out])).symm H.out.2.2.2.symm, _, rfl⟩
end Cl
end Go.Proofs.YtbnmjmlcedkoaabGreatDoor
