import Derived.Test.YtbbpnlflihhflaaDoorClA
import Derived.Handy
namespace Go.Proofs.YtbbpnlflihhflaaDoor
namespace Cl
open Go.RowKit
theorem tz_unique (k j f : Nat) (h : k < f) : tz (2 ^ k * (2 * j + 1)) f = k := by
  induction k generalizing f with
  | zero =>
    obtain ⟨f, rfl⟩ : ∃ m, f = m + 1 := ⟨f - 1, by omega⟩
    unfold tz; rw [Nat.pow_zero, Nat.one_mul, if_neg (by omega)]
  | succ k ih =>
    obtain ⟨f, rfl⟩ : ∃ m, f = m + 1 := ⟨f - 1, by omega⟩
    have e1 : 2 ^ (k + 1) * (2 * j + 1) = 2 * (2 ^ k * (2 * j + 1)) := by rw [Nat.pow_succ, Nat.mul_comm (2 ^ k) 2, Nat.mul_assoc]
    unfold tz
    rw [e1, if_pos (by omega), show 2 * (2 ^ k * (2 * j + 1)) / 2 = 2 ^ k * (2 * j + 1) from by omega, ih f (by omega)]
def M0 (s : Int) : Int := if s / 8388608 = 0 then s else s % 8388608 + 8388608
def E0 (s : Int) : Int := if s / 8388608 = 0 then -149 else s / 8388608 - 150
theorem M0_b (s : Int) (h0 : 0 < s) (h1 : s < 2147483648) : 0 < M0 s ∧ M0 s < 16777216 := by unfold M0; split <;> omega
theorem E0_b (s : Int) (h0 : 0 ≤ s) (h1 : s < 2147483648) : -149 ≤ E0 s ∧ E0 s < 200 := by unfold E0; split <;> omega
def pn (u : Int) : Bool := if 2139095040 ≤ u % 2147483648 then false else decide (2147483648 ≤ u)
def pm (u : Int) : Int := if 2139095040 ≤ u % 2147483648 ∨ u % 2147483648 = 0 then 0 else M0 (u % 2147483648) / 2 ^ tz (M0 (u % 2147483648)).toNat 32
def pe (u : Int) : Int := if 2139095040 ≤ u % 2147483648 ∨ u % 2147483648 = 0 then 0 else E0 (u % 2147483648) + tzI (M0 (u % 2147483648))
def pr (u : Int) : Int := if 2139095040 ≤ u % 2147483648 then 16 else 0
theorem p_inf (u : Int) (h : 2139095040 ≤ u % 2147483648) : pn u = false ∧ pm u = 0 ∧ pe u = 0 ∧ pr u = 16 := by
  unfold pn pm pe pr; rw [if_pos h, if_pos (Or.inl h), if_pos (Or.inl h), if_pos h]; exact ⟨rfl, rfl, rfl, rfl⟩
theorem p_zero (u : Int) (h : u % 2147483648 = 0) : pn u = decide (2147483648 ≤ u) ∧ pm u = 0 ∧ pe u = 0 ∧ pr u = 0 := by
  unfold pn pm pe pr; rw [if_neg (by omega), if_pos (Or.inr h), if_pos (Or.inr h), if_neg (by omega)]; exact ⟨rfl, rfl, rfl, rfl⟩
theorem p_fin (u : Int) (h : u % 2147483648 < 2139095040) (hz : ¬ u % 2147483648 = 0) : pn u = decide (2147483648 ≤ u) ∧ pm u = M0 (u % 2147483648) / 2 ^ tz (M0 (u % 2147483648)).toNat 32 ∧ pe u = E0 (u % 2147483648) + tzI (M0 (u % 2147483648)) ∧ pr u = 0 := by
  have n : ¬ (2139095040 ≤ u % 2147483648 ∨ u % 2147483648 = 0) := by omega
  unfold pn pm pe pr; rw [if_neg (by omega), if_neg n, if_neg n, if_neg (by omega)]; exact ⟨rfl, rfl, rfl, rfl⟩
theorem ret_four {a b : Bool} {k1 k2 k3 : IntKind} {c d e f g h : Int} (h1 : a = b) (h2 : c = d) (h3 : e = f) (h4 : g = h) :
    Ending.returned (.tuple #[.bool a, .int k1 c, .int k2 e, .int k3 g]) = .returned (.tuple #[.bool b, .int k1 d, .int k2 f, .int k3 h]) := by rw [h1, h2, h3, h4]
def Four (w : World) (u : Int) (e : Ending) (w' : World) : Prop := e = .returned (.tuple #[.bool (pn u), .int .u32 (pm u), .int .i64 (pe u), .int .i64 (pr u)]) ∧ ∃ n, w' = w.drewN n
set_option maxHeartbeats 600000 in
theorem parts_any (u : Int) (h0 : 0 ≤ u) (h1 : u < 4294967296) (w : World) (ht : TabAt w) : Calls Tryd.prog 13 #[.int .u32 u] w (Four w u) := by
  have e := andNot_top u h0 h1
  have s0 : 0 ≤ u % 2147483648 := by omega
  have s1 : u % 2147483648 < 2147483648 := by omega
  by_cases hi : 2139095040 ≤ u % 2147483648
  · have H : Hid (pn u = false ∧ pm u = 0 ∧ pe u = 0 ∧ pr u = 16) := p_inf u hi
    generalize u % 2147483648 = s at *
    go_enter Tryd.func13, Tryd.ntmps13
    go_wp2
    go_returns
    exact ⟨ret_four H.out.1.symm H.out.2.1.symm H.out.2.2.1.symm H.out.2.2.2.symm, 0, rfl⟩
  have hi' : u % 2147483648 < 2139095040 := by omega
  by_cases hz : u % 2147483648 = 0
  · have H : Hid (pn u = decide (2147483648 ≤ u) ∧ pm u = 0 ∧ pe u = 0 ∧ pr u = 0) := p_zero u hz
    have hzb : (u % 2147483648 == 0) = true := by simpa using hz
    clear hz
    generalize u % 2147483648 = s at *
    go_enter Tryd.func13, Tryd.ntmps13
    go_wp2
    go_returns
    exact ⟨ret_four H.out.1.symm H.out.2.1.symm H.out.2.2.1.symm H.out.2.2.2.symm, 0, rfl⟩
  have H : Hid (pn u = decide (2147483648 ≤ u) ∧ pm u = M0 (u % 2147483648) / 2 ^ tz (M0 (u % 2147483648)).toNat 32 ∧ pe u = E0 (u % 2147483648) + tzI (M0 (u % 2147483648)) ∧ pr u = 0) := p_fin u hi' hz
  have hzb : (u % 2147483648 == 0) = false := by simpa using hz
  generalize u % 2147483648 = s at *
  have e2 := and_low s s0 (by omega)
  have mb := M0_b s (by omega) (by omega)
  have eb := E0_b s s0 s1
  have tzb : 0 ≤ tzI (M0 s) ∧ tzI (M0 s) < 32 := by unfold tzI; have := (tz_spec 32 (M0 s).toNat (by omega) (by omega)).1; omega
  have HT : Hid ((tz (M0 s).toNat 32 : Int) = tzI (M0 s)) := rfl
  by_cases hx : s / 8388608 = 0
  · have hM : M0 s = s := by unfold M0; rw [if_pos hx]
    have hE : E0 s = -149 := by unfold E0; rw [if_pos hx]
    have e3 : s % 8388608 = s := by omega
    rw [hM] at mb tzb H HT
    rw [hE] at H
    have hx' : s / 8388608 ≤ 0 := by omega
    have hzs : ¬ s = 0 := hz
    clear hM hE eb hz
    go_enter Tryd.func13, Tryd.ntmps13
    go_wp2_with fail
    refine (tz_any s (by omega) (by omega) _ ht).mono ?_
    rintro e9 w9 ⟨rfl, hw9⟩
    subst w9
    go_wp2
    go_quiet (fail)
    go_wp2
    go_returns
    exact ⟨ret_four H.out.1.symm (H.out.2.1.trans (by rw [show tz (s).toNat 32 = (tzI (s)).toNat from by unfold tzI; omega])).symm H.out.2.2.1.symm H.out.2.2.2.symm, _, rfl⟩
  · have hM : M0 s = s % 8388608 + 8388608 := by unfold M0; rw [if_neg hx]
    have hE : E0 s = s / 8388608 - 150 := by unfold E0; rw [if_neg hx]
    have e4 := or_bit (s % 8388608) (by omega) (by omega)
    have hE2 : E0 s = -149 + (s / 8388608 - 1) := by omega
    have HM : Hid (s % 8388608 + 8388608 = M0 s) := hM.symm
    have HE : Hid (E0 s = -149 + (s / 8388608 - 1)) := hE2
    have hx1 : 0 < s / 8388608 := by omega
    have hx2 : s / 8388608 < 256 := by omega
    have m0 : 0 ≤ s % 8388608 := by omega
    have m1 : s % 8388608 < 8388608 := by omega
    clear hM hE hE2 hx hz
    go_enter Tryd.func13, Tryd.ntmps13
    go_wp2_with fail
    rw [HM.out]
    refine (tz_any (M0 s) (by omega) (by omega) _ ht).mono ?_
    rintro e9 w9 ⟨rfl, hw9⟩
    subst w9
    go_wp2
    go_quiet (fail)
    go_wp2
    go_returns
    exact ⟨ret_four H.out.1.symm (H.out.2.1.trans (by rw [show tz (M0 s).toNat 32 = (tzI (M0 s)).toNat from by unfold tzI; omega])).symm (H.out.2.2.1.trans (by rw [HE.out])).symm H.out.2.2.2.symm, _, rfl⟩
end Cl
end Go.Proofs.YtbbpnlflihhflaaDoor
