import Derived.Test.YtgoigcpdfecfhaaGreatDoorRows
import Derived.Test.YtgoigcpdfecfhaaGreatDoorClMath
import Derived.WalkKit
import Derived.BigQuiet
import Derived.Deep.QuietTactic
import Derived.Laws.Externs
import Derived.Handy
namespace Go.Proofs.YtgoigcpdfecfhaaGreatDoor
namespace Cl
open Go.RowKit
theorem ret_int {k : IntKind} {a b : Int} (h : a = b) : Ending.returned (.int k a) = .returned (.int k b) := by rw [h]
def cls (u : Int) : Int := if u % 2147483648 = 0 then 0 else if u % 2147483648 ≤ 8388607 then 1 else if u % 2147483648 < 2139095040 then 2 else if u % 2147483648 = 2139095040 then 3 else 4
theorem class_any (u : Int) (h0 : 0 ≤ u) (h1 : u < 4294967296) (w : World) : Calls Tryz.prog 235 #[.int .u32 u] w fun e w' => e = .returned (.int .i64 (cls u)) ∧ w' = w := by
  have e := andNot_top u h0 h1
  have s0 : 0 ≤ u % 2147483648 := by omega
  have s1 : u % 2147483648 < 2147483648 := by omega
  have HC : Hid (cls u = if u % 2147483648 = 0 then 0 else if u % 2147483648 ≤ 8388607 then 1 else if u % 2147483648 < 2139095040 then 2 else if u % 2147483648 = 2139095040 then 3 else 4) := rfl
  generalize u % 2147483648 = s at *
  go_enter Tryz.func235, Tryz.ntmps235
  go_wp2
  all_goals
    go_ret
    refine ⟨ret_int ?_, rfl⟩
    rw [HC.out]
    try simp only [beq_iff_eq, beq_eq_false_iff_ne, ne_eq] at *
    first
      | rw [if_pos (by omega)]
      | rw [if_neg (by omega), if_pos (by omega)]
      | rw [if_neg (by omega), if_neg (by omega), if_pos (by omega)]
      | rw [if_neg (by omega), if_neg (by omega), if_neg (by omega), if_pos (by omega)]
      | rw [if_neg (by omega), if_neg (by omega), if_neg (by omega), if_neg (by omega)]
theorem rclass_any (u : Int) (h0 : 0 ≤ u) (h1 : u < 4294967296) (w : World) : Calls Tryz.prog 259 #[.int .u32 u] w fun e w' => e = .returned (.int .i64 (cls u)) ∧ w' = w := by
  have s0 : 0 ≤ u / 8388608 % 256 := by omega
  have s1 : u / 8388608 % 256 < 256 := by omega
  have s2 : 0 ≤ u % 8388608 := by omega
  have s3 : u % 8388608 < 8388608 := by omega
  have HE : Hid (u % 2147483648 = u / 8388608 % 256 * 8388608 + u % 8388608) := by show _ = _; omega
  have HC : Hid (cls u = if u % 2147483648 = 0 then 0 else if u % 2147483648 ≤ 8388607 then 1 else if u % 2147483648 < 2139095040 then 2 else if u % 2147483648 = 2139095040 then 3 else 4) := rfl
  go_enter Tryz.func259, Tryz.ntmps259
  go_wp2
  all_goals
    go_ret
    refine ⟨ret_int ?_, rfl⟩
    rw [HC.out, HE.out]
    try simp only [beq_eq_false_iff_ne, ne_eq, bne_iff_ne, bne_eq_false_iff_eq] at *
    generalize u / 8388608 % 256 = e at *
    generalize u % 8388608 = f at *
    first
      | rw [if_pos (by omega)]
      | rw [if_neg (by omega), if_pos (by omega)]
      | rw [if_neg (by omega), if_neg (by omega), if_pos (by omega)]
      | rw [if_neg (by omega), if_neg (by omega), if_neg (by omega), if_pos (by omega)]
      | rw [if_neg (by omega), if_neg (by omega), if_neg (by omega), if_neg (by omega)]
theorem ret_two {k1 k2 : IntKind} {a b c d : Int} (h : a = c) (h2 : b = d) : Ending.returned (.tuple #[.int k1 a, .int k2 b]) = .returned (.tuple #[.int k1 c, .int k2 d]) := by rw [h, h2]
def TabAt (w : World) : Prop := ∀ i, i < 32 → w.cell? ⟨3, i, none⟩ = some (.int .u8 (tab.getD i 0))
theorem tab_at (t : Nat) (h : t < 32) : idx t < 32 ∧ tab.getD (idx t) 0 = (t : Int) := tab_idx ⟨t, h⟩
theorem tz_facts (u : Int) (h0 : 0 < u) (h1 : u < 4294967296) : ∃ t i : Nat, tzI u = (t : Int) ∧ t < 32 ∧ bits .and .u32 u (-u % 4294967296) = 2 ^ t ∧ (2 : Int) ^ t * 125613361 % 4294967296 / 134217728 = (i : Int) ∧ i < 32 ∧ tab.getD i 0 = (t : Int) := by
  have e1 : bits .and .u32 u (-u % 4294967296) = 2 ^ tz u.toNat 32 := by rw [← IntKind.wrap_u32]; exact and_neg u h0 h1
  have hs := (tz_spec 32 u.toNat (by omega) (by omega)).1
  obtain ⟨i1, i2⟩ := tab_at _ hs
  refine ⟨tz u.toNat 32, idx (tz u.toNat 32), rfl, hs, e1, ?_, i1, i2⟩
  generalize tz u.toNat 32 = t
  unfold idx
  simp
theorem tz_any (u : Int) (h0 : 0 < u) (h1 : u < 4294967296) (w : World) (ht : TabAt w) : Calls Tryz.prog 256 #[.int .u32 u] w fun e w' => e = .returned (.int .i64 (tzI u)) ∧ w' = w := by
  have hz : (u == 0) = false := by simp; omega
  obtain ⟨t, i, hv, hs, e1, e2, hi1, hi2⟩ := tz_facts u h0 h1
  have hc := ht i hi1
  rw [hi2] at hc
  have HV : Hid (tzI u = (t : Int)) := hv
  clear hi2 ht hv
  go_enter Tryz.func256, Tryz.ntmps256
  go_wp2
  go_ret
  exact ⟨ret_int HV.out.symm, rfl⟩
end Cl
end Go.Proofs.YtgoigcpdfecfhaaGreatDoor
namespace Go.Proofs.YtgoigcpdfecfhaaGreatDoor
namespace Cl
open Go.RowKit
theorem tz_unique (k j f : Nat) (h : k < f) : tz (2 ^ k * (2 * j + 1)) f = k := by
  induction k generalizing f with
  | zero =>
    obtain ⟨f, rfl⟩ : ∃ m, f = m + 1 := ⟨f - 1, by omega⟩
    unfold tz; rw [Nat.pow_zero, Nat.one_mul, if_neg (by omega)]
  | succ k ih =>
    obtain ⟨f, rfl⟩ : ∃ m, f = m + 1 := ⟨f - 1, by omega⟩
    have e1 : 2 ^ (k + 1) * (2 * j + 1) = 2 * (2 ^ k * (2 * j + 1)) := by rw [Nat.pow_succ, Nat.mul_comm (2 ^ k) 2, Nat.mul_assoc]
    unfold tz
    rw [e1, if_pos (by omega), show 2 * (2 ^ k * (2 * j + 1)) / 2 = 2 ^ k * (2 * j + 1) from by omega, ih f (by omega)]
def M0 (s : Int) : Int := if s / 8388608 = 0 then s else s % 8388608 + 8388608
def E0 (s : Int) : Int := if s / 8388608 = 0 then -149 else s / 8388608 - 150
theorem M0_b (s : Int) (h0 : 0 < s) (h1 : s < 2147483648) : 0 < M0 s ∧ M0 s < 16777216 := by unfold M0; split <;> omega
theorem E0_b (s : Int) (h0 : 0 ≤ s) (h1 : s < 2147483648) : -149 ≤ E0 s ∧ E0 s < 200 := by unfold E0; split <;> omega
def pn (u : Int) : Bool := if 2139095040 ≤ u % 2147483648 then false else decide (2147483648 ≤ u)
def pm (u : Int) : Int := if 2139095040 ≤ u % 2147483648 ∨ u % 2147483648 = 0 then 0 else M0 (u % 2147483648) / 2 ^ tz (M0 (u % 2147483648)).toNat 32
def pe (u : Int) : Int := if 2139095040 ≤ u % 2147483648 ∨ u % 2147483648 = 0 then 0 else E0 (u % 2147483648) + tzI (M0 (u % 2147483648))
def pr (u : Int) : Int := if 2139095040 ≤ u % 2147483648 then 16 else 0
theorem p_inf (u : Int) (h : 2139095040 ≤ u % 2147483648) : pn u = false ∧ pm u = 0 ∧ pe u = 0 ∧ pr u = 16 := by
  unfold pn pm pe pr; rw [if_pos h, if_pos (Or.inl h), if_pos (Or.inl h), if_pos h]; exact ⟨rfl, rfl, rfl, rfl⟩
theorem p_zero (u : Int) (h : u % 2147483648 = 0) : pn u = decide (2147483648 ≤ u) ∧ pm u = 0 ∧ pe u = 0 ∧ pr u = 0 := by
  unfold pn pm pe pr; rw [if_neg (by omega), if_pos (Or.inr h), if_pos (Or.inr h), if_neg (by omega)]; exact ⟨rfl, rfl, rfl, rfl⟩
theorem p_fin (u : Int) (h : u % 2147483648 < 2139095040) (hz : ¬ u % 2147483648 = 0) : pn u = decide (2147483648 ≤ u) ∧ pm u = M0 (u % 2147483648) / 2 ^ tz (M0 (u % 2147483648)).toNat 32 ∧ pe u = E0 (u % 2147483648) + tzI (M0 (u % 2147483648)) ∧ pr u = 0 := by
  have n : ¬ (2139095040 ≤ u % 2147483648 ∨ u % 2147483648 = 0) := by omega
  unfold pn pm pe pr; rw [if_neg (by omega), if_neg n, if_neg n, if_neg (by omega)]; exact ⟨rfl, rfl, rfl, rfl⟩
theorem ret_four {a b : Bool} {k1 k2 k3 : IntKind} {c d e f g h : Int} (h1 : a = b) (h2 : c = d) (h3 : e = f) (h4 : g = h) :
    Ending.returned (.tuple #[.bool a, .int k1 c, .int k2 e, .int k3 g]) = .returned (.tuple #[.bool b, .int k1 d, .int k2 f, .int k3 h]) := by rw [h1, h2, h3, h4]
def Four (w : World) (u : Int) (e : Ending) (w' : World) : Prop := e = .returned (.tuple #[.bool (pn u), .int .u32 (pm u), .int .i64 (pe u), .int .i64 (pr u)]) ∧ ∃ n, w' = w.drewN n
set_option maxHeartbeats 600000 in
theorem parts_any (u : Int) (h0 : 0 ≤ u) (h1 : u < 4294967296) (w : World) (ht : TabAt w) : Calls Tryz.prog 237 #[.int .u32 u] w (Four w u) := by
  have e := andNot_top u h0 h1
  have s0 : 0 ≤ u % 2147483648 := by omega
  have s1 : u % 2147483648 < 2147483648 := by omega
  by_cases hi : 2139095040 ≤ u % 2147483648
  · have H : Hid (pn u = false ∧ pm u = 0 ∧ pe u = 0 ∧ pr u = 16) := p_inf u hi
    generalize u % 2147483648 = s at *
    go_enter Tryz.func237, Tryz.ntmps237
    go_wp2
    go_returns
    exact ⟨ret_four H.out.1.symm H.out.2.1.symm H.out.2.2.1.symm H.out.2.2.2.symm, 0, rfl⟩
  have hi' : u % 2147483648 < 2139095040 := by omega
  by_cases hz : u % 2147483648 = 0
  · have H : Hid (pn u = decide (2147483648 ≤ u) ∧ pm u = 0 ∧ pe u = 0 ∧ pr u = 0) := p_zero u hz
    have hzb : (u % 2147483648 == 0) = true := by simpa using hz
    clear hz
    generalize u % 2147483648 = s at *
    go_enter Tryz.func237, Tryz.ntmps237
    go_wp2
    go_returns
    exact ⟨ret_four H.out.1.symm H.out.2.1.symm H.out.2.2.1.symm H.out.2.2.2.symm, 0, rfl⟩
  have H : Hid (pn u = decide (2147483648 ≤ u) ∧ pm u = M0 (u % 2147483648) / 2 ^ tz (M0 (u % 2147483648)).toNat 32 ∧ pe u = E0 (u % 2147483648) + tzI (M0 (u % 2147483648)) ∧ pr u = 0) := p_fin u hi' hz
  have hzb : (u % 2147483648 == 0) = false := by simpa using hz
  generalize u % 2147483648 = s at *
  have e2 := and_low s s0 (by omega)
  have mb := M0_b s (by omega) (by omega)
  have eb := E0_b s s0 s1
  have tzb : 0 ≤ tzI (M0 s) ∧ tzI (M0 s) < 32 := by unfold tzI; have := (tz_spec 32 (M0 s).toNat (by omega) (by omega)).1; omega
  have HT : Hid ((tz (M0 s).toNat 32 : Int) = tzI (M0 s)) := rfl
  by_cases hx : s / 8388608 = 0
  · have hM : M0 s = s := by unfold M0; rw [if_pos hx]
    have hE : E0 s = -149 := by unfold E0; rw [if_pos hx]
    have e3 : s % 8388608 = s := by omega
    rw [hM] at mb tzb H HT
    rw [hE] at H
    have hx' : s / 8388608 ≤ 0 := by omega
    have hzs : ¬ s = 0 := hz
    clear hM hE eb hz
    go_enter Tryz.func237, Tryz.ntmps237
    go_wp2_with fail
    refine (tz_any s (by omega) (by omega) _ ht).mono ?_
    rintro e9 w9 ⟨rfl, hw9⟩
    subst w9
    go_wp2
    go_quiet (fail)
    go_wp2
    go_returns
    exact ⟨ret_four H.out.1.symm (H.out.2.1.trans (by rw [show tz (s).toNat 32 = (tzI (s)).toNat from by unfold tzI; omega])).symm H.out.2.2.1.symm H.out.2.2.2.symm, _, rfl⟩
  · have hM : M0 s = s % 8388608 + 8388608 := by unfold M0; rw [if_neg hx]
    have hE : E0 s = s / 8388608 - 150 := by unfold E0; rw [if_neg hx]
    have e4 := or_bit (s % 8388608) (by omega) (by omega)
    have hE2 : E0 s = -149 + (s / 8388608 - 1) := by omega
    have HM : Hid (s % 8388608 + 8388608 = M0 s) := hM.symm
    have HE : Hid (E0 s = -149 + (s / 8388608 - 1)) := hE2
    have hx1 : 0 < s / 8388608 := by omega
    have hx2 : s / 8388608 < 256 := by omega
    have m0 : 0 ≤ s % 8388608 := by omega
    have m1 : s % 8388608 < 8388608 := by omega
    clear hM hE hE2 hx hz
    go_enter Tryz.func237, Tryz.ntmps237
    go_wp2_with fail
    rw [HM.out]
    refine (tz_any (M0 s) (by omega) (by omega) _ ht).mono ?_
    rintro e9 w9 ⟨rfl, hw9⟩
    subst w9
    go_wp2
    go_quiet (fail)
    go_wp2
    go_returns
    exact ⟨ret_four H.out.1.symm (H.out.2.1.trans (by rw [show tz (M0 s).toNat 32 = (tzI (M0 s)).toNat from by unfold tzI; omega])).symm (H.out.2.2.1.trans (by rw [HE.out])).symm H.out.2.2.2.symm, _, rfl⟩
end Cl
end Go.Proofs.YtgoigcpdfecfhaaGreatDoor
namespace Go.Proofs.YtgoigcpdfecfhaaGreatDoor
namespace Cl
open Go.RowKit
theorem size_any (s : Int) (h0 : 0 ≤ s) (h1 : s < 2147483648) (w : World) : Calls Tryz.prog 260 #[.int .u32 s] w fun e w' => e = .returned (.tuple #[.int .u64 (M0 s), .int .i64 (E0 s)]) ∧ w' = w := by
  have x0 : 0 ≤ s / 8388608 := by omega
  have x1 : s / 8388608 < 256 := by omega
  have m0 : 0 ≤ s % 8388608 := by omega
  have m1 : s % 8388608 < 8388608 := by omega
  by_cases hx : s / 8388608 = 0
  · have HM : Hid (M0 s = s % 8388608) := by show _ = _; unfold M0; rw [if_pos hx]; omega
    have HE : Hid (E0 s = -149) := by show _ = _; unfold E0; rw [if_pos hx]
    go_enter Tryz.func260, Tryz.ntmps260
    go_wp2
    go_ret2
    exact ⟨ret_two HM.out.symm HE.out.symm, rfl⟩
  · have HM : Hid (M0 s = s % 8388608 + 8388608) := by show _ = _; unfold M0; rw [if_neg hx]
    have HE : Hid (E0 s = s / 8388608 - 150) := by show _ = _; unfold E0; rw [if_neg hx]
    have hx' : (s / 8388608 == 0) = false := by simpa using hx
    go_enter Tryz.func260, Tryz.ntmps260
    go_wp2
    go_ret2
    exact ⟨ret_two HM.out.symm HE.out.symm, rfl⟩
theorem odd_tz (n k y : Nat) (h : n = 2 ^ k * y) (hy : y % 2 = 1) (hn : n < 2 ^ 32) : tz n 32 = k ∧ n / 2 ^ k = y := by
  have h2 : y = 2 * (y / 2) + 1 := by omega
  have hk : k < 32 := by
    apply Nat.lt_of_not_le; intro hc
    have a1 : 2 ^ 32 ≤ 2 ^ k := Nat.pow_le_pow_right (by omega) hc
    have a2 : 2 ^ k * 1 ≤ 2 ^ k * y := Nat.mul_le_mul_left _ (by omega)
    omega
  refine ⟨?_, ?_⟩
  · rw [h, h2]; exact tz_unique k (y / 2) 32 hk
  · rw [h, Nat.mul_div_cancel_left _ (Nat.two_pow_pos k)]
theorem cls_inf (u : Int) (h : 2139095040 ≤ u % 2147483648) : cls u = 3 ∨ cls u = 4 := by
  unfold cls; rw [if_neg (by omega), if_neg (by omega), if_neg (by omega)]; split <;> simp
theorem cls_fin (u : Int) (h : u % 2147483648 < 2139095040) : ¬ cls u = 3 ∧ ¬ cls u = 4 := by
  unfold cls; repeat' split
  all_goals omega
set_option maxHeartbeats 600000 in
theorem rparts_any (u : Int) (h0 : 0 ≤ u) (h1 : u < 4294967296) (w : World) : Calls Tryz.prog 242 #[.int .u32 u] w (Four w u) := by
  have s0 : 0 ≤ u % 2147483648 := by omega
  have s1 : u % 2147483648 < 2147483648 := by omega
  by_cases hi : 2139095040 ≤ u % 2147483648
  · have H : Hid (pn u = false ∧ pm u = 0 ∧ pe u = 0 ∧ pr u = 16) := p_inf u hi
    have hc := cls_inf u hi
    go_enter Tryz.func242, Tryz.ntmps242
    go_wp2_with fail
    refine (rclass_any u h0 h1 _).mono ?_
    rintro e9 w9 ⟨rfl, hw9⟩
    subst w9
    rcases hc with hc | hc
    all_goals
      rw [hc]
      clear hc
      go_wp2
      go_returns
      exact ⟨ret_four H.out.1.symm H.out.2.1.symm H.out.2.2.1.symm H.out.2.2.2.symm, 0, rfl⟩
  have hi' : u % 2147483648 < 2139095040 := by omega
  obtain ⟨c3, c4⟩ := cls_fin u hi'
  have c3' : (cls u == 3) = false := by simpa using c3
  have c4' : (cls u == 4) = false := by simpa using c4
  clear c3 c4
  by_cases hz : u % 2147483648 = 0
  · have H : Hid (pn u = decide (2147483648 ≤ u) ∧ pm u = 0 ∧ pe u = 0 ∧ pr u = 0) := p_zero u hz
    have hm : M0 (u % 2147483648) = 0 := by rw [hz]; decide
    clear hz
    go_enter Tryz.func242, Tryz.ntmps242
    go_wp2_with fail
    refine (rclass_any u h0 h1 _).mono ?_
    rintro e9 w9 ⟨rfl, hw9⟩
    subst w9
    go_wp2_with fail
    refine (size_any _ s0 s1 _).mono ?_
    rintro e9 w9 ⟨rfl, hw9⟩
    subst w9
    rw [hm]
    clear hm
    go_wp2
    go_returns
    exact ⟨ret_four H.out.1.symm H.out.2.1.symm H.out.2.2.1.symm H.out.2.2.2.symm, 0, rfl⟩
  have H : Hid (pn u = decide (2147483648 ≤ u) ∧ pm u = M0 (u % 2147483648) / 2 ^ tz (M0 (u % 2147483648)).toNat 32 ∧ pe u = E0 (u % 2147483648) + tzI (M0 (u % 2147483648)) ∧ pr u = 0) := p_fin u hi' hz
  have mb := M0_b (u % 2147483648) (by omega) s1
  have eb := E0_b (u % 2147483648) s0 s1
  go_enter Tryz.func242, Tryz.ntmps242
  go_wp2_with fail
  refine (rclass_any u h0 h1 _).mono ?_
  rintro e9 w9 ⟨rfl, hw9⟩
  subst w9
  go_wp2_with fail
  refine (size_any _ s0 s1 _).mono ?_
  rintro e9 w9 ⟨rfl, hw9⟩
  subst w9
  generalize M0 (u % 2147483648) = m at *
  generalize E0 (u % 2147483648) = x at *
  obtain ⟨n, rfl⟩ := Int.eq_ofNat_of_zero_le (show 0 ≤ m by omega)
  have hn : ((n : Int) == 0) = false := by simp; omega
  clear hz hi hi'
  go_wp2
  go_loop [8, 9] (fun a b => ∃ k y : Nat, k ≤ 24 ∧ n = 2 ^ k * y ∧ 0 < y ∧ y ≤ n ∧ a = .int .u64 y ∧ b = .int .i64 (x + k)) (fun a _ => (intOf a).toNat)
  case atStart => exact ⟨0, n, by omega, by simp, by omega, Nat.le_refl _, rfl, by simp⟩
  case round =>
    obtain ⟨k, y, hk, hny, hy, hyn, rfl, rfl⟩ := hrel
    have HN : Hid (n = 2 ^ k * y) := hny
    clear hny
    by_cases he : y % 2 = 0
    · have he' : ((y : Int) % 2 == 0) = true := by simp; omega
      go_wp2
      go_round
      case rel =>
        have hh := HN.out
        have h2 : y = 2 * (y / 2) := by omega
        have h3 : n = 2 ^ (k + 1) * (y / 2) := by rw [hh, Nat.pow_succ, Nat.mul_assoc, ← h2]
        have h4 : k + 1 ≤ 24 := by
          apply Nat.le_of_not_lt; intro hc
          have a1 : 2 ^ 25 ≤ 2 ^ (k + 1) := Nat.pow_le_pow_right (by omega) (by omega)
          have a2 : 2 ^ (k + 1) * 1 ≤ 2 ^ (k + 1) * (y / 2) := Nat.mul_le_mul_left _ (by omega)
          omega
        exact ⟨k + 1, y / 2, h4, h3, by omega, by omega, by go_num, by congr 1; omega⟩
      case measure => simp [intOf]; omega
    · have he' : ((y : Int) % 2 == 0) = false := by simp; omega
      obtain ⟨t1, t2⟩ := odd_tz n k y HN.out (by omega) (by omega)
      have HV : Hid ((n : Int) / 2 ^ tz ((n : Int)).toNat 32 = y ∧ tzI n = k) := by
        show _ ∧ _
        unfold tzI
        rw [Int.toNat_natCast, t1]
        refine ⟨?_, rfl⟩
        rw [← t2]; simp
      clear t1 t2 HN
      go_wp2
      go_returns
      exact ⟨ret_four H.out.1.symm (H.out.2.1.trans HV.out.1).symm (H.out.2.2.1.trans (by rw [HV.out.2])).symm H.out.2.2.2.symm, 0, rfl⟩
end Cl
end Go.Proofs.YtgoigcpdfecfhaaGreatDoor
