import Derived.Test.YtobhmadckoemdaaClA
import Derived.Handy
namespace Go.Proofs.Ytobhmadckoemdaa
namespace Cl
open Go.RowKit
theorem tz_unique (k j f : Nat) (h : k < f) : tz (2 ^ k * (2 * j + 1)) f = k := by
  induction k generalizing f with
  | zero =>
    obtain ⟨f, rfl⟩ : ∃ m, f = m + 1 := ⟨f - 1, by omega⟩
    unfold tz; rw [Nat.pow_zero, Nat.one_mul, if_neg (by omega)]
  | succ k ih =>
    obtain ⟨f, rfl⟩ : ∃ m, f = m + 1 := ⟨f - 1, by omega⟩
    have e1 : 2 ^ (k + 1) * (2 * j + 1) = 2 * (2 ^ k * (2 * j + 1)) := by rw [Nat.pow_succ, Nat.mul_comm (2 ^ k) 2, Nat.mul_assoc]
    unfold tz
    rw [e1, if_pos (by omega), show 2 * (2 ^ k * (2 * j + 1)) / 2 = 2 ^ k * (2 * j + 1) from by omega, ih f (by omega)]
def M0 (s : Int) : Int := if s / 8388608 = 0 then s else s % 8388608 + 8388608
def E0 (s : Int) : Int := if s / 8388608 = 0 then -149 else s / 8388608 - 150
theorem M0_b (s : Int) (h0 : 0 < s) (h1 : s < 2147483648) : 0 < M0 s ∧ M0 s < 16777216 := by unfold M0; split <;> omega
theorem E0_b (s : Int) (h0 : 0 ≤ s) (h1 : s < 2147483648) : -149 ≤ E0 s ∧ E0 s < 200 := by unfold E0; split <;> omega
def pn (u : Int) : Bool := if 2139095040 ≤ u % 2147483648 then false else decide (2147483648 ≤ u)
def pm (u : Int) : Int := if 2139095040 ≤ u % 2147483648 ∨ u % 2147483648 = 0 then 0 else M0 (u % 2147483648) / 2 ^ tz (M0 (u % 2147483648)).toNat 32
def pe (u : Int) : Int := if 2139095040 ≤ u % 2147483648 ∨ u % 2147483648 = 0 then 0 else E0 (u % 2147483648) + tzI (M0 (u % 2147483648))
def pr (u : Int) : Int := if 2139095040 ≤ u % 2147483648 then 16 else 0
theorem p_inf (u : Int) (h : 2139095040 ≤ u % 2147483648) : pn u = false ∧ pm u = 0 ∧ pe u = 0 ∧ pr u = 16 := by
  unfold pn pm pe pr; rw [if_pos h, if_pos (Or.inl h), if_pos (Or.inl h), if_pos h]; exact ⟨rfl, rfl, rfl, rfl⟩
theorem p_zero (u : Int) (h : u % 2147483648 = 0) : pn u = decide (2147483648 ≤ u) ∧ pm u = 0 ∧ pe u = 0 ∧ pr u = 0 := by
  unfold pn pm pe pr; rw [if_neg (by omega), if_pos (Or.inr h), if_pos (Or.inr h), if_neg (by omega)]; exact ⟨rfl, rfl, rfl, rfl⟩
theorem p_fin (u : Int) (h : u % 2147483648 < 2139095040) (hz : ¬ u % 2147483648 = 0) : pn u = decide (2147483648 ≤ u) ∧ pm u = M0 (u % 2147483648) / 2 ^ tz (M0 (u % 2147483648)).toNat 32 ∧ pe u = E0 (u % 2147483648) + tzI (M0 (u % 2147483648)) ∧ pr u = 0 := by
  have n : ¬ (2139095040 ≤ u % 2147483648 ∨ u % 2147483648 = 0) := by omega
  unfold pn pm pe pr; rw [if_neg (by omega), if_neg n, if_neg n, if_neg (by omega)]; exact ⟨rfl, rfl, rfl, rfl⟩
theorem ret_four {a b : Bool} {k1 k2 k3 : IntKind} {c d e f g h : Int} (h1 : a = b) (h2 : c = d) (h3 : e = f) (h4 : g = h) :
    Ending.returned (.tuple #[.bool a, .int k1 c, .int k2 e, .int k3 g]) = .returned (.tuple #[.bool b, .int k1 d, .int k2 f, .int k3 h]) := by rw [h1, h2, h3, h4]
def Four (w : World) (u : Int) (e : Ending) (w' : World) : Prop := e = .returned (.tuple #[.bool (pn u), .int .u32 (pm u), .int .i64 (pe u), .int .i64 (pr u)]) ∧ ∃ n, w' = w.drewN n
end Cl
end Go.Proofs.Ytobhmadckoemdaa
