import Derived.Test.YtbnmjmlcedkoaabDoorTySg
import Derived.Test.YtbnmjmlcedkoaabDoorTyBit
namespace Go.Proofs.YtbnmjmlcedkoaabDoor
namespace Ty
open Go.RowKit
set_option linter.unusedVariables false
/-- How many bits a number has. -/
def IsLen (N : Int) (n : Nat) : Prop := N < 2 ^ n ∧ (0 < n → bit N (n - 1) = 1)
theorem len_less (N : Int) (k : Nat) (h0 : 0 ≤ N) (h : N < 2 ^ (k + 1)) (hb : bit N k = 0) : N < 2 ^ k := by
  have e := low_bit N k
  rw [hb, Int.mul_zero, Int.zero_add, Int.emod_eq_of_lt h0 h] at e
  rw [e]; exact Int.emod_lt_of_pos _ (pw k)
def ab (A : Int) : Int := if A < 0 then -A else A
theorem ab_b (A : Int) (h : Sg A) : 0 ≤ ab A ∧ ab A ≤ 2 ^ 383 := by
  unfold ab
  obtain ⟨h1, h2⟩ := h
  generalize (2 : Int) ^ 383 = P at *
  split <;> omega
theorem isLen_one (N : Int) (a b : Nat) (h0 : 0 ≤ N) (ha : IsLen N a) (hb : IsLen N b) : a = b := by
  have key : ∀ a b : Nat, IsLen N a → IsLen N b → ¬ a < b := by
    intro a b ha hb hlt
    have h1 := hb.2 (by omega)
    have h2 := bit_zero_up N (b - 1) a h0 ha.1 (by omega)
    omega
  have h1 := key a b ha hb
  have h2 := key b a hb ha
  omega
/-- What rounding gives. -/
def rU (neg : Bool) (size : Int) : Int := if 2139095040 ≤ size then 0 else size + if neg then 2147483648 else 0
def rE (size : Int) : Int := if 2139095040 ≤ size then 20 else 0
def b2i (b : Bool) : Int := if b then 1 else 0
/-- Bits to be dropped so that 24 are left. -/
def dr (L : Nat) : Nat := L - 24
theorem kept_b (Q : Int) (L : Nat) (h0 : 0 ≤ Q) (hL : IsLen Q L) : 0 ≤ Q / 2 ^ dr L ∧ Q / 2 ^ dr L < 16777216 ∧ (0 < dr L → 8388608 ≤ Q / 2 ^ dr L) := by
  obtain ⟨h1, h2⟩ := hL
  have hP := pw (dr L)
  have a : 0 ≤ Q / 2 ^ dr L := Int.ediv_nonneg h0 (by omega)
  refine ⟨a, ?_, fun hd => ?_⟩
  · refine Int.ediv_lt_of_lt_mul hP ?_
    have e : (16777216 : Int) = 2 ^ 24 := by decide
    rw [e, ← Int.pow_add]
    have h3 := pow_mono L (24 + dr L) (by unfold dr; omega)
    omega
  · have hl : L = dr L + 24 := by unfold dr at *; omega
    have hb := h2 (by omega)
    have e : bit Q (L - 1) = Q / 2 ^ dr L / 8388608 % 2 := by
      unfold bit
      rw [show L - 1 = dr L + 23 from by omega, Int.pow_add, ← Int.ediv_ediv_of_nonneg (by omega)]
      rfl
    rw [e] at hb
    generalize Q / 2 ^ dr L = x at *
    omega
theorem dv2 (Q : Int) (k : Nat) : Q / 2 ^ k = 2 * (Q / 2 ^ (k + 1)) + bit Q k := by
  unfold bit
  rw [Int.pow_succ, ← Int.ediv_ediv_of_nonneg (Int.le_of_lt (pw k))]
  generalize Q / 2 ^ k = x
  omega
theorem len_ex (Q : Int) (h0 : 0 ≤ Q) : ∀ n : Nat, Q < 2 ^ n → ∃ L, L ≤ n ∧ IsLen Q L
  | 0, h => ⟨0, Nat.le_refl _, h, fun h => by omega⟩
  | n + 1, h => by
    by_cases hn : Q < 2 ^ n
    · obtain ⟨L, hL, hi⟩ := len_ex Q h0 n hn
      exact ⟨L, by omega, hi⟩
    · refine ⟨n + 1, Nat.le_refl _, h, fun _ => ?_⟩
      have hb := bit_b Q n
      by_cases hz : bit Q n = 0
      · exact absurd (len_less Q n h0 h hz) hn
      · show bit Q (n + 1 - 1) = 1
        rw [Nat.add_sub_cancel]; omega
end Ty
end Go.Proofs.YtbnmjmlcedkoaabDoor
