import Derived.WalkKit
namespace Go.Proofs.Ytdphfhpohlodcab
namespace Wh
open Go.RowKit
/-- An int64? -/
def Fit (n : Int) : Prop := -9223372036854775808 ≤ n ∧ n ≤ 9223372036854775807
instance (n : Int) : Decidable (Fit n) := by unfold Fit; exact inferInstance
def fv (n : Int) : Int := if Fit n then n else 0
def fe (n : Int) : Int := if Fit n then 0 else 13
theorem fv_in {n : Int} (h : Fit n) : fv n = n := by unfold fv; rw [if_pos h]
theorem fe_in {n : Int} (h : Fit n) : fe n = 0 := by unfold fe; rw [if_pos h]
theorem fv_out {n : Int} (h : ¬ Fit n) : fv n = 0 := by unfold fv; rw [if_neg h]
theorem fe_out {n : Int} (h : ¬ Fit n) : fe n = 13 := by unfold fe; rw [if_neg h]
theorem ret_two {k1 k2 : IntKind} {a b c d : Int} (h : a = c) (h2 : b = d) : Ending.returned (.tuple #[.int k1 a, .int k2 b]) = .returned (.tuple #[.int k1 c, .int k2 d]) := by rw [h, h2]
theorem wrap_diff (n : Int) : ∃ k, wrap64 n = n + 18446744073709551616 * k := ⟨-((n + 9223372036854775808) / 18446744073709551616), by unfold wrap64; omega⟩
theorem wrap_fit (n : Int) : Fit (wrap64 n) := by unfold Fit wrap64; omega
/-- 'product / a != b' tells whether the product fits. -/
theorem mul_fit (a b : Int) (ha : ¬ a = 0) (h : Fit (a * b)) : (wrap64 (a * b)).tdiv a = b := by
  rw [IntWalk.wrap64_in _ h, Int.mul_comm, Int.mul_tdiv_cancel _ ha]
theorem mul_not (a b : Int) (ha : ¬ a = 0) (h0 : Fit a) (h : ¬ Fit (a * b)) : ¬ (wrap64 (a * b)).tdiv a = b := by
  intro e
  apply h
  have h1 := wrap_fit (a * b)
  obtain ⟨k, hk⟩ := wrap_diff (a * b)
  have h2 := Int.mul_tdiv_add_tmod (wrap64 (a * b)) a
  rw [e] at h2
  have h3 : (wrap64 (a * b)).tmod a < (a.natAbs : Int) ∧ -(a.natAbs : Int) < (wrap64 (a * b)).tmod a := by
    have h4 := Int.tmod_lt_of_pos (wrap64 (a * b)) (b := (a.natAbs : Int)) (by omega)
    have h5 := Int.lt_tmod_of_pos (wrap64 (a * b)) (b := (a.natAbs : Int)) (by omega)
    rcases Int.natAbs_eq a with ea | ea
    · rw [← ea] at h4 h5; omega
    · rw [ea, Int.tmod_neg, ← ea] ; rw [← Int.natAbs_neg] at *; omega
  unfold Fit at *
  have : wrap64 (a * b) = a * b := by omega
  omega
theorem tdiv_fit (p a : Int) (hp : Fit p) (h0 : ¬ a = 0) (h1 : ¬ a = -1) : Fit (p.tdiv a) := by
  unfold Fit at *
  by_cases ha : a = 1
  · subst ha; rw [Int.tdiv_one]; exact hp
  · have e := Int.natAbs_tdiv p a
    have h2 : 2 ≤ a.natAbs := by omega
    have h3 : p.natAbs / a.natAbs ≤ p.natAbs / 2 := Nat.div_le_div_left h2 (by omega)
    have e' : (p.tdiv a).natAbs = p.natAbs / a.natAbs := e
    omega
/-- the test as the walk shows it -/
theorem mul_test (a b : Int) (ha : ¬ a = 0) (ha1 : ¬ a = -1) (h0 : Fit a) : (wrap64 ((wrap64 (a * b)).tdiv a) != b) = !decide (Fit (a * b)) := by
  rw [IntWalk.wrap64_in _ (tdiv_fit _ _ (wrap_fit _) ha ha1)]
  by_cases h : Fit (a * b)
  · rw [mul_fit a b ha h]; simp [h]
  · have := mul_not a b ha h0 h
    simp [h, this]
theorem mul_test' (a b : Int) (hb : ¬ b = 0) (hb1 : ¬ b = -1) (h0 : Fit b) : (wrap64 ((wrap64 (a * b)).tdiv b) != a) = !decide (Fit (a * b)) := by
  have := mul_test b a hb hb1 h0
  rw [Int.mul_comm] at this; exact this
theorem tmod_fit (p a : Int) (hp : Fit p) : Fit (p.tmod a) := by
  unfold Fit at *
  have h1 := Int.natAbs_tmod p a
  have h2 : (p.tmod a).natAbs ≤ p.natAbs := by rw [h1]; exact Nat.mod_le _ _
  by_cases h : 0 ≤ p
  · omega
  · have h3 := Int.tmod_nonneg a (show 0 ≤ -p by omega)
    rw [Int.neg_tmod] at h3
    omega
/-- Quo, Rem. -/
def qv (a b : Int) : Int := if b = 0 then 0 else fv (a.tdiv b)
def qe (a b : Int) : Int := if b = 0 then 14 else fe (a.tdiv b)
def mv (a b : Int) : Int := if b = 0 then 0 else a.tmod b
def me (b : Int) : Int := if b = 0 then 14 else 0
theorem q_zero (a : Int) : qv a 0 = 0 ∧ qe a 0 = 14 := by simp [qv, qe]
theorem q_neg (a : Int) : qv a (-1) = fv (-a) ∧ qe a (-1) = fe (-a) := by
  have e : a.tdiv (-1) = -a := by rw [Int.tdiv_neg, Int.tdiv_one]
  unfold qv qe; rw [if_neg (by decide), if_neg (by decide), e]; exact ⟨rfl, rfl⟩
theorem q_else (a b : Int) (ha : Fit a) (h0 : ¬ b = 0) (h1 : ¬ b = -1) : qv a b = wrap64 (a.tdiv b) ∧ qe a b = 0 := by
  have h := tdiv_fit a b ha h0 h1
  unfold qv qe; rw [if_neg h0, if_neg h0, fv_in h, fe_in h, IntWalk.wrap64_in _ h]; exact ⟨rfl, rfl⟩
theorem m_zero (a : Int) : mv a 0 = 0 ∧ me 0 = 14 := by simp [mv, me]
theorem m_neg (a : Int) : mv a (-1) = 0 ∧ me (-1) = 0 := by
  have e : a.tmod (-1) = 0 := by rw [Int.tmod_neg, Int.tmod_one]
  unfold mv me; rw [if_neg (by decide), if_neg (by decide), e]; exact ⟨rfl, rfl⟩
theorem m_else (a b : Int) (h0 : ¬ b = 0) : mv a b = a.tmod b ∧ me b = 0 := by
  unfold mv me; rw [if_neg h0, if_neg h0]; exact ⟨rfl, rfl⟩
end Wh
end Go.Proofs.Ytdphfhpohlodcab
