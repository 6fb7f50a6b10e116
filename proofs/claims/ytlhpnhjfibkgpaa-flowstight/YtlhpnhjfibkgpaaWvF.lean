import Derived.Test.YtlhpnhjfibkgpaaWvE
import Derived.Test.YtlhpnhjfibkgpaaWqD
namespace Go.Proofs.Ytlhpnhjfibkgpaa
namespace Wp
open Go.RowKit
set_option linter.unusedVariables false
/-- A number as a word. -/
def us (d : Int) : Int := IntKind.u64.wrap d
theorem us_eq (d : Int) : us d = d % 18446744073709551616 := by unfold us; simp only [IntKind.wrap, IntKind.signed, IntKind.bits]; simp
theorem us_back (d : Int) (h0 : -9223372036854775808 ≤ d) (h1 : d ≤ 9223372036854775807) : wrap64 (us d) = d := by rw [us_eq]; unfold wrap64; omega
theorem us_inf (d : Int) (h0 : -9223372036854775808 ≤ d) (h1 : d ≤ 9223372036854775807) : us d = 9223372036854775807 ↔ d = 9223372036854775807 := by rw [us_eq]; omega
theorem mi_us (a b : Int) (a0 : -9223372036854775808 ≤ a) (a1 : a ≤ 9223372036854775807) (b0 : -9223372036854775808 ≤ b) (b1 : b ≤ 9223372036854775807) : mni (us a) (us b) = us (min a b) := by
  unfold mni
  rw [us_back a a0 a1, us_back b b0 b1]
  split
  · rw [Int.min_eq_right (by omega)]; rfl
  · rw [Int.min_eq_left (by omega)]; rfl
section
variable (m : Nat) (k : Int) (E : Nat → Int × Int × Int)
/-- An edge of weight z. -/
def Aw (i : Nat) (x y : Nat) (z : Int) : Prop := ∃ j, j < i ∧ (E j).1 = x ∧ (E j).2.1 = y ∧ wt k (E j).2.2 = z
theorem Aw.up {k : Int} {E : Nat → Int × Int × Int} {i x y : Nat} {z : Int} (h : Aw k E i x y z) : Aw k E (i + 1) x y z := by
  obtain ⟨j, hj, h⟩ := h
  exact ⟨j, by omega, h⟩
theorem Aw.b {k : Int} {E : Nat → Int × Int × Int} {i x y : Nat} {z : Int} (h : Aw k E i x y z) : -2147483648 ≤ z ∧ z ≤ 2147483647 := by
  obtain ⟨j, hj, _, _, rfl⟩ := h
  exact wt_b _ _
/-- All edges gone over once: what stood there, P, is kept beside. -/
def ex (P : Nat → Int) : Nat → Nat → Int
  | 0 => P
  | i + 1 => if P (E i).1.toNat = 9223372036854775807 then ex P i else if P (E i).1.toNat + wt k (E i).2.2 < ex P i (E i).2.1.toNat then up (ex P i) (E i).2.1.toNat (P (E i).1.toNat + wt k (E i).2.2) else ex P i
/-- What is gathered of those that are news. -/
def gm (P W : Nat → Int) (r : Int) (Q : Nat → Int) : Nat → Nat → Int
  | 0 => Q
  | i + 1 => if P (E i).1.toNat = 9223372036854775807 ∨ W (E i).1.toNat ≠ r then gm P W r Q i else up (gm P W r Q i) (E i).2.1.toNat (min (gm P W r Q i (E i).2.1.toNat) (P (E i).1.toNat + wt k (E i).2.2))
variable {k E}
theorem ex_le (P : Nat → Int) (i v : Nat) : ex k E P i v ≤ P v := by
  induction i with
  | zero => exact Int.le_refl _
  | succ i ih =>
    unfold ex
    split
    · exact ih
    · split
      · by_cases e : v = (E i).2.1.toNat
        · subst e; rw [up_eq]; omega
        · rw [up_ne _ _ _ _ e]; exact ih
      · exact ih
theorem ex_step (P : Nat → Int) (i v : Nat) : ex k E P (i + 1) v ≤ ex k E P i v := by
  rw [ex]
  split
  · exact Int.le_refl _
  · split
    · by_cases e : v = (E i).2.1.toNat
      · subst e; rw [up_eq]; omega
      · rw [up_ne _ _ _ _ e]; exact Int.le_refl _
    · exact Int.le_refl _
theorem ex_edge (P : Nat → Int) (i x y : Nat) (z : Int) (h : Aw k E i x y z) (hx : P x ≠ 9223372036854775807) : ex k E P i y ≤ P x + z := by
  induction i with
  | zero => obtain ⟨j, hj, _⟩ := h; omega
  | succ i ih =>
    obtain ⟨j, hj, h1, h2, h3⟩ := h
    by_cases e : j < i
    · exact Int.le_trans (ex_step P i y) (ih ⟨j, e, h1, h2, h3⟩)
    · have e2 : j = i := by omega
      subst e2
      have t1 : (E j).1.toNat = x := by rw [h1]; rfl
      have t2 : (E j).2.1.toNat = y := by rw [h2]; rfl
      rw [ex, t1, t2, if_neg hx, h3]
      split
      · rw [up_eq]; exact Int.le_refl _
      · omega
theorem ex_from {n : Nat} (hI : EIn n m E) (P : Nat → Int) (i : Nat) (hi : i ≤ m) (v : Nat) : ex k E P i v = P v ∨ ∃ x z, Aw k E i x v z ∧ P x ≠ 9223372036854775807 ∧ ex k E P i v = P x + z := by
  induction i with
  | zero => exact .inl rfl
  | succ i ih =>
    have ih := ih (by omega)
    have old : ex k E P i v = P v ∨ ∃ x z, Aw k E (i + 1) x v z ∧ P x ≠ 9223372036854775807 ∧ ex k E P i v = P x + z := by
      rcases ih with h | ⟨x, z, h1, h2, h3⟩
      · exact .inl h
      · exact .inr ⟨x, z, h1.up, h2, h3⟩
    rw [ex]
    split
    · exact old
    · rename_i hx
      split
      · by_cases e : v = (E i).2.1.toNat
        · obtain ⟨x, y, h1, h2, _, _⟩ := hI i (by omega)
          subst e
          rw [up_eq]
          exact .inr ⟨x, _, ⟨i, by omega, h1, by omega, rfl⟩, by rw [h1] at hx; simpa using hx, by rw [h1]; rfl⟩
        · rw [up_ne _ _ _ _ e]; exact old
      · exact old
theorem gm_step (P W : Nat → Int) (r : Int) (Q : Nat → Int) (i v : Nat) : gm k E P W r Q (i + 1) v ≤ gm k E P W r Q i v := by
  rw [gm]
  split
  · exact Int.le_refl _
  · by_cases e : v = (E i).2.1.toNat
    · subst e; rw [up_eq]; omega
    · rw [up_ne _ _ _ _ e]; exact Int.le_refl _
theorem gm_le (P W : Nat → Int) (r : Int) (Q : Nat → Int) (i v : Nat) : gm k E P W r Q i v ≤ Q v := by
  induction i with
  | zero => exact Int.le_refl _
  | succ i ih => exact Int.le_trans (gm_step P W r Q i v) ih
theorem gm_edge (P W : Nat → Int) (r : Int) (Q : Nat → Int) (i x y : Nat) (z : Int) (h : Aw k E i x y z) (hx : P x ≠ 9223372036854775807) (hw : W x = r) : gm k E P W r Q i y ≤ P x + z := by
  induction i with
  | zero => obtain ⟨j, hj, _⟩ := h; omega
  | succ i ih =>
    obtain ⟨j, hj, h1, h2, h3⟩ := h
    by_cases e : j < i
    · exact Int.le_trans (gm_step P W r Q i y) (ih ⟨j, e, h1, h2, h3⟩)
    · have e2 : j = i := by omega
      subst e2
      have t1 : (E j).1.toNat = x := by rw [h1]; rfl
      have t2 : (E j).2.1.toNat = y := by rw [h2]; rfl
      rw [gm, t1, t2, if_neg (by simp [hx, hw]), h3, up_eq]
      omega
theorem gm_from {n : Nat} (hI : EIn n m E) (P W : Nat → Int) (r : Int) (Q : Nat → Int) (i : Nat) (hi : i ≤ m) (v : Nat) : gm k E P W r Q i v = Q v ∨ ∃ x z, Aw k E i x v z ∧ P x ≠ 9223372036854775807 ∧ W x = r ∧ gm k E P W r Q i v = P x + z := by
  induction i with
  | zero => exact .inl rfl
  | succ i ih =>
    have ih := ih (by omega)
    have old : gm k E P W r Q i v = Q v ∨ ∃ x z, Aw k E (i + 1) x v z ∧ P x ≠ 9223372036854775807 ∧ W x = r ∧ gm k E P W r Q i v = P x + z := by
      rcases ih with h | ⟨x, z, h1, h2, h3, h4⟩
      · exact .inl h
      · exact .inr ⟨x, z, h1.up, h2, h3, h4⟩
    rw [gm]
    split
    · exact old
    · rename_i hx
      by_cases e : v = (E i).2.1.toNat
      · obtain ⟨x, y, h1, h2, _, _⟩ := hI i (by omega)
        have hx1 : P x ≠ 9223372036854775807 := fun q => hx (.inl (by rw [h1]; exact q))
        have hx2 : W x = r := Classical.byContradiction fun q => hx (.inr (by rw [h1]; exact q))
        subst e
        rw [up_eq]
        by_cases c : gm k E P W r Q i (E i).2.1.toNat ≤ P (E i).1.toNat + wt k (E i).2.2
        · rw [Int.min_eq_left c]; exact old
        · rw [Int.min_eq_right (by omega)]
          exact .inr ⟨x, _, ⟨i, by omega, h1, by omega, rfl⟩, hx1, hx2, by rw [h1]; rfl⟩
      · rw [up_ne _ _ _ _ e]; exact old
end
end Wp
end Go.Proofs.Ytlhpnhjfibkgpaa
