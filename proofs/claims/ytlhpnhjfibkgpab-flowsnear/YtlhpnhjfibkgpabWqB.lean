import Derived.Test.YtlhpnhjfibkgpabWpO
import Derived.Test.YtlhpnhjfibkgpabWqA
namespace Go.Proofs.Ytlhpnhjfibkgpab
namespace Wp
open Go.RowKit
set_option linter.unusedVariables false
/-- One label goes along one edge. -/
def one (C : Nat → Int) (S N : Nat → Nat → Int) (u v : Nat) : Nat → Nat → Int := if S u 1 = C 0 then ups N v (up (N v) 2 (min (N v 2) (S u 0))) else N
theorem one_word (C : Nat → Int) (S N : Nat → Nat → Int) (u v t j : Nat) (hj : j ≠ 2) : one C S N u v t j = N t j := by
  unfold one
  split
  · unfold ups
    split
    · rename_i h; subst h; exact up_ne _ _ _ _ hj
    · rfl
  · rfl
theorem one_two (C : Nat → Int) (S N : Nat → Nat → Int) (u v t : Nat) : one C S N u v t 2 = if t = v ∧ S u 1 = C 0 then min (N v 2) (S u 0) else N t 2 := by
  unfold one ups
  by_cases h : S u 1 = C 0
  · rw [if_pos h]
    by_cases e : t = v
    · rw [if_pos e, if_pos ⟨e, h⟩]; exact up_eq _ _ _
    · rw [if_neg e, if_neg (fun k => e k.1)]
  · rw [if_neg h, if_neg (fun k => h k.2)]
/-- Two vertices that an edge among the first i joins. -/
def Adj (E : Nat → Int × Int × Int) (i u v : Nat) : Prop := ∃ j, j < i ∧ (((E j).1 = u ∧ (E j).2.1 = v) ∨ ((E j).1 = v ∧ (E j).2.1 = u))
theorem Adj.symm {E : Nat → Int × Int × Int} {i u v : Nat} (h : Adj E i u v) : Adj E i v u := by
  obtain ⟨j, hj, h | h⟩ := h
  · exact ⟨j, hj, Or.inr h⟩
  · exact ⟨j, hj, Or.inl h⟩
theorem Adj.lt {E : Nat → Int × Int × Int} {n m u v : Nat} (hI : EIn n m E) (h : Adj E m u v) : u < n ∧ v < n := by
  obtain ⟨j, hj, h⟩ := h
  obtain ⟨x, y, hx, hy, h1, h2⟩ := hI j hj
  rcases h with ⟨a, b⟩ | ⟨a, b⟩ <;> omega
theorem eds_step (n : Int) (C : Nat → Int) (S : Nat → Nat → Int) (E : Nat → Int × Int × Int) (i x y : Nat) (hx : (E i).1 = x) (hy : (E i).2.1 = y) : eds (gL n) C S E (i + 1) = one C S (one C S (eds (gL n) C S E i) x y) y x := by
  show ed2 (gL n) C S (ed1 (gL n) C S (eds (gL n) C S E i) (E i)) (E i) = _
  have h1 : ∀ N, ed1 (gL n) C S N (E i) = one C S N x y := fun N => by
    unfold ed1 one
    rw [hx, hy]
    simp only [gL, labSc, Int.toNat_natCast]
    by_cases h : S x 1 = C 0
    · simp [h]
    · simp [h]
  have h2 : ∀ N, ed2 (gL n) C S N (E i) = one C S N y x := fun N => by
    unfold ed2 one
    rw [hx, hy]
    simp only [gL, labSc, Int.toNat_natCast]
    by_cases h : S y 1 = C 0
    · simp [h]
    · simp [h]
  rw [h1, h2]
/-- What is gathered along the first i edges. -/
structure Gt (C : Nat → Int) (S N : Nat → Nat → Int) (E : Nat → Int × Int × Int) (i : Nat) : Prop where
  w0 : ∀ v, N v 0 = S v 0
  w1 : ∀ v, N v 1 = S v 1
  le : ∀ v, N v 2 ≤ S v 2
  sent : ∀ u v, Adj E i u v → S u 1 = C 0 → N v 2 ≤ S u 0
  frm : ∀ v, N v 2 = S v 2 ∨ ∃ u, Adj E i u v ∧ S u 1 = C 0 ∧ N v 2 = S u 0
theorem gt_all (n : Int) (k m : Nat) (C : Nat → Int) (S : Nat → Nat → Int) (E : Nat → Int × Int × Int) (hI : EIn k m E) : ∀ i, i ≤ m → Gt C S (eds (gL n) C S E i) E i := by
  intro i
  induction i with
  | zero => exact fun _ => ⟨fun _ => rfl, fun _ => rfl, fun _ => Int.le_refl _, fun u v h => by obtain ⟨j, hj, _⟩ := h; omega, fun _ => Or.inl rfl⟩
  | succ i ih =>
    intro hi
    have h := ih (by omega)
    obtain ⟨x, y, hx, hy, hxn, hyn⟩ := hI i (by omega)
    rw [eds_step n C S E i x y hx hy]
    generalize eds (gL n) C S E i = N at h
    have f1 : ∀ t, one C S (one C S N x y) y x t 2 ≤ one C S N x y t 2 := fun t => by
      rw [one_two]; split
      · rename_i h; rw [h.1]; exact Int.min_le_left _ _
      · exact Int.le_refl _
    have f2 : ∀ t, one C S N x y t 2 ≤ N t 2 := fun t => by
      rw [one_two]; split
      · rename_i h; rw [h.1]; exact Int.min_le_left _ _
      · exact Int.le_refl _
    refine ⟨fun v => ?_, fun v => ?_, fun v => Int.le_trans (f1 v) (Int.le_trans (f2 v) (h.le v)), fun u v ha hs => ?_, fun v => ?_⟩
    · rw [one_word _ _ _ _ _ _ _ (by decide), one_word _ _ _ _ _ _ _ (by decide)]; exact h.w0 v
    · rw [one_word _ _ _ _ _ _ _ (by decide), one_word _ _ _ _ _ _ _ (by decide)]; exact h.w1 v
    · obtain ⟨j, hj, ha⟩ := ha
      by_cases e : j < i
      · exact Int.le_trans (f1 v) (Int.le_trans (f2 v) (h.sent u v ⟨j, e, ha⟩ hs))
      · obtain rfl : j = i := by omega
        rcases ha with ⟨a, b⟩ | ⟨a, b⟩
        · have e1 : u = x := by omega
          have e2 : v = y := by omega
          subst e1; subst e2
          refine Int.le_trans (f1 v) ?_
          rw [one_two, if_pos ⟨rfl, hs⟩]
          exact Int.min_le_right _ _
        · have e1 : v = x := by omega
          have e2 : u = y := by omega
          subst e1; subst e2
          rw [one_two, if_pos ⟨rfl, hs⟩]
          exact Int.min_le_right _ _
    · have up1 : ∀ {u}, Adj E i u v → Adj E (i + 1) u v := fun ⟨j, hj, k⟩ => ⟨j, by omega, k⟩
      have base : N v 2 = S v 2 ∨ ∃ u, Adj E (i + 1) u v ∧ S u 1 = C 0 ∧ N v 2 = S u 0 := by
        rcases h.frm v with a | ⟨u, a, b, c⟩
        · exact Or.inl a
        · exact Or.inr ⟨u, up1 a, b, c⟩
      have mid : one C S N x y v 2 = S v 2 ∨ ∃ u, Adj E (i + 1) u v ∧ S u 1 = C 0 ∧ one C S N x y v 2 = S u 0 := by
        rw [one_two]
        split
        · rename_i hc
          obtain ⟨rfl, hc⟩ := hc
          by_cases e : N v 2 ≤ S x 0
          · rw [Int.min_eq_left e]; exact base
          · rw [Int.min_eq_right (by omega)]; exact Or.inr ⟨x, ⟨i, by omega, Or.inl ⟨hx, hy⟩⟩, hc, rfl⟩
        · exact base
      rw [one_two]
      split
      · rename_i hc
        obtain ⟨rfl, hc⟩ := hc
        by_cases e : one C S N v y v 2 ≤ S y 0
        · rw [Int.min_eq_left e]; exact mid
        · rw [Int.min_eq_right (by omega)]; exact Or.inr ⟨y, ⟨i, by omega, Or.inr ⟨hx, hy⟩⟩, hc, rfl⟩
      · exact mid
end Wp
end Go.Proofs.Ytlhpnhjfibkgpab
