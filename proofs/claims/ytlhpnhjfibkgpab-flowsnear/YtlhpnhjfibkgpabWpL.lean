import Derived.Test.YtlhpnhjfibkgpabWpJ2
namespace Go.Proofs.Ytlhpnhjfibkgpab
namespace Wp
open Go.RowKit
set_option linter.unusedVariables false
set_option maxRecDepth 8000
/-- What goes along the edges up to i, gathered. -/
def ed1 (g : Pg) (C : Nat → Int) (S N : Nat → Nat → Int) (x : Int × Int × Int) : Nat → Nat → Int :=
  if (g.sc C (S x.1.toNat) x.1 x.2.1 x.2.2 false).2 = true then ups N x.2.1.toNat (g.mo (N x.2.1.toNat) (g.sc C (S x.1.toNat) x.1 x.2.1 x.2.2 false).1) else N
def ed2 (g : Pg) (C : Nat → Int) (S N : Nat → Nat → Int) (x : Int × Int × Int) : Nat → Nat → Int :=
  if g.both = true ∧ (g.sc C (S x.2.1.toNat) x.1 x.2.1 x.2.2 true).2 = true then ups N x.1.toNat (g.mo (N x.1.toNat) (g.sc C (S x.2.1.toNat) x.1 x.2.1 x.2.2 true).1) else N
def eds (g : Pg) (C : Nat → Int) (S : Nat → Nat → Int) (E : Nat → Int × Int × Int) : Nat → Nat → Nat → Int
  | 0 => S
  | i + 1 => ed2 g C S (ed1 g C S (eds g C S E i) (E i)) (E i)
theorem SR.src {w : World} {b n cap : Nat} {S : Nat → Nat → Int} (h : SR w b n S) : Src w (.slice (some ⟨b, 0, none⟩) n cap) n (cs S n) := by
  refine Or.inr ⟨_, _, rfl, cs_len S n, fun j u hj => ?_, fun u hu => ?_⟩
  · rw [add0]
    obtain ⟨C, h1, h2⟩ := h
    have hl := (List.getElem?_eq_some_iff.1 hj).1
    rw [cs_len] at hl
    have e : j / 8 * 8 + j % 8 = j := by omega
    have h3 := h2 (j / 8) (by omega) (j % 8) (by omega)
    have h4 := cs_get S n (j / 8) (j % 8) (by omega) (by omega)
    rw [e] at h3 h4
    rw [h4] at hj
    cases hj
    exact (cell_of_row w b _ _ 36 (0, 0) h1).trans h3
  · obtain ⟨j, hj⟩ := List.getElem?_of_mem hu
    have hl := (List.getElem?_eq_some_iff.1 hj).1
    rw [cs_len] at hl
    have e : j / 8 * 8 + j % 8 = j := by omega
    have h4 := cs_get S n (j / 8) (j % 8) (by omega) (by omega)
    rw [e] at h4
    rw [h4] at hj
    cases hj
    rfl
theorem own0 (w : World) (B : Nat) (h : B ≤ w.heap.size) : (w.alloc (.cells #[] 36)).ownsRow B 36 8 (.slice (some ⟨w.heap.size, 0, none⟩) 0 0) 0 [] :=
  ⟨rfl, Or.inr ⟨w.heap.size, 0, #[], rfl, h, at0 w _, Nat.le_refl _, by unfold maxLen; omega, rfl, rfl⟩⟩
theorem below_grown {w w' : World} (h : (w.alloc (.cells #[] 36)).grownBy w' (some w.heap.size)) : Below w.heap.size w w' :=
  (b1 w 36 #[]).grown h (by simp) (fun j hj => by cases hj; exact Nat.le_refl _)
end Wp
end Go.Proofs.Ytlhpnhjfibkgpab
