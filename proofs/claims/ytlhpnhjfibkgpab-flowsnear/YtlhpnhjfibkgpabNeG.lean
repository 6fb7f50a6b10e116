import Derived.Test.YtlhpnhjfibkgpabNeF
namespace Go.Proofs.Ytlhpnhjfibkgpab
namespace Wp
open Go.RowKit
set_option linter.unusedVariables false
/-- What Reach ends with: levels L, sources P. -/
structure Rea (n m : Nat) (Q : List Nat) (E : Nat → Int × Int × Int) (L P : Nat → Int) : Prop where
  z : ∀ v, v < n → (L v = 0 ↔ v ∈ Q)
  b : ∀ v, v < n → L v = 18446744073709551615 ∨ (0 ≤ L v ∧ L v < 5000)
  c : ∀ v, v < n → L v = 18446744073709551615 → P v = 18446744073709551615
  d : ∀ v, v < n → v ∉ Q → L v ≠ 18446744073709551615 → ∃ u : Nat, Arc E m u v ∧ L u = L v - 1 ∧ P v = P u ∧ ∀ u' : Nat, Arc E m u' v → L u' = L v - 1 → P u ≤ P u'
  e : ∀ u v, Arc E m u v → L u ≠ 18446744073709551615 → L v ≠ 18446744073709551615 ∧ L v ≤ L u + 1
  p : ∀ v, v < n → v ∈ Q → P v = v
section
variable (n m : Nat) (Q : List Nat) (E : Nat → Int × Int × Int)
theorem downB (hn : n ≤ 1000) (hI : EIn n m E) (r : Nat) (hr : r ≤ 5000) : ∀ k : Nat, k ≤ 6000 → ∀ v, v < n → lvB n m Q E r v = k → ∃ f : Nat → Nat, ∀ j, j ≤ k → f j < n ∧ lvB n m Q E r (f j) = j := by
  have h := ivB_all n m Q E hn hI r hr
  intro k
  induction k with
  | zero => exact fun _ v hv hl => ⟨fun _ => v, fun j hj => (by have e : j = 0 := (by omega); subst e; exact ⟨hv, hl⟩)⟩
  | succ k ih =>
    intro hk v hv hl
    have hb := h.a v hv
    have hne : v ∉ Q := fun e => by have := (h.z v hv).2 e; omega
    obtain ⟨u, ha, hlu, _, _⟩ := h.d v hv hne (by push_cast at hl; omega)
    obtain ⟨f, hf⟩ := ih (by omega) u (ha.lt hI).1 (by push_cast at hl; omega)
    refine ⟨fun j => if j ≤ k then f j else v, fun j hj => ?_⟩
    by_cases e : j ≤ k
    · have e2 : (if j ≤ k then f j else v) = f j := if_pos e
      dsimp only
      rw [e2]; exact hf j e
    · have e2 : (if j ≤ k then f j else v) = v := if_neg e
      dsimp only
      rw [e2]; exact ⟨hv, by rw [hl]; congr 1; omega⟩
theorem lateB (hn : n ≤ 1000) (hI : EIn n m E) (r v : Nat) (hr : r < 5000) (hv : v < n) (h : nwB n m Q E r v) : r + 2 ≤ n := by
  have hl := (lvB_new n m Q E hI r v h).1
  obtain ⟨f, hf⟩ := downB n m Q E hn hI (r + 1) (by omega) (r + 1) (by omega) v hv (by rw [hl]; push_cast; rfl)
  refine pig f (r + 2) n (fun i hi => (hf i (by omega)).1) (fun i j hij hj e => ?_)
  have h1 := (hf i (by omega)).2
  have h2 := (hf j (by omega)).2
  rw [e] at h1
  omega
theorem fs_br (S : Nat → Nat → Int) (v : Nat) : 0 ≤ fs (gB n Q) S v 0 ∧ fs (gB n Q) S v 0 ≤ v := by
  induction v with
  | zero => exact ⟨Int.le_refl _, Int.le_refl _⟩
  | succ v ih =>
    show 0 ≤ brFo (fs (gB n Q) S v) (S v) 0 ∧ brFo (fs (gB n Q) S v) (S v) 0 ≤ _
    unfold brFo
    split
    · push_cast; omega
    · rw [up_ne _ _ _ _ (by decide), up_eq]; push_cast; omega
theorem reach_end (hn : n ≤ 1000) (h1n : 1 ≤ n) (hI : EIn n m E) : ∃ R, R < n ∧ Fine (gB n Q) E m n R ∧ Rea n m Q E (fun v => (rn (gB n Q) E m n (R + 1)).2 v 0) (fun v => (rn (gB n Q) E m n (R + 1)).2 v 1) := by
  have hdn : ∀ r, dn (gB n Q) E m n r = (((chg (gB n Q) (rn (gB n Q) E m n r).1 (rn (gB n Q) E m n r).2 E m n : Nat) : Int) == 0 || decide ((n : Int) ≤ (rn (gB n Q) E m n r).1 0)) := fun r => rfl
  have hlast : dn (gB n Q) E m n (n - 1) = true := by
    rw [hdn]
    have : chg (gB n Q) (rn (gB n Q) E m n (n - 1)).1 (rn (gB n Q) E m n (n - 1)).2 E m n = 0 := by
      apply Classical.byContradiction
      intro e
      obtain ⟨v, hv, h2⟩ := chgB_pos n m Q E hI (n - 1) n e
      have := lateB n m Q E hn hI (n - 1) v (by omega) hv h2
      omega
    rw [this]; rfl
  obtain ⟨R, hR, hy, hno⟩ := least (dn (gB n Q) E m n) (n - 1) hlast
  have hch : chg (gB n Q) (rn (gB n Q) E m n R).1 (rn (gB n Q) E m n R).2 E m n = 0 := by
    rw [hdn, ctl_b] at hy
    have e : decide ((n : Int) ≤ ((R : Nat) : Int)) = false := by simp; omega
    rw [e, Bool.or_false] at hy
    have := eq_of_beq hy
    omega
  have hsame := chgB_zero n m Q E hI R n hch
  have h := ivB_all n m Q E hn hI (R + 1) (by omega)
  have h0 := ivB_all n m Q E hn hI R (by omega)
  refine ⟨R, by omega, ⟨fun r hr => by rw [ctl_b]; omega, fun r hr i hi => ?_, fun r hr v hv => by have := fs_br n Q (rn (gB n Q) E m n r).2 v; omega, hno, hy⟩, h.z, ?_, fun v hv hU => (h.c v hv hU).1, h.d, ?_, h.p⟩
  · obtain ⟨x, y, hx, hy2, h1, h2⟩ := hI i hi
    have : 0 ≤ (E i).1 ∧ (E i).1 < 4294967296 := by omega
    exact ⟨this, this⟩
  · intro v hv
    rcases h.a v hv with k | k
    · exact Or.inl k
    · right
      have k' : 0 ≤ lvB n m Q E (R + 1) v ∧ lvB n m Q E (R + 1) v ≤ ((R + 1 : Nat) : Int) := k
      show 0 ≤ lvB n m Q E (R + 1) v ∧ lvB n m Q E (R + 1) v < 5000
      push_cast at k'
      omega
  · intro u v ha hu
    have hun := (ha.lt hI).1
    have hu1 := (lvB_old n m Q E hI R u (hsame u hun)).1
    have hu' : lvB n m Q E (R + 1) u ≠ 18446744073709551615 := hu
    rcases h0.a u hun with k | k
    · rw [hu1] at hu'; exact absurd k hu'
    · exact h.e u v ha hu (by rw [hu1]; push_cast; omega)
end
end Wp
end Go.Proofs.Ytlhpnhjfibkgpab
