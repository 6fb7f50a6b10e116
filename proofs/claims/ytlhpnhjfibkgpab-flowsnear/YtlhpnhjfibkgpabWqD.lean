import Derived.Test.YtlhpnhjfibkgpabWqC
namespace Go.Proofs.Ytlhpnhjfibkgpab
namespace Wp
open Go.RowKit
set_option linter.unusedVariables false
theorem least (p : Nat → Bool) : ∀ k, p k = true → ∃ R, R ≤ k ∧ p R = true ∧ ∀ r, r < R → p r = false := by
  intro k
  induction k using Nat.strongRecOn with
  | _ k ih =>
    intro h
    by_cases e : ∃ j, j < k ∧ p j = true
    · obtain ⟨j, hj, hp⟩ := e
      obtain ⟨R, h1, h2, h3⟩ := ih j hj hp
      exact ⟨R, by omega, h2, h3⟩
    · refine ⟨k, Nat.le_refl _, h, fun r hr => ?_⟩
      cases hp : p r
      · rfl
      · exact absurd ⟨r, hr, hp⟩ e
theorem fs_lab (n : Int) (S : Nat → Nat → Int) (v : Nat) : 0 ≤ fs (gL n) S v 0 ∧ fs (gL n) S v 0 ≤ v := by
  induction v with
  | zero => exact ⟨Int.le_refl _, Int.le_refl _⟩
  | succ v ih =>
    show 0 ≤ labFo (fs (gL n) S v) v (S v) 0 ∧ labFo (fs (gL n) S v) v (S v) 0 ≤ _
    unfold labFo
    split
    · rw [up_eq]; push_cast; omega
    · push_cast; omega
/-- What WCC ends with. -/
structure Wcc (n m : Nat) (E : Nat → Int × Int × Int) (F : Nat → Int) : Prop where
  b : ∀ v, v < n → 0 ≤ F v ∧ F v ≤ v
  e : ∀ u v, Adj E m u v → F u = F v
  f : ∀ f : Int → Int, (∀ u v : Nat, Adj E m u v → f u = f v) → ∀ v, v < n → f (F v) = f v
theorem Wcc.root {n m : Nat} {E : Nat → Int × Int × Int} {F : Nat → Int} (h : Wcc n m E F) (v : Nat) (hv : v < n) : F (F v).toNat = F v := by
  have := h.f (fun x => F x.toNat) (fun u v ha => by simp only [Int.toNat_natCast]; exact h.e u v ha) v hv
  simpa using this
theorem wcc_end (n m : Nat) (E : Nat → Int × Int × Int) (h1 : 1 ≤ n) (hn : n ≤ 1000) (hI : EIn n m E) : ∃ R, R < n ∧ Fine (gL n) E m n R ∧ Wcc n m E (fun v => (rn (gL n) E m n (R + 1)).2 v 0) := by
  have hdn : ∀ r, dn (gL n) E m n r = (((chg (gL n) (rn (gL n) E m n r).1 (rn (gL n) E m n r).2 E m n : Nat) : Int) == 0 || decide ((n : Int) ≤ (rn (gL n) E m n r).1 0)) := fun r => rfl
  have hlast : dn (gL n) E m n (n - 1) = true := by
    rw [hdn]
    have : chg (gL n) (rn (gL n) E m n (n - 1)).1 (rn (gL n) E m n (n - 1)).2 E m n = 0 := by
      apply Classical.byContradiction
      intro e
      obtain ⟨v, hv, h2⟩ := chg_pos n m E hI (n - 1) n e
      have := late n m E hn hI (n - 1) v hv h2
      omega
    rw [this]; rfl
  obtain ⟨R, hR, hy, hno⟩ := least (dn (gL n) E m n) (n - 1) hlast
  have hch : chg (gL n) (rn (gL n) E m n R).1 (rn (gL n) E m n R).2 E m n = 0 := by
    rw [hdn, ctl_r] at hy
    have e : decide ((n : Int) ≤ ((R : Nat) : Int)) = false := by simp; omega
    rw [e, Bool.or_false] at hy
    have := eq_of_beq hy
    omega
  have hsame := chg_zero n m E hI R n hch
  refine ⟨R, by omega, ⟨fun r hr => by rw [ctl_r]; omega, fun r hr i hi => ⟨trivial, trivial⟩, fun r hr v hv => by have := fs_lab n (rn (gL n) E m n r).2 v; omega, hno, hy⟩, ?_, ?_, ?_⟩
  · intro v hv
    have := (iv_all n m E hn hI (R + 1)).b v hv
    exact this
  · have hle : ∀ u v, Adj E m u v → lb n m E (R + 1) v ≤ lb n m E (R + 1) u := fun u v ha => by
      have hi := iv_all n m E hn hI (R + 1)
      rcases hi.s u v ha with e | e
      · exact Int.le_trans (hi.g v (ha.lt hI).2) e
      · rw [tiS n m E hI, if_neg (hsame u (ha.lt hI).1)] at e
        have := (iv_all n m E hn hI R).t u
        push_cast at e
        omega
    intro u v ha
    exact Int.le_antisymm (hle v u ha.symm) (hle u v ha)
  · intro f hf
    have : ∀ r v, v < n → f (lb n m E r v) = f v := by
      intro r
      induction r with
      | zero => intro v hv; rw [lb0]
      | succ r ih =>
        intro v hv
        rw [lbS n m E hI]
        split
        · rename_i hlt
          rcases (gt_r n m E hI r).frm v with e | ⟨u, ha, hs, e⟩
          · have := (iv_all n m E hn hI r).g v hv
            have e' : ga n m E r v = mi n m E r v := e
            omega
          · have e' : ga n m E r v = lb n m E r u := e
            rw [e', ih u (ha.lt hI).1]
            exact hf u v ha
        · exact ih v hv
    exact fun v hv => this (R + 1) v hv
end Wp
end Go.Proofs.Ytlhpnhjfibkgpab
