import Derived.Test.YtlhpnhjfibkgpabNeE
import Derived.Test.YtlhpnhjfibkgpabWqD
namespace Go.Proofs.Ytlhpnhjfibkgpab
namespace Wp
open Go.RowKit
set_option linter.unusedVariables false
theorem brAp_yes (c t : Nat → Int) (h1 : t 0 = 18446744073709551615) (h2 : t 2 ≠ 18446744073709551615) : brAp c t = (up (up t 0 (c 0 + 1)) 1 (t 2), true) := by unfold brAp; rw [if_pos ⟨h1, h2⟩]
theorem brAp_no (c t : Nat → Int) (h : ¬ (t 0 = 18446744073709551615 ∧ t 2 ≠ 18446744073709551615)) : brAp c t = (t, false) := by unfold brAp; rw [if_neg h]
section
variable (n m : Nat) (Q : List Nat) (E : Nat → Int × Int × Int)
def lvB (r v : Nat) : Int := (rn (gB n Q) E m n r).2 v 0
def paB (r v : Nat) : Int := (rn (gB n Q) E m n r).2 v 1
def miB (r v : Nat) : Int := (rn (gB n Q) E m n r).2 v 2
def gaB (r v : Nat) : Int := eds (gB n Q) (rn (gB n Q) E m n r).1 (rn (gB n Q) E m n r).2 E m v 2
/-- v is found in round r + 1. -/
def nwB (r v : Nat) : Prop := lvB n m Q E r v = 18446744073709551615 ∧ gaB n m Q E r v ≠ 18446744073709551615
theorem ctl_b (r : Nat) : (rn (gB n Q) E m n r).1 0 = r := by
  cases r with
  | zero => rfl
  | succ r =>
    show ctlN (rn (gB n Q) E m n r).1 ((r : Int) + 1) 0 = _
    unfold ctlN; rw [up_eq]; push_cast; rfl
theorem gtB_r (hI : EIn n m E) (r : Nat) : GtB (rn (gB n Q) E m n r).1 (rn (gB n Q) E m n r).2 (eds (gB n Q) (rn (gB n Q) E m n r).1 (rn (gB n Q) E m n r).2 E m) E m := gtB_all n Q n m _ _ E hI m (Nat.le_refl _)
theorem nx_br (r v j : Nat) (hj : j < 3) : (rn (gB n Q) E m n (r + 1)).2 v j = (brAp (rn (gB n Q) E m n r).1 (eds (gB n Q) (rn (gB n Q) E m n r).1 (rn (gB n Q) E m n r).2 E m v)).1 j := by
  show ct (brAp _ _).1 3 j = _
  rw [ct_lt _ _ hj]
theorem lvB_new (hI : EIn n m E) (r v : Nat) (h : nwB n m Q E r v) : lvB n m Q E (r + 1) v = r + 1 ∧ paB n m Q E (r + 1) v = gaB n m Q E r v ∧ miB n m Q E (r + 1) v = gaB n m Q E r v := by
  have hg := gtB_r n m Q E hI r
  have e := brAp_yes (rn (gB n Q) E m n r).1 (eds (gB n Q) (rn (gB n Q) E m n r).1 (rn (gB n Q) E m n r).2 E m v) (by rw [hg.w0 v]; exact h.1) h.2
  refine ⟨?_, ?_, ?_⟩
  · show (rn (gB n Q) E m n (r + 1)).2 v 0 = _
    rw [nx_br n m Q E r v 0 (by decide), e]
    dsimp only
    rw [up_ne _ 1 0 _ (by decide), up_eq, ctl_b]
  · show (rn (gB n Q) E m n (r + 1)).2 v 1 = _
    rw [nx_br n m Q E r v 1 (by decide), e]
    dsimp only
    rw [up_eq]; rfl
  · show (rn (gB n Q) E m n (r + 1)).2 v 2 = _
    rw [nx_br n m Q E r v 2 (by decide), e]
    dsimp only
    rw [up_ne _ 1 2 _ (by decide), up_ne _ 0 2 _ (by decide)]; rfl
theorem lvB_old (hI : EIn n m E) (r v : Nat) (h : ¬ nwB n m Q E r v) : lvB n m Q E (r + 1) v = lvB n m Q E r v ∧ paB n m Q E (r + 1) v = paB n m Q E r v ∧ miB n m Q E (r + 1) v = gaB n m Q E r v := by
  have hg := gtB_r n m Q E hI r
  have e := brAp_no (rn (gB n Q) E m n r).1 (eds (gB n Q) (rn (gB n Q) E m n r).1 (rn (gB n Q) E m n r).2 E m v) (fun k => h ⟨by rw [hg.w0 v] at k; exact k.1, k.2⟩)
  refine ⟨?_, ?_, ?_⟩
  · show (rn (gB n Q) E m n (r + 1)).2 v 0 = _
    rw [nx_br n m Q E r v 0 (by decide), e]; exact hg.w0 v
  · show (rn (gB n Q) E m n (r + 1)).2 v 1 = _
    rw [nx_br n m Q E r v 1 (by decide), e]; exact hg.w1 v
  · show (rn (gB n Q) E m n (r + 1)).2 v 2 = _
    rw [nx_br n m Q E r v 2 (by decide), e]; rfl
theorem chgB (hI : EIn n m E) (r v : Nat) : (chg (gB n Q) (rn (gB n Q) E m n r).1 (rn (gB n Q) E m n r).2 E m (v + 1) = chg (gB n Q) (rn (gB n Q) E m n r).1 (rn (gB n Q) E m n r).2 E m v + 1 ∧ nwB n m Q E r v) ∨ (chg (gB n Q) (rn (gB n Q) E m n r).1 (rn (gB n Q) E m n r).2 E m (v + 1) = chg (gB n Q) (rn (gB n Q) E m n r).1 (rn (gB n Q) E m n r).2 E m v ∧ ¬ nwB n m Q E r v) := by
  have hg := gtB_r n m Q E hI r
  by_cases h : nwB n m Q E r v
  · left
    refine ⟨?_, h⟩
    show _ + (if (brAp _ _).2 = true then 1 else 0) = _
    have e := brAp_yes (rn (gB n Q) E m n r).1 (eds (gB n Q) (rn (gB n Q) E m n r).1 (rn (gB n Q) E m n r).2 E m v) (by rw [hg.w0 v]; exact h.1) h.2
    rw [e, if_pos rfl]
  · right
    refine ⟨?_, h⟩
    show _ + (if (brAp _ _).2 = true then 1 else 0) = _
    have e := brAp_no (rn (gB n Q) E m n r).1 (eds (gB n Q) (rn (gB n Q) E m n r).1 (rn (gB n Q) E m n r).2 E m v) (fun k => h ⟨by rw [hg.w0 v] at k; exact k.1, k.2⟩)
    rw [e, if_neg (by simp)]
    rfl
theorem chgB_zero (hI : EIn n m E) (r k : Nat) (h : chg (gB n Q) (rn (gB n Q) E m n r).1 (rn (gB n Q) E m n r).2 E m k = 0) : ∀ v, v < k → ¬ nwB n m Q E r v := by
  induction k with
  | zero => intro v hv; omega
  | succ k ih =>
    intro v hv
    rcases chgB n m Q E hI r k with ⟨a, b⟩ | ⟨a, b⟩
    · omega
    · by_cases hk : v < k
      · exact ih (by omega) v hk
      · rw [show v = k by omega]; exact b
theorem chgB_pos (hI : EIn n m E) (r k : Nat) (h : chg (gB n Q) (rn (gB n Q) E m n r).1 (rn (gB n Q) E m n r).2 E m k ≠ 0) : ∃ v, v < k ∧ nwB n m Q E r v := by
  induction k with
  | zero => exact absurd rfl h
  | succ k ih =>
    rcases chgB n m Q E hI r k with ⟨a, b⟩ | ⟨a, b⟩
    · exact ⟨k, by omega, b⟩
    · obtain ⟨v, hv, h2⟩ := ih (by omega)
      exact ⟨v, by omega, h2⟩
/-- What holds behind r rounds. -/
structure IvB (r : Nat) : Prop where
  a : ∀ v, v < n → lvB n m Q E r v = 18446744073709551615 ∨ (0 ≤ lvB n m Q E r v ∧ lvB n m Q E r v ≤ r)
  z : ∀ v, v < n → (lvB n m Q E r v = 0 ↔ v ∈ Q)
  c : ∀ v, v < n → lvB n m Q E r v = 18446744073709551615 → paB n m Q E r v = 18446744073709551615 ∧ miB n m Q E r v = 18446744073709551615
  d : ∀ v, v < n → v ∉ Q → lvB n m Q E r v ≠ 18446744073709551615 → ∃ u : Nat, Arc E m u v ∧ lvB n m Q E r u = lvB n m Q E r v - 1 ∧ paB n m Q E r v = paB n m Q E r u ∧ ∀ u' : Nat, Arc E m u' v → lvB n m Q E r u' = lvB n m Q E r v - 1 → paB n m Q E r u ≤ paB n m Q E r u'
  e : ∀ u v, Arc E m u v → lvB n m Q E r u ≠ 18446744073709551615 → lvB n m Q E r u < r → lvB n m Q E r v ≠ 18446744073709551615 ∧ lvB n m Q E r v ≤ lvB n m Q E r u + 1
  p : ∀ v, v < n → v ∈ Q → paB n m Q E r v = v
  q : ∀ v, v < n → lvB n m Q E r v ≠ 18446744073709551615 → 0 ≤ paB n m Q E r v ∧ paB n m Q E r v < 1000
theorem start0 (v : Nat) : (v ∈ Q → lvB n m Q E 0 v = 0 ∧ paB n m Q E 0 v = v ∧ miB n m Q E 0 v = 18446744073709551615) ∧ (v ∉ Q → lvB n m Q E 0 v = 18446744073709551615 ∧ paB n m Q E 0 v = 18446744073709551615 ∧ miB n m Q E 0 v = 18446744073709551615) := by
  have hv : ((v : Int)).toNat = v := rfl
  refine ⟨fun h => ⟨?_, ?_, ?_⟩, fun h => ⟨?_, ?_, ?_⟩⟩
  · show ct (brStart Q v) 3 0 = _
    rw [ct_lt _ _ (by decide)]; unfold brStart; rw [hv, if_pos h]; simp [up]
  · show ct (brStart Q v) 3 1 = _
    rw [ct_lt _ _ (by decide)]; unfold brStart; rw [hv, if_pos h]; simp [up]
  · show ct (brStart Q v) 3 2 = _
    rw [ct_lt _ _ (by decide)]; unfold brStart; rw [hv, if_pos h]; simp [up]
  · show ct (brStart Q v) 3 0 = _
    rw [ct_lt _ _ (by decide)]; unfold brStart; rw [hv, if_neg h]; simp [up]
  · show ct (brStart Q v) 3 1 = _
    rw [ct_lt _ _ (by decide)]; unfold brStart; rw [hv, if_neg h]; simp [up]
  · show ct (brStart Q v) 3 2 = _
    rw [ct_lt _ _ (by decide)]; unfold brStart; rw [hv, if_neg h]; simp [up]
theorem ivB_all (hn : n ≤ 1000) (hI : EIn n m E) : ∀ r, r ≤ 5000 → IvB n m Q E r := by
  intro r
  induction r with
  | zero =>
    intro _
    refine ⟨fun v hv => ?_, fun v hv => ?_, fun v hv h => ?_, fun v hv hne h => ?_, fun u v ha hu hlt => ?_, fun v hv hq => ?_, fun v hv h => ?_⟩
    · by_cases e : v ∈ Q
      · right; rw [((start0 n m Q E v).1 e).1]; omega
      · left; exact ((start0 n m Q E v).2 e).1
    · by_cases e : v ∈ Q
      · exact ⟨fun _ => e, fun _ => ((start0 n m Q E v).1 e).1⟩
      · exact ⟨fun h => by rw [((start0 n m Q E v).2 e).1] at h; omega, fun h => absurd h e⟩
    · by_cases e : v ∈ Q
      · rw [((start0 n m Q E v).1 e).1] at h; omega
      · exact ((start0 n m Q E v).2 e).2
    · exact absurd ((start0 n m Q E v).2 hne).1 h
    · by_cases e : u ∈ Q
      · rw [((start0 n m Q E u).1 e).1] at hlt; omega
      · exact absurd ((start0 n m Q E u).2 e).1 hu
    · exact ((start0 n m Q E v).1 hq).2.1
    · by_cases e : v ∈ Q
      · rw [((start0 n m Q E v).1 e).2.1]; omega
      · exact absurd ((start0 n m Q E v).2 e).1 h
  | succ r ih =>
    intro hr
    have h := ih (by omega)
    have hg := gtB_r n m Q E hI r
    have hsn : ∀ v, v < n → v ∈ Q → ¬ nwB n m Q E r v := fun v hv hq k => by have := k.1; have := (h.z v hv).2 hq; omega
    have hold : ∀ v, lvB n m Q E r v ≠ 18446744073709551615 → lvB n m Q E (r + 1) v = lvB n m Q E r v ∧ paB n m Q E (r + 1) v = paB n m Q E r v := fun v hv => by
      have := lvB_old n m Q E hI r v (fun k => hv k.1)
      exact ⟨this.1, this.2.1⟩
    have hback : ∀ v, v < n → lvB n m Q E (r + 1) v ≠ 18446744073709551615 → lvB n m Q E (r + 1) v ≤ r → lvB n m Q E r v = lvB n m Q E (r + 1) v := fun v hv h1 h2 => by
      by_cases e : nwB n m Q E r v
      · have := (lvB_new n m Q E hI r v e).1; omega
      · exact (lvB_old n m Q E hI r v e).1.symm
    have hnew : ∀ v, v < n → nwB n m Q E r v → ∃ u : Nat, Arc E m u v ∧ lvB n m Q E r u = r ∧ gaB n m Q E r v = paB n m Q E r u := fun v hv e => by
      rcases hg.frm v with k | ⟨u, ha, hsu, k⟩
      · have k' : gaB n m Q E r v = miB n m Q E r v := k
        rw [(h.c v hv e.1).2] at k'
        exact absurd k' e.2
      · rw [ctl_b] at hsu
        exact ⟨u, ha, hsu, k⟩
    have hq : ∀ v, v < n → lvB n m Q E (r + 1) v ≠ 18446744073709551615 → 0 ≤ paB n m Q E (r + 1) v ∧ paB n m Q E (r + 1) v < 1000 := fun v hv hU => by
      by_cases e : nwB n m Q E r v
      · obtain ⟨u, ha, hu, hk⟩ := hnew v hv e
        rw [(lvB_new n m Q E hI r v e).2.1, hk]
        exact h.q u (ha.lt hI).1 (by omega)
      · obtain ⟨o1, o2, _⟩ := lvB_old n m Q E hI r v e
        rw [o1] at hU
        rw [o2]; exact h.q v hv hU
    refine ⟨fun v hv => ?_, fun v hv => ?_, fun v hv hU => ?_, fun v hv hne hU => ?_, fun u v ha hu hlt => ?_, fun v hv hqv => ?_, hq⟩
    · by_cases e : nwB n m Q E r v
      · right; rw [(lvB_new n m Q E hI r v e).1]; push_cast; omega
      · rw [(lvB_old n m Q E hI r v e).1]
        rcases h.a v hv with k | k
        · exact Or.inl k
        · right; push_cast; omega
    · by_cases e : nwB n m Q E r v
      · rw [(lvB_new n m Q E hI r v e).1]
        exact ⟨fun k => by omega, fun k => absurd e (hsn v hv k)⟩
      · rw [(lvB_old n m Q E hI r v e).1]; exact h.z v hv
    · by_cases e : nwB n m Q E r v
      · rw [(lvB_new n m Q E hI r v e).1] at hU; omega
      · obtain ⟨o1, o2, o3⟩ := lvB_old n m Q E hI r v e
        rw [o1] at hU
        have hga : gaB n m Q E r v = 18446744073709551615 := Classical.byContradiction fun k => e ⟨hU, k⟩
        exact ⟨by rw [o2]; exact (h.c v hv hU).1, by rw [o3]; exact hga⟩
    · by_cases e : nwB n m Q E r v
      · obtain ⟨o1, o2, o3⟩ := lvB_new n m Q E hI r v e
        obtain ⟨u, ha, hsu, k'⟩ := hnew v hv e
        have hpu := (hold u (by omega)).2
        refine ⟨u, ha, ?_, by rw [o2, hpu]; exact k', fun u' ha' hl => ?_⟩
        · rw [(hold u (by omega)).1, o1, hsu]; omega
        · rw [o1] at hl
          have hb' := hback u' (ha'.lt hI).1 (by omega) (by omega)
          have h3 := hg.sent u' v ha' (by rw [ctl_b]; show lvB n m Q E r u' = r; omega)
          have h3' : gaB n m Q E r v ≤ paB n m Q E r u' := h3
          rw [hpu, (hold u' (by omega)).2]
          omega
      · obtain ⟨o1, o2, o3⟩ := lvB_old n m Q E hI r v e
        rw [o1] at hU
        obtain ⟨u, ha, hl, hp, hmin⟩ := h.d v hv hne hU
        have hb : 0 ≤ lvB n m Q E r v ∧ lvB n m Q E r v ≤ r := by rcases h.a v hv with k | k; exact absurd k hU; exact k
        have hz : lvB n m Q E r v ≠ 0 := fun k => hne ((h.z v hv).1 k)
        have hpu := (hold u (by omega)).2
        refine ⟨u, ha, ?_, by rw [o2, hpu]; exact hp, fun u' ha' hl' => ?_⟩
        · rw [(hold u (by omega)).1, o1]; exact hl
        · rw [o1] at hl'
          have hb' := hback u' (ha'.lt hI).1 (by omega) (by omega)
          rw [hpu, (hold u' (by omega)).2]
          exact hmin u' ha' (by rw [hb']; exact hl')
    · have hul := hback u (ha.lt hI).1 hu (by push_cast at hlt; omega)
      rw [← hul] at hu ⊢
      by_cases e2 : lvB n m Q E r u < r
      · obtain ⟨k1, k2⟩ := h.e u v ha hu e2
        rw [(hold v k1).1]; exact ⟨k1, k2⟩
      · have hur : lvB n m Q E r u = r := by push_cast at hlt; omega
        have h3 := hg.sent u v ha (by rw [ctl_b]; exact hur)
        have h3' : gaB n m Q E r v ≤ paB n m Q E r u := h3
        have hun := (ha.lt hI).1
        have hqu := h.q u hun hu
        by_cases e : lvB n m Q E r v = 18446744073709551615
        · have hnw : nwB n m Q E r v := ⟨e, by omega⟩
          rw [(lvB_new n m Q E hI r v hnw).1]; omega
        · rw [(hold v e).1]
          rcases h.a v (ha.lt hI).2 with k | k
          · exact absurd k e
          · exact ⟨e, by omega⟩
    · rw [(hold v (by have := (h.z v hv).2 hqv; omega)).2]; exact h.p v hv hqv
end
end Wp
end Go.Proofs.Ytlhpnhjfibkgpab
