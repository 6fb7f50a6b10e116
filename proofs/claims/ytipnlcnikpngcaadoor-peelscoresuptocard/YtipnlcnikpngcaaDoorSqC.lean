import Derived.Test.YtipnlcnikpngcaaDoorSqB
namespace Go.Proofs.YtipnlcnikpngcaaDoor
namespace Wp
open Go.RowKit
set_option linter.unusedVariables false
set_option maxRecDepth 8000
theorem least_of (P : Nat → Prop) (K : Nat) (h : ∃ R, R ≤ K ∧ P R) : ∃ R, R ≤ K ∧ P R ∧ ∀ r, r < R → ¬ P r := by
  induction K with
  | zero => obtain ⟨R, h1, h2⟩ := h; exact ⟨R, h1, h2, fun r hr => by omega⟩
  | succ K ih =>
    by_cases e : ∃ R, R ≤ K ∧ P R
    · obtain ⟨R, h1, h2, h3⟩ := ih e; exact ⟨R, by omega, h2, h3⟩
    · obtain ⟨R, h1, h2⟩ := h
      refine ⟨R, h1, h2, fun r hr hp => e ⟨r, by omega, hp⟩⟩
section
variable {N A C : Nat} {E : Nat → Int × Int × Int} {m : Nat}
theorem rst_S (hI : EIn N m E) (h0 : 0 < N) (hN : N ≤ 1000) (hg : Nat.gcd N A = 1) (par : Nat → Bool) {M : Nat → Prop} (hM : Mis E m N (pr N A C) M) (r : Nat) : SInv E m N M (rst (gS N A C) E m N par r).2 := by
  induction r with
  | zero =>
    have e : ∀ v, (rst (gS N A C) E m N par 0).2 v = w5 0 0 all64 0 0 := fun _ => rfl
    refine ⟨fun v _ => ?_, fun v _ => ?_, fun v _ => ?_, fun v _ h => ?_, fun v _ h => ?_, fun v w _ _ h => ?_⟩
    · rw [e]; exact Or.inl rfl
    · rw [e]; rfl
    · rw [e]; rfl
    · rw [e, w5_1] at h; exact absurd h (by decide)
    · rw [e, w5_1] at h; exact absurd h (by decide)
    · rw [e, w5_1] at h; exact absurd h (by decide)
  | succ r ih => exact inv_S hI h0 hN hg _ hM ih
theorem dn_S (hN : N ≤ 1000) (par : Nat → Bool) (r : Nat) : dn (gS N A C) E m N par r = ((cw (rst (gS N A C) E m N par (r + 1)).2 N : Int) == 0) := by
  show (fs (gS N A C) (rst (gS N A C) E m N par (r + 1)).2 N 0 == 0) = _
  rw [fs_cw _ N hN]
theorem run_S (hI : EIn N m E) (h0 : 0 < N) (hN : N ≤ 1000) (hg : Nat.gcd N A = 1) (par : Nat → Bool) {M : Nat → Prop} (hM : Mis E m N (pr N A C) M) :
    ∃ R, 1 ≤ R ∧ R ≤ N ∧ (∀ r, r + 1 < R → dn (gS N A C) E m N par r = false) ∧ dn (gS N A C) E m N par (R - 1) = true ∧ ∀ v, v < N → (M v → (rst (gS N A C) E m N par R).2 v 0 = 1) ∧ (¬ M v → (rst (gS N A C) E m N par R).2 v 0 = 0) := by
  have hd : ∀ r, cw (rst (gS N A C) E m N par r).2 N ≠ 0 → cw (rst (gS N A C) E m N par (r + 1)).2 N < cw (rst (gS N A C) E m N par r).2 N :=
    fun r hr => less_S hI h0 hN hg _ (rst_S hI h0 hN hg par hM r) hr
  have hex : ∃ R, R ≤ N ∧ cw (rst (gS N A C) E m N par R).2 N = 0 := by
    refine Classical.byContradiction fun hc => ?_
    have key : ∀ r, r ≤ N → cw (rst (gS N A C) E m N par r).2 N + r ≤ N := by
      intro r
      induction r with
      | zero => intro _; exact cw_le _ _
      | succ r ih =>
        intro hr
        have h1 := ih (by omega)
        have h2 := hd r (fun e => hc ⟨r, by omega, e⟩)
        omega
    have h := key N (Nat.le_refl _)
    exact hc ⟨N, Nat.le_refl _, by omega⟩
  obtain ⟨R, hR, hz, hl⟩ := least_of _ N hex
  have h1 : 1 ≤ R := by
    rcases Nat.eq_zero_or_pos R with e | e
    · subst e
      exact absurd rfl ((cw_zero _ N).1 hz 0 h0)
    · exact e
  refine ⟨R, h1, hR, fun r hr => ?_, ?_, fun v hv => ?_⟩
  · rw [dn_S hN]
    have := hl (r + 1) hr
    simp; omega
  · rw [dn_S hN, show R - 1 + 1 = R by omega, hz]; rfl
  · have hi := rst_S hI h0 hN hg par hM R
    have hw := (cw_zero _ N).1 hz v hv
    rcases hi.one v hv with k | k | k
    · exact absurd k hw
    · have h := hi.news v hv k
      exact ⟨fun _ => h.1, fun hn => absurd h.2 hn⟩
    · rcases hi.told v hv k with h | h
      · exact ⟨fun _ => h.1, fun hn => absurd h.2 hn⟩
      · exact ⟨fun hm => absurd hm h.2, fun _ => h.1⟩
/-- A vertex is in just if no neighbour is. -/
theorem mis_max (hg : Nat.gcd N A = 1) {M : Nat → Prop} (hM : Mis E m N (pr N A C) M) (v : Nat) (hv : v < N) : M v ↔ ∀ w, w < N → Adj E m v w → ¬ M w := by
  constructor
  · intro h w hw ha
    exact mis_indep hM (fun v w hv hw e => pr_inj hg hv hw e) hv hw ha h
  · intro h
    exact (hM v hv).2 (fun w hw ha _ => h w hw ha)
end
end Wp
end Go.Proofs.YtipnlcnikpngcaaDoor
