import Derived.Test.YtipnlcnikpngcaaDoorSqA
namespace Go.Proofs.YtipnlcnikpngcaaDoor
namespace Wp
open Go.RowKit
set_option linter.unusedVariables false
set_option maxRecDepth 8000
/-- What holds between two rounds of Set. -/
structure SInv (E : Nat → Int × Int × Int) (m n : Nat) (M : Nat → Prop) (S : Nat → Nat → Int) : Prop where
  one : ∀ v, v < n → S v 1 = 0 ∨ S v 1 = 1 ∨ S v 1 = 2
  two : ∀ v, v < n → S v 2 = all64
  three : ∀ v, v < n → S v 3 = 0
  news : ∀ v, v < n → S v 1 = 1 → S v 0 = 1 ∧ M v
  told : ∀ v, v < n → S v 1 = 2 → (S v 0 = 1 ∧ M v) ∨ (S v 0 = 0 ∧ ¬ M v)
  free : ∀ v w, v < n → w < n → S v 1 = 2 → M v → Adj E m v w → S w 1 ≠ 0
theorem w5_0 (a b c d e : Int) : w5 a b c d e 0 = a := rfl
theorem w5_1 (a b c d e : Int) : w5 a b c d e 1 = b := rfl
theorem w5_2 (a b c d e : Int) : w5 a b c d e 2 = c := rfl
theorem w5_3 (a b c d e : Int) : w5 a b c d e 3 = d := rfl
theorem w5_4 (a b c d e : Int) : w5 a b c d e 4 = e := rfl
/-- What a vertex has gathered behind a round's scatter. -/
theorem got_S {N A C : Nat} {c : Nat → Int} {S : Nat → Nat → Int} {E : Nat → Int × Int × Int} {m : Nat} (hI : EIn N m E) (h0 : 0 < N) (hN : N ≤ 1000) (p : Bool) {M : Nat → Prop} (h : SInv E m N M S) (v : Nat) (hv : v < N) :
    (gat (gS N A C) S (ord p (us (gS N A C) c S E m)) v 0 = S v 0 ∧ gat (gS N A C) S (ord p (us (gS N A C) c S E m)) v 1 = S v 1 ∧ (((pr N A C v : Nat) : Int) < gat (gS N A C) S (ord p (us (gS N A C) c S E m)) v 2 ↔ ∀ w, w < N → Adj E m v w → S w 1 = 0 → pr N A C v < pr N A C w) ∧ (gat (gS N A C) S (ord p (us (gS N A C) c S E m)) v 3 = 0 ↔ ∀ w, w < N → Adj E m v w → S w 1 ≠ 1)) := by
  have hb : ∀ u ∈ ord p (us (gS N A C) c S E m), u.2.2 = 0 ∨ u.2.2 = 1 := by
    rintro ⟨x, a, b⟩ hu
    rw [mem_ord, us_mem hI x a b m (Nat.le_refl _)] at hu
    obtain ⟨w, _, _, h | h⟩ := hu
    · exact Or.inl h.2.2
    · exact Or.inr h.2.2
  obtain ⟨k0, k1, k2, k3⟩ := gat_S (N := N) (A := A) (C := C) (ord p (us (gS N A C) c S E m)) S v (Or.inl (h.three v hv)) hb
  refine ⟨k0, k1, ?_, ?_⟩
  · rw [k2]
    have hpv := pr_lt N A C v h0
    constructor
    · rintro ⟨_, q⟩ w hw ha h1
      have := q (v, ((pr N A C w : Nat) : Int), 0) (by rw [mem_ord, us_mem hI v _ _ m (Nat.le_refl _)]; exact ⟨w, hw, ha, Or.inl ⟨h1, rfl, rfl⟩⟩) rfl
      dsimp only at this
      omega
    · intro q
      refine ⟨by rw [h.two v hv]; show ((pr N A C v : Nat) : Int) < 18446744073709551615; omega, ?_⟩
      rintro ⟨x, a, b⟩ hu hx
      dsimp only at hx ⊢
      subst hx
      rw [mem_ord, us_mem hI x a b m (Nat.le_refl _)] at hu
      obtain ⟨w, hw, ha, ⟨h1, h2, _⟩ | ⟨h1, h2, _⟩⟩ := hu
      · have := q w hw ha h1; omega
      · rw [h2]; show ((pr N A C x : Nat) : Int) < 18446744073709551615; omega
  · rw [k3]
    constructor
    · rintro ⟨_, q⟩ w hw ha h1
      have := q (v, all64, 1) (by rw [mem_ord, us_mem hI v _ _ m (Nat.le_refl _)]; exact ⟨w, hw, ha, Or.inr ⟨h1, rfl, rfl⟩⟩) rfl
      exact absurd this (show ¬ (1 : Int) = 0 by decide)
    · intro q
      refine ⟨h.three v hv, ?_⟩
      rintro ⟨x, a, b⟩ hu hx
      dsimp only at hx ⊢
      subst hx
      rw [mem_ord, us_mem hI x a b m (Nat.le_refl _)] at hu
      obtain ⟨w, hw, ha, ⟨h1, h2, h3⟩ | ⟨h1, h2, h3⟩⟩ := hu
      · exact h3
      · exact absurd h1 (q w hw ha)
/-- A vertex behind a round. -/
theorem step_S {N A C : Nat} {c : Nat → Int} {S : Nat → Nat → Int} {E : Nat → Int × Int × Int} {m : Nat} (hI : EIn N m E) (h0 : 0 < N) (hN : N ≤ 1000) (p : Bool) {M : Nat → Prop} (h : SInv E m N M S) (v : Nat) (hv : v < N) :
    (S v 1 ≠ 0 → nxS (gS N A C) c S E m p v = w5 (S v 0) 2 all64 0 0) ∧
    (S v 1 = 0 → (∃ w, w < N ∧ Adj E m v w ∧ S w 1 = 1) → nxS (gS N A C) c S E m p v = w5 0 2 all64 0 0) ∧
    (S v 1 = 0 → (∀ w, w < N → Adj E m v w → S w 1 ≠ 1) → (∀ w, w < N → Adj E m v w → S w 1 = 0 → pr N A C v < pr N A C w) → nxS (gS N A C) c S E m p v = w5 1 1 all64 0 0) ∧
    (S v 1 = 0 → (∀ w, w < N → Adj E m v w → S w 1 ≠ 1) → ¬ (∀ w, w < N → Adj E m v w → S w 1 = 0 → pr N A C v < pr N A C w) → nxS (gS N A C) c S E m p v = w5 0 0 all64 0 0) := by
  obtain ⟨k0, k1, k2, k3⟩ := got_S (A := A) (C := C) (c := c) hI h0 hN p h v hv
  have e : nxS (gS N A C) c S E m p v = (setAp N A C v (gat (gS N A C) S (ord p (us (gS N A C) c S E m)) v)).1 := rfl
  rw [e]
  generalize gat (gS N A C) S (ord p (us (gS N A C) c S E m)) v = g at k0 k1 k2 k3
  unfold setAp
  rw [k1, k0]
  refine ⟨fun q => by rw [if_neg q], fun q ⟨w, hw, ha, h1⟩ => ?_, fun q q1 q2 => ?_, fun q q1 q2 => ?_⟩
  · rw [if_pos q, if_neg (fun h3 => (k3.1 h3) w hw ha h1)]
  · rw [if_pos q, if_pos (k3.2 q1), if_pos (k2.2 q2)]
  · rw [if_pos q, if_pos (k3.2 q1), if_neg (fun h2 => q2 (k2.1 h2))]
theorem inv_S {N A C : Nat} {c : Nat → Int} {S : Nat → Nat → Int} {E : Nat → Int × Int × Int} {m : Nat} (hI : EIn N m E) (h0 : 0 < N) (hN : N ≤ 1000) (hg : Nat.gcd N A = 1) (p : Bool) {M : Nat → Prop} (hM : Mis E m N (pr N A C) M) (h : SInv E m N M S) : SInv E m N M (nxS (gS N A C) c S E m p) := by
  have inj : ∀ v w, v < N → w < N → pr N A C v = pr N A C w → v = w := fun v w hv hw e => pr_inj hg hv hw e
  -- what each vertex may be
  have all : ∀ v, v < N → (S v 1 ≠ 0 ∧ nxS (gS N A C) c S E m p v = w5 (S v 0) 2 all64 0 0) ∨ (S v 1 = 0 ∧ ¬ M v ∧ nxS (gS N A C) c S E m p v = w5 0 2 all64 0 0) ∨ (S v 1 = 0 ∧ M v ∧ nxS (gS N A C) c S E m p v = w5 1 1 all64 0 0) ∨ (S v 1 = 0 ∧ (∀ w, w < N → Adj E m v w → S w 1 ≠ 1) ∧ nxS (gS N A C) c S E m p v = w5 0 0 all64 0 0) := by
    intro v hv
    obtain ⟨s1, s2, s3, s4⟩ := step_S (A := A) (C := C) (c := c) hI h0 hN p h v hv
    by_cases q : S v 1 = 0
    · by_cases q1 : ∃ w, w < N ∧ Adj E m v w ∧ S w 1 = 1
      · obtain ⟨w, hw, ha, h1⟩ := q1
        exact Or.inr (Or.inl ⟨q, mis_indep hM inj hw hv ha.symm (h.news w hw h1).2, s2 q ⟨w, hw, ha, h1⟩⟩)
      · have q1' : ∀ w, w < N → Adj E m v w → S w 1 ≠ 1 := fun w hw ha h1 => q1 ⟨w, hw, ha, h1⟩
        by_cases q2 : ∀ w, w < N → Adj E m v w → S w 1 = 0 → pr N A C v < pr N A C w
        · refine Or.inr (Or.inr (Or.inl ⟨q, (hM v hv).2 (fun w hw ha hl hm => ?_), s3 q q1' q2⟩))
          rcases h.one w hw with e | e | e
          · have := q2 w hw ha e; omega
          · exact q1' w hw ha e
          · exact h.free w v hw hv e hm ha.symm q
        · exact Or.inr (Or.inr (Or.inr ⟨q, q1', s4 q q1' q2⟩))
    · exact Or.inl ⟨q, s1 q⟩
  refine ⟨fun v hv => ?_, fun v hv => ?_, fun v hv => ?_, fun v hv h1 => ?_, fun v hv h1 => ?_, fun v w hv hw h1 hm ha => ?_⟩
  · rcases all v hv with ⟨_, e⟩ | ⟨_, _, e⟩ | ⟨_, _, e⟩ | ⟨_, _, e⟩ <;> rw [e, w5_1] <;> simp
  · rcases all v hv with ⟨_, e⟩ | ⟨_, _, e⟩ | ⟨_, _, e⟩ | ⟨_, _, e⟩ <;> rw [e, w5_2]
  · rcases all v hv with ⟨_, e⟩ | ⟨_, _, e⟩ | ⟨_, _, e⟩ | ⟨_, _, e⟩ <;> rw [e, w5_3]
  · rcases all v hv with ⟨_, e⟩ | ⟨_, _, e⟩ | ⟨_, hm, e⟩ | ⟨_, _, e⟩
    · rw [e, w5_1] at h1; exact absurd h1 (by decide)
    · rw [e, w5_1] at h1; exact absurd h1 (by decide)
    · rw [e, w5_0]; exact ⟨rfl, hm⟩
    · rw [e, w5_1] at h1; exact absurd h1 (by decide)
  · rcases all v hv with ⟨q, e⟩ | ⟨_, hm, e⟩ | ⟨_, _, e⟩ | ⟨_, _, e⟩
    · rw [e, w5_0]
      rcases h.one v hv with k | k | k
      · exact absurd k q
      · exact Or.inl (h.news v hv k)
      · exact h.told v hv k
    · rw [e, w5_0]; exact Or.inr ⟨rfl, hm⟩
    · rw [e, w5_1] at h1; exact absurd h1 (by decide)
    · rw [e, w5_1] at h1; exact absurd h1 (by decide)
  · rcases all v hv with ⟨q, e⟩ | ⟨_, hm', _⟩ | ⟨_, _, e⟩ | ⟨_, _, e⟩
    · -- v was decided ahead of this round
      rcases all w hw with ⟨_, e2⟩ | ⟨_, _, e2⟩ | ⟨_, _, e2⟩ | ⟨qw, qn, e2⟩
      · rw [e2, w5_1]; decide
      · rw [e2, w5_1]; decide
      · rw [e2, w5_1]; decide
      · rcases h.one v hv with k | k | k
        · exact absurd k q
        · exact absurd k (qn v hv ha.symm)
        · exact absurd qw (h.free v w hv hw k hm ha)
    · exact absurd hm hm'
    · rw [e, w5_1] at h1; exact absurd h1 (by decide)
    · rw [e, w5_1] at h1; exact absurd h1 (by decide)
/-- How many of the first v wait. -/
def cw (S : Nat → Nat → Int) : Nat → Nat
  | 0 => 0
  | v + 1 => cw S v + if S v 1 = 0 then 1 else 0
theorem cw_le (S : Nat → Nat → Int) (v : Nat) : cw S v ≤ v := by
  induction v with
  | zero => exact Nat.le_refl _
  | succ v ih => simp only [cw]; split <;> omega
theorem fs_cw {N A C : Nat} (S : Nat → Nat → Int) (v : Nat) (hv : v ≤ 1000) : fs (gS N A C) S v 0 = (cw S v : Int) := by
  induction v with
  | zero => rfl
  | succ v ih =>
    have h := ih (by omega)
    have hc := cw_le S v
    show setFo (fs (gS N A C) S v) (S v) 0 = ((cw S v + if S v 1 = 0 then 1 else 0 : Nat) : Int)
    unfold setFo
    by_cases e : S v 1 = 0
    · rw [if_pos e, if_pos e, up_eq, h, wu _ (by omega) (by omega)]; omega
    · rw [if_neg e, if_neg e, h]; omega
theorem cw_zero (S : Nat → Nat → Int) (n : Nat) : cw S n = 0 ↔ ∀ v, v < n → S v 1 ≠ 0 := by
  induction n with
  | zero => simp [cw]
  | succ n ih =>
    simp only [cw]
    constructor
    · intro h v hv
      by_cases e : v = n
      · subst e; intro h1; rw [if_pos h1] at h; omega
      · exact ih.1 (by omega) v (by omega)
    · intro h
      rw [if_neg (h n (by omega)), ih.2 (fun v hv => h v (by omega))]
theorem cw_mono (S T : Nat → Nat → Int) (n : Nat) (h : ∀ v, v < n → T v 1 = 0 → S v 1 = 0) : cw T n ≤ cw S n ∧ ((∃ v, v < n ∧ S v 1 = 0 ∧ T v 1 ≠ 0) → cw T n < cw S n) := by
  induction n with
  | zero => exact ⟨Nat.le_refl _, fun ⟨v, hv, _⟩ => by omega⟩
  | succ n ih =>
    obtain ⟨i1, i2⟩ := ih (fun v hv => h v (by omega))
    have hn := h n (by omega)
    simp only [cw]
    refine ⟨?_, ?_⟩
    · by_cases e : T n 1 = 0
      · rw [if_pos e, if_pos (hn e)]; omega
      · rw [if_neg e]; omega
    · rintro ⟨v, hv, h1, h2⟩
      by_cases ev : v = n
      · subst ev; rw [if_pos h1, if_neg h2]; omega
      · have := i2 ⟨v, by omega, h1, h2⟩
        by_cases e : T n 1 = 0
        · rw [if_pos e, if_pos (hn e)]; omega
        · rw [if_neg e]; omega
/-- Of those that wait one has the least priority. -/
theorem least_wait (S : Nat → Nat → Int) (p : Nat → Nat) (n : Nat) (h : ∃ v, v < n ∧ S v 1 = 0) : ∃ v, v < n ∧ S v 1 = 0 ∧ ∀ w, w < n → S w 1 = 0 → p v ≤ p w := by
  have key : ∀ k v, v < n → S v 1 = 0 → p v ≤ k → ∃ v, v < n ∧ S v 1 = 0 ∧ ∀ w, w < n → S w 1 = 0 → p v ≤ p w := by
    intro k
    induction k with
    | zero => intro v hv h1 h2; exact ⟨v, hv, h1, fun w _ _ => by omega⟩
    | succ k ih =>
      intro v hv h1 h2
      by_cases e : ∃ w, w < n ∧ S w 1 = 0 ∧ p w < p v
      · obtain ⟨w, hw, h3, h4⟩ := e
        exact ih w hw h3 (by omega)
      · exact ⟨v, hv, h1, fun w hw h3 => Nat.le_of_not_lt (fun h4 => e ⟨w, hw, h3, h4⟩)⟩
  obtain ⟨v, hv, h1⟩ := h
  exact key (p v) v hv h1 (Nat.le_refl _)
theorem less_S {N A C : Nat} {c : Nat → Int} {S : Nat → Nat → Int} {E : Nat → Int × Int × Int} {m : Nat} (hI : EIn N m E) (h0 : 0 < N) (hN : N ≤ 1000) (hg : Nat.gcd N A = 1) (p : Bool) {M : Nat → Prop} (h : SInv E m N M S) (hw : cw S N ≠ 0) : cw (nxS (gS N A C) c S E m p) N < cw S N := by
  have hs : ∃ v, v < N ∧ S v 1 = 0 := by
    refine Classical.byContradiction fun hc => hw ((cw_zero S N).2 fun v hv h1 => hc ⟨v, hv, h1⟩)
  obtain ⟨v, hv, h1, hl⟩ := least_wait S (pr N A C) N hs
  refine (cw_mono S _ N (fun u hu hz => ?_)).2 ⟨v, hv, h1, ?_⟩
  · refine Classical.byContradiction fun hc => ?_
    rw [(step_S (A := A) (C := C) (c := c) hI h0 hN p h u hu).1 hc, w5_1] at hz
    exact absurd hz (by decide)
  · obtain ⟨_, s2, s3, _⟩ := step_S (A := A) (C := C) (c := c) hI h0 hN p h v hv
    by_cases q1 : ∃ w, w < N ∧ Adj E m v w ∧ S w 1 = 1
    · rw [s2 h1 q1, w5_1]; decide
    · rw [s3 h1 (fun w hw ha h2 => q1 ⟨w, hw, ha, h2⟩) (fun w hw ha h2 => ?_), w5_1]
      · decide
      · have h3 := hl w hw h2
        have h4 : pr N A C v ≠ pr N A C w := fun e => ha.1 (pr_inj hg hv hw e)
        omega
end Wp
end Go.Proofs.YtipnlcnikpngcaaDoor
