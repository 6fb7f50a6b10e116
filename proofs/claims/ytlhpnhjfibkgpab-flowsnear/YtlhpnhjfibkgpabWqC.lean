import Derived.Test.YtlhpnhjfibkgpabWqB
namespace Go.Proofs.Ytlhpnhjfibkgpab
namespace Wp
open Go.RowKit
set_option linter.unusedVariables false
section
variable (n m : Nat) (E : Nat → Int × Int × Int)
/-- Labels, when they were found, and the least that has come, behind r rounds. -/
def lb (r v : Nat) : Int := (rn (gL n) E m n r).2 v 0
def ti (r v : Nat) : Int := (rn (gL n) E m n r).2 v 1
def mi (r v : Nat) : Int := (rn (gL n) E m n r).2 v 2
/-- What has come behind the edges of round r + 1. -/
def ga (r v : Nat) : Int := eds (gL n) (rn (gL n) E m n r).1 (rn (gL n) E m n r).2 E m v 2
theorem ctl_r (r : Nat) : (rn (gL n) E m n r).1 0 = r := by
  cases r with
  | zero => rfl
  | succ r =>
    show ctlN (rn (gL n) E m n r).1 ((r : Int) + 1) 0 = _
    unfold ctlN; rw [up_eq]; push_cast; rfl
theorem ct_lt (s : Nat → Int) (j : Nat) (hj : j < 3) : ct s 3 j = s j := by unfold ct cl; rw [if_neg (by omega)]
theorem lb0 (v : Nat) : lb n m E 0 v = v := by
  show ct (labStart v) 3 0 = _
  rw [ct_lt _ _ (by decide)]; simp [labStart, up]
theorem ti0 (v : Nat) : ti n m E 0 v = 0 := by
  show ct (labStart v) 3 1 = _
  rw [ct_lt _ _ (by decide)]; simp [labStart, up]
theorem mi0 (v : Nat) : mi n m E 0 v = 18446744073709551615 := by
  show ct (labStart v) 3 2 = _
  rw [ct_lt _ _ (by decide)]; simp [labStart, up]
variable (hI : EIn n m E)
theorem gt_r (hI : EIn n m E) (r : Nat) : Gt (rn (gL n) E m n r).1 (rn (gL n) E m n r).2 (eds (gL n) (rn (gL n) E m n r).1 (rn (gL n) E m n r).2 E m) E m := gt_all n n m _ _ E hI m (Nat.le_refl _)
theorem nx_lab (r v j : Nat) (hj : j < 3) : (rn (gL n) E m n (r + 1)).2 v j = (labAp (rn (gL n) E m n r).1 (eds (gL n) (rn (gL n) E m n r).1 (rn (gL n) E m n r).2 E m v)).1 j := by
  show ct (labAp _ _).1 3 j = _
  rw [ct_lt _ _ hj]
theorem lbS (hI : EIn n m E) (r v : Nat) : lb n m E (r + 1) v = if ga n m E r v < lb n m E r v then ga n m E r v else lb n m E r v := by
  have h := gt_r n m E hI r
  show (rn (gL n) E m n (r + 1)).2 v 0 = _
  rw [nx_lab n m E r v 0 (by decide)]
  unfold labAp
  rw [h.w0 v]
  show (if ga n m E r v < lb n m E r v then _ else _ : (Nat → Int) × Bool).1 0 = _
  split
  · dsimp only
    rw [up_ne _ 1 0 _ (by decide), up_eq]; rfl
  · exact h.w0 v
theorem tiS (hI : EIn n m E) (r v : Nat) : ti n m E (r + 1) v = if ga n m E r v < lb n m E r v then (r : Int) + 1 else ti n m E r v := by
  have h := gt_r n m E hI r
  show (rn (gL n) E m n (r + 1)).2 v 1 = _
  rw [nx_lab n m E r v 1 (by decide)]
  unfold labAp
  rw [h.w0 v]
  show (if ga n m E r v < lb n m E r v then _ else _ : (Nat → Int) × Bool).1 1 = _
  split
  · dsimp only
    rw [up_eq, ctl_r]
  · exact h.w1 v
theorem miS (hI : EIn n m E) (r v : Nat) : mi n m E (r + 1) v = ga n m E r v := by
  have h := gt_r n m E hI r
  show (rn (gL n) E m n (r + 1)).2 v 2 = _
  rw [nx_lab n m E r v 2 (by decide)]
  unfold labAp
  split
  · dsimp only
    rw [up_ne _ 1 2 _ (by decide), up_ne _ 0 2 _ (by decide)]; rfl
  · rfl
theorem chgS (r v : Nat) (hI : EIn n m E) : chg (gL n) (rn (gL n) E m n r).1 (rn (gL n) E m n r).2 E m (v + 1) = chg (gL n) (rn (gL n) E m n r).1 (rn (gL n) E m n r).2 E m v + if ga n m E r v < lb n m E r v then 1 else 0 := by
  have h := gt_r n m E hI r
  show _ + (if (labAp _ _).2 = true then 1 else 0) = _
  unfold labAp
  rw [h.w0 v]
  show _ + (if (if ga n m E r v < lb n m E r v then _ else _ : (Nat → Int) × Bool).2 = true then 1 else 0) = _
  by_cases e : ga n m E r v < lb n m E r v
  · rw [if_pos e, if_pos rfl, if_pos e]
  · rw [if_neg e, if_neg (by simp), if_neg e]
theorem chg_zero (hI : EIn n m E) (r k : Nat) (h : chg (gL n) (rn (gL n) E m n r).1 (rn (gL n) E m n r).2 E m k = 0) : ∀ v, v < k → ¬ ga n m E r v < lb n m E r v := by
  induction k with
  | zero => intro v hv; omega
  | succ k ih =>
    rw [chgS n m E r k hI] at h
    intro v hv e
    by_cases hk : v < k
    · exact ih (by omega) v hk e
    · obtain rfl : v = k := by omega
      rw [if_pos e] at h; omega
theorem chg_pos (hI : EIn n m E) (r k : Nat) (h : chg (gL n) (rn (gL n) E m n r).1 (rn (gL n) E m n r).2 E m k ≠ 0) : ∃ v, v < k ∧ ga n m E r v < lb n m E r v := by
  induction k with
  | zero => exact absurd rfl h
  | succ k ih =>
    rw [chgS n m E r k hI] at h
    by_cases e : ga n m E r k < lb n m E r k
    · exact ⟨k, by omega, e⟩
    · rw [if_neg e] at h
      obtain ⟨v, hv, h2⟩ := ih (by omega)
      exact ⟨v, by omega, h2⟩
/-- What holds behind every round. -/
structure Iv (r : Nat) : Prop where
  b : ∀ v, v < n → 0 ≤ lb n m E r v ∧ lb n m E r v ≤ v
  t : ∀ v, ti n m E r v ≤ r
  g : ∀ v, v < n → lb n m E r v ≤ mi n m E r v
  s : ∀ u v, Adj E m u v → mi n m E r v ≤ lb n m E r u ∨ ti n m E r u = r
theorem iv_all (hn : n ≤ 1000) (hI : EIn n m E) : ∀ r, Iv n m E r := by
  intro r
  induction r with
  | zero =>
    refine ⟨fun v hv => ?_, fun v => ?_, fun v hv => ?_, fun u v h => Or.inr ?_⟩
    · rw [lb0]; omega
    · rw [ti0]; exact Int.le_refl _
    · rw [lb0, mi0]; omega
    · rw [ti0]; rfl
  | succ r ih =>
    have h := gt_r n m E hI r
    refine ⟨fun v hv => ?_, fun v => ?_, fun v hv => ?_, fun u v ha => ?_⟩
    · rw [lbS n m E hI]
      have hb := ih.b v hv
      split
      · rename_i hlt
        refine ⟨?_, by omega⟩
        rcases h.frm v with e | ⟨u, ha, hs, e⟩
        · have := ih.g v hv
          have e' : ga n m E r v = mi n m E r v := e
          omega
        · have e' : ga n m E r v = lb n m E r u := e
          rw [e']
          exact (ih.b u (ha.lt hI).1).1
      · exact hb
    · rw [tiS n m E hI]
      have := ih.t v
      split <;> push_cast <;> omega
    · rw [lbS n m E hI, miS n m E hI]
      split <;> omega
    · rw [tiS n m E hI, lbS n m E hI, miS n m E hI]
      by_cases e : ga n m E r u < lb n m E r u
      · right; rw [if_pos e]; push_cast; rfl
      · left
        rw [if_neg e]
        by_cases e2 : ti n m E r u = r
        · exact h.sent u v ha (by rw [ctl_r]; exact e2)
        · rcases ih.s u v ha with e3 | e3
          · exact Int.le_trans (h.le v) e3
          · exact absurd e3 e2
/-- Labels only fall. -/
theorem lb_mono (hI : EIn n m E) (r k v : Nat) : lb n m E (r + k) v ≤ lb n m E r v := by
  induction k with
  | zero => exact Int.le_refl _
  | succ k ih =>
    rw [← Nat.add_assoc, lbS n m E hI]
    split <;> omega
/-- Who finds a label in round r has it from one who found it in the round ahead. -/
theorem chain1 (hn : n ≤ 1000) (hI : EIn n m E) (r v : Nat) (hv : v < n) (h : ga n m E r v < lb n m E r v) : ∃ u, u < n ∧ ti n m E r u = r ∧ lb n m E r u = ga n m E r v := by
  have hg := gt_r n m E hI r
  have hi := iv_all n m E hn hI r
  rcases hg.frm v with e | ⟨u, ha, hs, e⟩
  · have := hi.g v hv
    have e' : ga n m E r v = mi n m E r v := e
    omega
  · exact ⟨u, (ha.lt hI).1, by rw [ctl_r] at hs; exact hs, e.symm⟩
theorem chain (hn : n ≤ 1000) (hI : EIn n m E) : ∀ r v, v < n → ti n m E r v = r → ∃ f : Nat → Nat, (∀ j, j ≤ r → f j < n ∧ ti n m E j (f j) = j ∧ lb n m E j (f j) = lb n m E r v) ∧ f r = v := by
  intro r
  induction r with
  | zero => exact fun v hv h => ⟨fun _ => v, fun j hj => by obtain rfl : j = 0 := by omega
                                                            exact ⟨hv, h, rfl⟩, rfl⟩
  | succ r ih =>
    intro v hv h
    have hi := iv_all n m E hn hI r
    rw [tiS n m E hI] at h
    have hlt : ga n m E r v < lb n m E r v := by
      apply Classical.byContradiction
      intro e
      rw [if_neg e] at h
      have := hi.t v
      push_cast at h
      omega
    obtain ⟨u, hu, htu, hlu⟩ := chain1 n m E hn hI r v hv hlt
    obtain ⟨f, hf, hfr⟩ := ih u hu htu
    refine ⟨fun j => if j ≤ r then f j else v, fun j hj => ?_, if_neg (by omega)⟩
    have hl : lb n m E (r + 1) v = lb n m E r u := by rw [lbS n m E hI, if_pos hlt, hlu]
    by_cases e : j ≤ r
    · have e2 : (if j ≤ r then f j else v) = f j := if_pos e
      obtain ⟨a, b, c⟩ := hf j e
      dsimp only
      rw [e2]
      exact ⟨a, b, by rw [hl]; exact c⟩
    · obtain rfl : j = r + 1 := by omega
      have e2 : (if r + 1 ≤ r then f (r + 1) else v) = v := if_neg e
      dsimp only
      rw [e2]
      exact ⟨hv, by rw [tiS n m E hI, if_pos hlt]; push_cast; rfl, rfl⟩
/-- In round r + 1 something changes only if r + 2 vertices are there. -/
theorem late (hn : n ≤ 1000) (hI : EIn n m E) (r v : Nat) (hv : v < n) (h : ga n m E r v < lb n m E r v) : r + 2 ≤ n := by
  have ht : ti n m E (r + 1) v = ((r + 1 : Nat) : Int) := by rw [tiS n m E hI, if_pos h]; push_cast; rfl
  obtain ⟨f, hf, _⟩ := chain n m E hn hI (r + 1) v hv ht
  refine pig f (r + 2) n (fun i hi => (hf i (by omega)).1) (fun i j hij hj e => ?_)
  obtain ⟨a1, a2, a3⟩ := hf i (by omega)
  obtain ⟨b1, b2, b3⟩ := hf j (by omega)
  rw [e] at a3
  obtain ⟨q, rfl⟩ : ∃ q, j = q + 1 := ⟨j - 1, by omega⟩
  rw [tiS n m E hI] at b2
  have hlt : ga n m E q (f (q + 1)) < lb n m E q (f (q + 1)) := by
    apply Classical.byContradiction
    intro e2
    rw [if_neg e2] at b2
    have := (iv_all n m E hn hI q).t (f (q + 1))
    push_cast at b2
    omega
  rw [lbS n m E hI, if_pos hlt] at b3
  have h3 := lb_mono n m E hI i (q - i) (f (q + 1))
  rw [show i + (q - i) = q by omega] at h3
  omega
end
end Wp
end Go.Proofs.Ytlhpnhjfibkgpab
