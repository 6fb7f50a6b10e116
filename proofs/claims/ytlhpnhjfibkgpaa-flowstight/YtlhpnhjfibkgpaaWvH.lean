import Derived.Test.YtlhpnhjfibkgpaaWvG
namespace Go.Proofs.Ytlhpnhjfibkgpaa
namespace Wp
open Go.RowKit
set_option linter.unusedVariables false
/-- Distances behind r rounds over all edges. -/
def Dd (m s : Nat) (k : Int) (E : Nat → Int × Int × Int) : Nat → Nat → Int
  | 0 => fun v => if v = s then 0 else 9223372036854775807
  | r + 1 => ex k E (Dd m s k E r) m
/-- What SSSP ends with, where it ends by itself: distances L, rounds W. -/
structure Sp (m s : Nat) (k : Int) (E : Nat → Int × Int × Int) (L W : Nat → Int) : Prop where
  t : ∀ x y z, Aw k E m x y z → L x ≠ 9223372036854775807 → L y ≤ L x + z
  so : L s = 0 ∧ W s = 0
  w0 : ∀ v, W v = 0 → L v = 9223372036854775807 ∨ v = s
  w1 : ∀ v, 0 < W v → L v ≠ 9223372036854775807 ∧ ∃ x z, Aw k E m x v z ∧ L x ≠ 9223372036854775807 ∧ L x + z = L v ∧ W x < W v
  b : ∀ v, L v = 9223372036854775807 ∨ (-2149631131648 ≤ L v ∧ L v ≤ 2149631131648)
  wb : ∀ v, 0 ≤ W v ∧ W v ≤ 1001
section
variable (n m s : Nat) (k : Int) (E : Nat → Int × Int × Int)
theorem ctl_w (r : Nat) : (rn (gW n s k) E m n r).1 0 = r := by
  cases r with
  | zero => rfl
  | succ r =>
    show ctlN (rn (gW n s k) E m n r).1 ((r : Int) + 1) 0 = _
    unfold ctlN; rw [up_eq]; push_cast; rfl
theorem wy_zero : Wy n m s k E 0 (rn (gW n s k) E m n 0).2 (Dd m s k E 0) (fun _ => 9223372036854775807) (fun _ => 0) := by
  have hS : ∀ v, (rn (gW n s k) E m n 0).2 v = ct (wyStart s v) 4 := fun v => rfl
  have c : ∀ v, (v = s → (wyStart (s : Int) (v : Int)) = up (fun _ => 0) 3 9223372036854775807) ∧ (v ≠ s → (wyStart (s : Int) (v : Int)) = up (up (fun _ => 0) 0 9223372036854775807) 3 9223372036854775807) := fun v => by
    unfold wyStart
    exact ⟨fun e => by rw [if_pos (by omega)], fun e => by rw [if_neg (by omega)]⟩
  have u0 : us 0 = 0 := by rw [us_eq]; rfl
  have u1 : us 9223372036854775807 = 9223372036854775807 := by rw [us_eq]; rfl
  refine ⟨fun v => ?_, fun v => ?_, fun v => ?_, fun v => ?_, fun v => ?_, fun v => .inl rfl, fun v => ⟨Int.le_refl _, by simp⟩, fun v => ?_, fun x y z _ _ h => ?_, fun v _ => ?_, fun v h => ?_, ?_⟩
  · rw [hS, ct4 _ _ (by decide)]
    show _ = us (if v = s then 0 else 9223372036854775807)
    by_cases e : v = s
    · rw [(c v).1 e, if_pos e, u0]; simp [up]
    · rw [(c v).2 e, if_neg e, u1]; simp [up]
  · rw [hS, ct4 _ _ (by decide)]
    by_cases e : v = s
    · rw [(c v).1 e]; simp [up]
    · rw [(c v).2 e]; simp [up]
  · rw [hS, ct4 _ _ (by decide)]
    by_cases e : v = s
    · rw [(c v).1 e]; simp [up]
    · rw [(c v).2 e]; simp [up]
  · rw [hS, ct4 _ _ (by decide), u1]
    by_cases e : v = s
    · rw [(c v).1 e]; simp [up]
    · rw [(c v).2 e]; simp [up]
  · show (if v = s then (0 : Int) else 9223372036854775807) = _ ∨ _
    by_cases e : v = s
    · right
      have : Dd m s k E 0 v = 0 := if_pos e
      rw [this]; simp
    · left; exact if_neg e
  · show (if v = s then (0 : Int) else 9223372036854775807) ≤ _
    split <;> omega
  · simp at h
  · by_cases e : v = s
    · exact .inr ⟨e, if_pos e⟩
    · exact .inl (if_neg e)
  · simp at h
  · show (if s = s then (0 : Int) else 9223372036854775807) ≤ 0
    rw [if_pos rfl]; exact Int.le_refl _
theorem wy_all (hn : n ≤ 1000) (hI : EIn n m E) (r : Nat) (hr : r ≤ n) : ∃ Q W, Wy n m s k E r (rn (gW n s k) E m n r).2 (Dd m s k E r) Q W := by
  induction r with
  | zero => exact ⟨_, _, wy_zero n m s k E⟩
  | succ r ih =>
    obtain ⟨Q, W, h⟩ := ih (by omega)
    have h2 := h.next hI (by omega) (by omega) _ (ctl_w n m s k E r)
    have e : nD (Dd m s k E r) (gm k E (Dd m s k E r) W (r : Int) Q m) = Dd m s k E (r + 1) := by
      funext v; exact h.ex hI (by omega) v
    rw [e] at h2
    exact ⟨_, _, h2⟩
theorem chg_w (hn : n ≤ 1000) (hI : EIn n m E) (r : Nat) (hr : r < n) (v0 : Nat) : chg (gW n s k) (rn (gW n s k) E m n r).1 (rn (gW n s k) E m n r).2 E m v0 = 0 ↔ ∀ v, v < v0 → Dd m s k E (r + 1) v = Dd m s k E r v := by
  obtain ⟨Q, W, h⟩ := wy_all n m s k E hn hI r (by omega)
  induction v0 with
  | zero => exact ⟨fun _ v hv => by omega, fun _ => rfl⟩
  | succ v0 ih =>
    have h1 : ((gW n s k).ap (rn (gW n s k) E m n r).1 (eds (gW n s k) (rn (gW n s k) E m n r).1 (rn (gW n s k) E m n r).2 E m v0)).2 = decide (gm k E (Dd m s k E r) W (r : Int) Q m v0 < Dd m s k E r v0) := by
      show (wyAp n _ (eds (gW n s k) _ _ E m v0)).2 = _
      rw [eds_w hI h (by omega) hr _ (ctl_w n m s k E r) m (Nat.le_refl _) v0, ap_w hI h (by omega) hr _ (ctl_w n m s k E r) v0]
      split
      · rename_i q; simp [q]
      · rename_i q; simp [q]
    have h2 := h.ex hI (by omega) v0
    have h3 : Dd m s k E (r + 1) v0 = nD (Dd m s k E r) (gm k E (Dd m s k E r) W (r : Int) Q m) v0 := h2.symm
    show chg (gW n s k) _ _ E m v0 + (if _ = true then 1 else 0) = 0 ↔ _
    rw [h1]
    by_cases c : gm k E (Dd m s k E r) W (r : Int) Q m v0 < Dd m s k E r v0
    · rw [if_pos (by simp [c])]
      refine ⟨fun q => by omega, fun q => ?_⟩
      have := q v0 (by omega)
      rw [h3] at this
      unfold nD at this
      rw [if_pos c] at this
      omega
    · rw [if_neg (by simp [c]), Nat.add_zero, ih]
      refine ⟨fun q v hv => ?_, fun q v hv => q v (by omega)⟩
      by_cases e : v < v0
      · exact q v e
      · have e2 : v = v0 := by omega
        subst e2
        rw [h3]; unfold nD; rw [if_neg c]
theorem fs_w (S : Nat → Nat → Int) (v : Nat) : 0 ≤ fs (gW n s k) S v 0 ∧ fs (gW n s k) S v 0 ≤ v := by
  induction v with
  | zero => exact ⟨Int.le_refl _, Int.le_refl _⟩
  | succ v ih =>
    show 0 ≤ wyFo (fs (gW n s k) S v) (S v) 0 ∧ wyFo (fs (gW n s k) S v) (S v) 0 ≤ _
    unfold wyFo
    split
    · rw [up_ne _ _ _ _ (by decide)]
      split
      · push_cast; omega
      · rw [up_eq]; push_cast; omega
    · split
      · push_cast; omega
      · rw [up_eq]; push_cast; omega
theorem sp_of (hI : EIn n m E) (hs : s < n) (r : Nat) (hr : r ≤ 1001) (S : Nat → Nat → Int) (L Q W : Nat → Int) (h : Wy n m s k E r S L Q W) (ht : ∀ x y z, Aw k E m x y z → L x ≠ 9223372036854775807 → L y ≤ L x + z) : Sp m s k E L W := by
  have w1 : ∀ v, 0 < W v → L v ≠ 9223372036854775807 ∧ ∃ x z, Aw k E m x v z ∧ L x ≠ 9223372036854775807 ∧ L x + z = L v ∧ W x < W v := fun v hv => by
    obtain ⟨h1, x, z, ha, hx, hh⟩ := h.w1 v hv
    have := ht x v z ha hx
    rcases hh with q | q
    · exact ⟨h1, x, z, ha, hx, q.1, q.2⟩
    · omega
  have chain : ∀ j : Nat, ∀ v, W v ≤ j → L v ≠ 9223372036854775807 → W s = 0 := by
    intro j
    induction j with
    | zero =>
      intro v hv hL
      have hw : W v = 0 := by have := (h.wb v).1; omega
      rcases h.w0 v hw with q | ⟨q, _⟩
      · exact absurd q hL
      · rw [← q]; exact hw
    | succ j ih =>
      intro v hv hL
      by_cases e : W v ≤ j
      · exact ih v e hL
      · obtain ⟨_, x, z, _, hx, _, hw⟩ := w1 v (by omega)
        exact ih x (by push_cast at hv; omega) hx
  have hLs : L s ≠ 9223372036854775807 := by have := h.ds; omega
  have hWs := chain r s (h.wb s).2 hLs
  have hr' : (r : Int) * 2147483648 ≤ 2149631131648 := by omega
  refine ⟨ht, ⟨?_, hWs⟩, fun v hv => ?_, w1, fun v => ?_, fun v => ⟨(h.wb v).1, by have := (h.wb v).2; omega⟩⟩
  · rcases h.w0 s hWs with q | ⟨_, q⟩
    · exact absurd q hLs
    · exact q
  · rcases h.w0 v hv with q | ⟨q, _⟩
    · exact .inl q
    · exact .inr q
  · rcases h.bd v with q | q
    · exact .inl q
    · right; omega
theorem sssp_end (hn : n ≤ 1000) (hs : s < n) (hI : EIn n m E) : ∃ R, R ≤ n ∧ Fine (gW n s k) E m n R ∧ (∀ r, r < R → r < n → ∃ v, v < n ∧ Dd m s k E (r + 1) v ≠ Dd m s k E r v) ∧
    ((R < n ∧ (∀ v, v < n → Dd m s k E (R + 1) v = Dd m s k E R v) ∧ ∃ W, Sp m s k E (Dd m s k E (R + 1)) W ∧ ∀ v, (rn (gW n s k) E m n (R + 1)).2 v 0 = us (Dd m s k E (R + 1) v) ∧ (rn (gW n s k) E m n (R + 1)).2 v 1 = 0 ∧ (rn (gW n s k) E m n (R + 1)).2 v 2 = W v) ∨
     (R = n ∧ ∀ v, (rn (gW n s k) E m n (R + 1)).2 v 1 = 1)) := by
  have hdn : ∀ r, dn (gW n s k) E m n r = (((chg (gW n s k) (rn (gW n s k) E m n r).1 (rn (gW n s k) E m n r).2 E m n : Nat) : Int) == 0 || decide ((n : Int) ≤ (rn (gW n s k) E m n r).1 0)) := fun r => rfl
  have hlast : dn (gW n s k) E m n n = true := by rw [hdn, ctl_w]; simp
  obtain ⟨R, hR, hy, hno⟩ := least (dn (gW n s k) E m n) n hlast
  have hch : ∀ r, r < n → (dn (gW n s k) E m n r = true ↔ ∀ v, v < n → Dd m s k E (r + 1) v = Dd m s k E r v) := fun r hr => by
    rw [hdn, ctl_w, ← chg_w n m s k E hn hI r hr n]
    have : decide ((n : Int) ≤ (r : Int)) = false := by simp; omega
    rw [this, Bool.or_false]
    constructor
    · intro q; have := eq_of_beq q; omega
    · intro q; rw [q]; rfl
  refine ⟨R, hR, ⟨fun r hr => by rw [ctl_w]; omega, fun r hr i hi => ?_, fun r hr v hv => by have := fs_w n s k (rn (gW n s k) E m n r).2 v; omega, hno, hy⟩, fun r hr hrn => ?_, ?_⟩
  · obtain ⟨Q, W, h⟩ := wy_all n m s k E hn hI r (by omega)
    have one : ∀ x z, (rn (gW n s k) E m n r).2 x 0 ≠ 9223372036854775807 → -9223372036854775808 ≤ wrap64 ((rn (gW n s k) E m n r).2 x 0) + wt k z ∧ wrap64 ((rn (gW n s k) E m n r).2 x 0) + wt k z ≤ 9223372036854775807 := fun x z hx => by
      have hd := h.d_r (by omega) x
      rw [h.s0 x] at hx ⊢
      have hx' : Dd m s k E r x ≠ 9223372036854775807 := fun q => hx ((us_inf _ hd.1 hd.2).2 q)
      rw [us_back _ hd.1 hd.2]
      have := h.sum_r (by omega) x (wt k z) hx' (wt_b _ _)
      push_cast at this
      omega
    exact ⟨one _ _, one _ _⟩
  · apply Classical.byContradiction
    intro q
    have := (hch r hrn).2 (fun v hv => Classical.byContradiction fun e => q ⟨v, hv, e⟩)
    rw [hno r hr] at this
    cases this
  · by_cases c : R < n
    · left
      have hsame := (hch R c).1 hy
      obtain ⟨Q, W, h⟩ := wy_all n m s k E hn hI (R + 1) (by omega)
      refine ⟨c, hsame, W, sp_of n m s k E hI hs (R + 1) (by omega) _ _ Q W h (fun x y z ha hx => ?_), fun v => ⟨h.s0 v, h.s1 v, h.s2 v⟩⟩
      obtain ⟨j, hj, h1, h2, h3⟩ := ha
      obtain ⟨x', y', e1, e2, hxn, hyn⟩ := hI j hj
      have ex1 : x' = x := by omega
      subst ex1
      have := ex_edge (k := k) (E := E) (Dd m s k E R) m x' y z ⟨j, hj, h1, h2, h3⟩ (by rw [← hsame x' hxn]; exact hx)
      rw [hsame x' hxn]
      exact this
    · right
      have e : R = n := by omega
      refine ⟨e, fun v => ?_⟩
      subst e
      show ct (wyAp R (rn (gW R s k) E m R R).1 (eds (gW R s k) _ _ E m v)).1 4 1 = 1
      rw [ct4 _ _ (by decide)]
      unfold wyAp
      rw [if_pos (by rw [ctl_w]; exact Int.le_refl _)]
      exact up_eq (eds (gW R s k) (rn (gW R s k) E m R R).1 (rn (gW R s k) E m R R).2 E m v) 1 1
end
end Wp
end Go.Proofs.Ytlhpnhjfibkgpaa
