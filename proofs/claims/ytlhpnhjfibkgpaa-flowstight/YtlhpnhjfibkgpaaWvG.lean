import Derived.Test.YtlhpnhjfibkgpaaWvF
namespace Go.Proofs.Ytlhpnhjfibkgpaa
namespace Wp
open Go.RowKit
set_option linter.unusedVariables false
/-- Behind r rounds: distances D, the least of what has come Q, the rounds W. -/
structure Wy (n m s : Nat) (k : Int) (E : Nat → Int × Int × Int) (r : Nat) (S : Nat → Nat → Int) (D Q W : Nat → Int) : Prop where
  s0 : ∀ v, S v 0 = us (D v)
  s1 : ∀ v, S v 1 = 0
  s2 : ∀ v, S v 2 = W v
  s3 : ∀ v, S v 3 = us (Q v)
  bd : ∀ v, D v = 9223372036854775807 ∨ (-((r : Int) * 2147483648) ≤ D v ∧ D v ≤ (r : Int) * 2147483648)
  bq : ∀ v, Q v = 9223372036854775807 ∨ (-((r : Int) * 2147483648) ≤ Q v ∧ Q v ≤ (r : Int) * 2147483648)
  wb : ∀ v, 0 ≤ W v ∧ W v ≤ r
  cq : ∀ v, D v ≤ Q v
  ol : ∀ x y z, Aw k E m x y z → D x ≠ 9223372036854775807 → W x < r → Q y ≤ D x + z
  w0 : ∀ v, W v = 0 → D v = 9223372036854775807 ∨ (v = s ∧ D v = 0)
  w1 : ∀ v, 0 < W v → D v ≠ 9223372036854775807 ∧ ∃ x z, Aw k E m x v z ∧ D x ≠ 9223372036854775807 ∧ ((D x + z = D v ∧ W x < W v) ∨ D x + z < D v)
  ds : D s ≤ 0
theorem ct4 (s : Nat → Int) (j : Nat) (hj : j < 4) : ct s 4 j = s j := by unfold ct cl; rw [if_neg (by omega)]
section
variable {n m s : Nat} {k : Int} {E : Nat → Int × Int × Int} {r : Nat} {S : Nat → Nat → Int} {D Q W : Nat → Int}
theorem Wy.d_r (h : Wy n m s k E r S D Q W) (hr : r ≤ 1000) (v : Nat) : -9223372036854775808 ≤ D v ∧ D v ≤ 9223372036854775807 := by
  rcases h.bd v with e | e
  · omega
  · have : (r : Int) * 2147483648 ≤ 1000 * 2147483648 := by omega
    omega
theorem Wy.q_r (h : Wy n m s k E r S D Q W) (hr : r ≤ 1000) (v : Nat) : -9223372036854775808 ≤ Q v ∧ Q v ≤ 9223372036854775807 := by
  rcases h.bq v with e | e
  · omega
  · omega
theorem Wy.sum_r (h : Wy n m s k E r S D Q W) (hr : r ≤ 1000) (x : Nat) (z : Int) (hx : D x ≠ 9223372036854775807) (hz : -2147483648 ≤ z ∧ z ≤ 2147483647) : -(((r + 1 : Nat) : Int) * 2147483648) ≤ D x + z ∧ D x + z ≤ ((r + 1 : Nat) : Int) * 2147483648 := by
  have := (h.bd x).resolve_left hx
  push_cast
  omega
theorem gm_r (hI : EIn n m E) (h : Wy n m s k E r S D Q W) (hr : r ≤ 1000) (i : Nat) (hi : i ≤ m) (v : Nat) : gm k E D W (r : Int) Q i v = 9223372036854775807 ∨ (-(((r + 1 : Nat) : Int) * 2147483648) ≤ gm k E D W (r : Int) Q i v ∧ gm k E D W (r : Int) Q i v ≤ ((r + 1 : Nat) : Int) * 2147483648) := by
  rcases gm_from m hI D W (r : Int) Q i hi v with e | ⟨x, z, h1, h2, h3, h4⟩
  · rw [e]
    rcases h.bq v with q | q
    · exact .inl q
    · right; push_cast; omega
  · rw [h4]; exact .inr (h.sum_r hr x z h2 h1.b)
theorem eds_w (hI : EIn n m E) (h : Wy n m s k E r S D Q W) (hr : r ≤ 1000) (hn : r < n) (C : Nat → Int) (hC : C 0 = r) (i : Nat) (hi : i ≤ m) (v : Nat) : eds (gW n s k) C S E i v = up (S v) 3 (us (gm k E D W (r : Int) Q i v)) := by
  induction i generalizing v with
  | zero =>
    funext j
    show S v j = _
    by_cases e : j = 3
    · subst e; rw [up_eq]; exact h.s3 v
    · rw [up_ne _ _ _ _ e]
  | succ i ih =>
    have ih := ih (by omega)
    obtain ⟨x, y, hx, hy, hxn, hyn⟩ := hI i (by omega)
    have t1 : (E i).1.toNat = x := by rw [hx]; rfl
    have t2 : (E i).2.1.toNat = y := by rw [hy]; rfl
    have hd := h.d_r hr x
    show ed2 (gW n s k) C S (ed1 (gW n s k) C S (eds (gW n s k) C S E i) (E i)) (E i) v = _
    unfold ed2
    rw [if_neg (by show ¬ (false = true ∧ _); simp)]
    unfold ed1
    have hsc : (gW n s k).sc C (S (E i).1.toNat) (E i).1 (E i).2.1 (E i).2.2 false = wySc n k C (S x) (E i).2.2 false := by rw [t1]; rfl
    rw [hsc, gm, t1, t2]
    unfold wySc
    by_cases c : D x = 9223372036854775807 ∨ W x ≠ r
    · have hc : (false = true ∨ S x 0 = 9223372036854775807 ∨ (n : Int) ≤ C 0 ∨ S x 2 ≠ C 0) := by
        rcases c with c | c
        · right; left; rw [h.s0 x]; exact (us_inf _ hd.1 hd.2).2 c
        · right; right; right; rw [h.s2 x, hC]; exact c
      rw [if_pos hc, if_pos c, if_neg (by simp)]
      exact ih v
    · have c1 : D x ≠ 9223372036854775807 := fun q => c (.inl q)
      have c2 : W x = r := Classical.byContradiction fun q => c (.inr q)
      have hc : ¬ (false = true ∨ S x 0 = 9223372036854775807 ∨ (n : Int) ≤ C 0 ∨ S x 2 ≠ C 0) := by
        rw [h.s0 x, us_inf _ hd.1 hd.2, h.s2 x, hC]
        simp only [Bool.false_eq_true, false_or, not_or]
        exact ⟨c1, by omega, by simp [c2]⟩
      rw [if_neg hc, if_neg c, if_pos rfl]
      have hs := h.sum_r hr x (wt k (E i).2.2) c1 (wt_b _ _)
      have hg := gm_r hI h hr i (by omega) y
      have e1 : IntKind.u64.wrap (wrap64 (S x 0) + wt k (E i).2.2) = us (D x + wt k (E i).2.2) := by rw [h.s0 x, us_back _ hd.1 hd.2]; rfl
      show ups (eds (gW n s k) C S E i) y (up (eds (gW n s k) C S E i y) 3 (mni (eds (gW n s k) C S E i y 3) (IntKind.u64.wrap (wrap64 (S x 0) + wt k (E i).2.2)))) v = _
      rw [e1]
      unfold ups
      by_cases e : v = y
      · subst e
        rw [if_pos rfl, up_eq, ih v, up_eq, mi_us _ _ (by push_cast at hg; omega) (by push_cast at hg; omega) (by push_cast at hs; omega) (by push_cast at hs; omega)]
        funext j
        by_cases ej : j = 3
        · subst ej; rw [up_eq, up_eq]
        · rw [up_ne _ _ _ _ ej, up_ne _ _ _ _ ej, up_ne _ _ _ _ ej]
      · rw [if_neg e, up_ne _ _ _ _ e]; exact ih v
/-- The next distances. -/
def nD (D G : Nat → Int) : Nat → Int := fun v => if G v < D v then G v else D v
def nW (D G W : Nat → Int) (r : Nat) : Nat → Int := fun v => if G v < D v then (r : Int) + 1 else W v
theorem ap_w (hI : EIn n m E) (h : Wy n m s k E r S D Q W) (hr : r ≤ 1000) (hn : r < n) (C : Nat → Int) (hC : C 0 = r) (v : Nat) : wyAp n C (up (S v) 3 (us (gm k E D W (r : Int) Q m v))) = if gm k E D W (r : Int) Q m v < D v then (up (up (up (S v) 3 (us (gm k E D W (r : Int) Q m v))) 0 (us (gm k E D W (r : Int) Q m v))) 2 ((r : Int) + 1), true) else (up (S v) 3 (us (gm k E D W (r : Int) Q m v)), false) := by
  have hd := h.d_r hr v
  have hg := gm_r hI h hr m (Nat.le_refl _) v
  generalize gm k E D W (r : Int) Q m v = G at *
  unfold wyAp
  rw [if_neg (by omega), up_eq, up_ne _ _ _ _ (by decide), h.s0 v, us_back _ hd.1 hd.2, us_back _ (by push_cast at hg; omega) (by push_cast at hg; omega), hC]
theorem Wy.next (hI : EIn n m E) (h : Wy n m s k E r S D Q W) (hr : r ≤ 1000) (hn : r < n) (C : Nat → Int) (hC : C 0 = r) : Wy n m s k E (r + 1) (nx (gW n s k) C S E m) (nD D (gm k E D W (r : Int) Q m)) (gm k E D W (r : Int) Q m) (nW D (gm k E D W (r : Int) Q m) W r) := by
  have hg := gm_r hI h hr m (Nat.le_refl _)
  have hgf := gm_from m (k := k) hI D W (r : Int) Q m (Nat.le_refl _)
  have hgl := gm_le (k := k) (E := E) D W (r : Int) Q m
  have hge := fun x y z a b c => gm_edge (k := k) (E := E) D W (r : Int) Q m x y z a b c
  have hnx : ∀ v, nx (gW n s k) C S E m v = ct (wyAp n C (up (S v) 3 (us (gm k E D W (r : Int) Q m v)))).1 4 := fun v => by
    show ct (wyAp n C (eds (gW n s k) C S E m v)).1 4 = _
    rw [eds_w hI h hr hn C hC m (Nat.le_refl _) v]
  have hap := ap_w hI h hr hn C hC
  generalize gm k E D W (r : Int) Q m = G at *
  have yes : ∀ v, G v < D v → nx (gW n s k) C S E m v = ct (up (up (up (S v) 3 (us (G v))) 0 (us (G v))) 2 ((r : Int) + 1)) 4 := fun v e => by rw [hnx v, hap v, if_pos e]
  have no : ∀ v, ¬ G v < D v → nx (gW n s k) C S E m v = ct (up (S v) 3 (us (G v))) 4 := fun v e => by rw [hnx v, hap v, if_neg e]
  have dle : ∀ v, nD D G v ≤ D v := fun v => by unfold nD; split <;> omega
  have notInf : ∀ v, D v ≠ 9223372036854775807 → nD D G v ≠ 9223372036854775807 := fun v hv => by
    have := (h.bd v).resolve_left hv
    have := dle v
    omega
  refine ⟨fun v => ?_, fun v => ?_, fun v => ?_, fun v => ?_, fun v => ?_, hg, fun v => ?_, fun v => ?_, fun x y z ha hx hw => ?_, fun v hv => ?_, fun v hv => ?_, ?_⟩
  · unfold nD
    by_cases e : G v < D v
    · rw [yes v e, if_pos e, ct4 _ _ (by decide), up_ne _ _ _ _ (by decide), up_eq]
    · rw [no v e, if_neg e, ct4 _ _ (by decide), up_ne _ _ _ _ (by decide)]; exact h.s0 v
  · by_cases e : G v < D v
    · rw [yes v e, ct4 _ _ (by decide), up_ne _ _ _ _ (by decide), up_ne _ _ _ _ (by decide), up_ne _ _ _ _ (by decide)]; exact h.s1 v
    · rw [no v e, ct4 _ _ (by decide), up_ne _ _ _ _ (by decide)]; exact h.s1 v
  · unfold nW
    by_cases e : G v < D v
    · rw [yes v e, if_pos e, ct4 _ _ (by decide), up_eq]
    · rw [no v e, if_neg e, ct4 _ _ (by decide), up_ne _ _ _ _ (by decide)]; exact h.s2 v
  · by_cases e : G v < D v
    · rw [yes v e, ct4 _ _ (by decide), up_ne _ _ _ _ (by decide), up_ne _ _ _ _ (by decide), up_eq]
    · rw [no v e, ct4 _ _ (by decide), up_eq]
  · unfold nD
    by_cases e : G v < D v
    · rw [if_pos e]
      rcases hg v with q | q
      · have := h.d_r hr v; omega
      · exact .inr q
    · rw [if_neg e]
      rcases h.bd v with q | q
      · exact .inl q
      · right; push_cast; omega
  · have := h.wb v
    unfold nW
    split <;> (push_cast; omega)
  · unfold nD; have := h.cq v; split <;> omega
  · have hnot : ¬ G x < D x := fun e => by unfold nW at hw; rw [if_pos e] at hw; push_cast at hw; omega
    have e1 : nD D G x = D x := by unfold nD; rw [if_neg hnot]
    have e2 : nW D G W r x = W x := by unfold nW; rw [if_neg hnot]
    rw [e1] at hx ⊢
    rw [e2] at hw
    by_cases c : W x = r
    · exact hge x y z ha hx c
    · have := h.ol x y z ha hx (by have := h.wb x; omega)
      have := hgl y
      omega
  · have hnot : ¬ G v < D v := fun e => by unfold nW at hv; rw [if_pos e] at hv; omega
    have e1 : nD D G v = D v := by unfold nD; rw [if_neg hnot]
    have e2 : nW D G W r v = W v := by unfold nW; rw [if_neg hnot]
    rw [e1]; rw [e2] at hv
    exact h.w0 v hv
  · have keepR : ∀ x z, D x ≠ 9223372036854775807 → ∀ dv wv, (D x + z = dv ∧ W x < wv) ∨ D x + z < dv → (nD D G x + z = dv ∧ nW D G W r x < wv) ∨ nD D G x + z < dv := fun x z hx dv wv hh => by
      by_cases e : G x < D x
      · have e1 : nD D G x = G x := by unfold nD; rw [if_pos e]
        right; rw [e1]; omega
      · have e1 : nD D G x = D x := by unfold nD; rw [if_neg e]
        have e2 : nW D G W r x = W x := by unfold nW; rw [if_neg e]
        rw [e1, e2]; exact hh
    by_cases e : G v < D v
    · have e1 : nD D G v = G v := by unfold nD; rw [if_pos e]
      have e2 : nW D G W r v = (r : Int) + 1 := by unfold nW; rw [if_pos e]
      have hq := h.cq v
      rcases hgf v with q | ⟨x, z, ha, hx, hw, hgv⟩
      · omega
      · rw [e1, e2]
        refine ⟨?_, x, z, ha, notInf x hx, keepR x z hx _ _ (.inl ⟨hgv.symm, by omega⟩)⟩
        have := h.d_r hr v; omega
    · have e1 : nD D G v = D v := by unfold nD; rw [if_neg e]
      have e2 : nW D G W r v = W v := by unfold nW; rw [if_neg e]
      rw [e1, e2]
      rw [e2] at hv
      obtain ⟨h1, x, z, ha, hx, hh⟩ := h.w1 v hv
      exact ⟨h1, x, z, ha, notInf x hx, keepR x z hx _ _ hh⟩
  · have := dle s; have := h.ds; omega
/-- The next distances are those of one round over all edges. -/
theorem Wy.ex (hI : EIn n m E) (h : Wy n m s k E r S D Q W) (hr : r ≤ 1000) (v : Nat) : nD D (gm k E D W (r : Int) Q m) v = Wp.ex k E D m v := by
  have h1 := ex_le (k := k) (E := E) D m v
  have h2 := gm_from m (k := k) hI D W (r : Int) Q m (Nat.le_refl _) v
  have h3 := ex_from m (k := k) hI D m (Nat.le_refl _) v
  have h4 := gm_le (k := k) (E := E) D W (r : Int) Q m v
  have h5 := h.cq v
  have h6 : Wp.ex k E D m v ≤ gm k E D W (r : Int) Q m v := by
    rcases h2 with q | ⟨x, z, ha, hx, _, q⟩
    · omega
    · rw [q]; exact ex_edge D m x v z ha hx
  have h7 : gm k E D W (r : Int) Q m v ≤ Wp.ex k E D m v ∨ Wp.ex k E D m v = D v := by
    rcases h3 with q | ⟨x, z, ha, hx, q⟩
    · exact .inr q
    · left
      rw [q]
      by_cases c : W x = r
      · exact gm_edge D W (r : Int) Q m x v z ha hx c
      · have := h.ol x v z ha hx (by have := h.wb x; omega)
        omega
  unfold nD
  split <;> omega
end
end Wp
end Go.Proofs.Ytlhpnhjfibkgpaa
