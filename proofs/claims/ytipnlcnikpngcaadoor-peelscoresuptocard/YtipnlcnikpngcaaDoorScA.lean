import Derived.Test.YtipnlcnikpngcaaDoorSqC
namespace Go.Proofs.YtipnlcnikpngcaaDoor
namespace Wp
open Go.RowKit
set_option linter.unusedVariables false
set_option maxRecDepth 8000
/-- How many ends of edges that are no loops lie at v, with the other end in P. -/
def nb1 (x y : Int) (v : Nat) (P : Nat → Bool) : Nat := (if x ≠ y ∧ x = (v : Int) ∧ P y.toNat = true then 1 else 0) + (if x ≠ y ∧ y = (v : Int) ∧ P x.toNat = true then 1 else 0)
def nbc (E : Nat → Int × Int × Int) (v : Nat) (P : Nat → Bool) : Nat → Nat
  | 0 => 0
  | i + 1 => nbc E v P i + nb1 (E i).1 (E i).2.1 v P
def lpc (E : Nat → Int × Int × Int) (v : Nat) : Nat → Nat
  | 0 => 0
  | i + 1 => lpc E v i + if (E i).1 = (E i).2.1 ∧ (E i).1 = (v : Int) then 1 else 0
theorem nb1_le (x y : Int) (v : Nat) (P : Nat → Bool) : nb1 x y v P ≤ 2 := by unfold nb1; split <;> split <;> omega
theorem nbc_le (E : Nat → Int × Int × Int) (v : Nat) (P : Nat → Bool) (m : Nat) : nbc E v P m ≤ 2 * m := by
  induction m with
  | zero => exact Nat.le_refl _
  | succ m ih => have := nb1_le (E m).1 (E m).2.1 v P; simp only [nbc]; omega
theorem lpc_le (E : Nat → Int × Int × Int) (v : Nat) (m : Nat) : lpc E v m ≤ m := by
  induction m with
  | zero => exact Nat.le_refl _
  | succ m ih => simp only [lpc]; split <;> omega
theorem deg_all (E : Nat → Int × Int × Int) (v m : Nat) : outs E m v + ins E m v = ((nbc E v (fun _ => true) m + 2 * lpc E v m : Nat) : Int) := by
  induction m with
  | zero => rfl
  | succ m ih =>
    simp only [outs, ins, nbc, lpc, nb1]
    by_cases h1 : (E m).1 = (E m).2.1
    · by_cases h2 : (E m).1 = (v : Int)
      · have h3 : (E m).2.1 = (v : Int) := by omega
        simp [h1, h3]; omega
      · have h3 : ¬ (E m).2.1 = (v : Int) := by omega
        simp [h1, h3]; omega
    · by_cases h2 : (E m).1 = (v : Int) <;> by_cases h3 : (E m).2.1 = (v : Int)
      · exact absurd (h2.trans h3.symm) h1
      · have h4 : ¬ (v : Int) = (E m).2.1 := fun q => h3 q.symm
        simp [h2, h3, h4]; omega
      · simp [h2, h3]; omega
      · simp [h2, h3]; omega
theorem nbc_mono {E : Nat → Int × Int × Int} {m n : Nat} (hI : EIn n m E) (v : Nat) {P Q : Nat → Bool} (h : ∀ u, u < n → P u = true → Q u = true) : ∀ i, i ≤ m → nbc E v P i ≤ nbc E v Q i := by
  intro i
  induction i with
  | zero => intro _; exact Nat.le_refl _
  | succ i ih =>
    intro hi
    obtain ⟨x, y, hx, hy, hxn, hyn⟩ := hI i (by omega)
    have h1 := ih (by omega)
    have hy' := h y hyn
    have hx' := h x hxn
    have ex : (E i).1.toNat = x := by omega
    have ey : (E i).2.1.toNat = y := by omega
    have h2 : nb1 (E i).1 (E i).2.1 v P ≤ nb1 (E i).1 (E i).2.1 v Q := by
      unfold nb1
      rw [ex, ey]
      have a1 : (if (E i).1 ≠ (E i).2.1 ∧ (E i).1 = (v : Int) ∧ P y = true then 1 else 0) ≤ (if (E i).1 ≠ (E i).2.1 ∧ (E i).1 = (v : Int) ∧ Q y = true then 1 else 0) := by
        by_cases c : (E i).1 ≠ (E i).2.1 ∧ (E i).1 = (v : Int) ∧ P y = true
        · rw [if_pos c, if_pos ⟨c.1, c.2.1, hy' c.2.2⟩]; exact Nat.le_refl _
        · rw [if_neg c]; exact Nat.zero_le _
      have a2 : (if (E i).1 ≠ (E i).2.1 ∧ (E i).2.1 = (v : Int) ∧ P x = true then 1 else 0) ≤ (if (E i).1 ≠ (E i).2.1 ∧ (E i).2.1 = (v : Int) ∧ Q x = true then 1 else 0) := by
        by_cases c : (E i).1 ≠ (E i).2.1 ∧ (E i).2.1 = (v : Int) ∧ P x = true
        · rw [if_pos c, if_pos ⟨c.1, c.2.1, hx' c.2.2⟩]; exact Nat.le_refl _
        · rw [if_neg c]; exact Nat.zero_le _
      exact Nat.add_le_add a1 a2
    simp only [nbc]
    omega
theorem nbc_congr {E : Nat → Int × Int × Int} {m n : Nat} (hI : EIn n m E) (v : Nat) {P Q : Nat → Bool} (h : ∀ u, u < n → P u = Q u) : nbc E v P m = nbc E v Q m :=
  Nat.le_antisymm (nbc_mono hI v (fun u hu k => by rw [← h u hu]; exact k) m (Nat.le_refl _)) (nbc_mono hI v (fun u hu k => by rw [h u hu]; exact k) m (Nat.le_refl _))
theorem ite_add (c : Prop) [Decidable c] (p q : Bool) (h : ¬ (p = true ∧ q = true)) : (if c ∧ (p || q) = true then 1 else 0 : Nat) = (if c ∧ p = true then 1 else 0) + (if c ∧ q = true then 1 else 0) := by
  by_cases hc : c <;> cases p <;> cases q <;> simp_all
theorem nbc_add (E : Nat → Int × Int × Int) (v : Nat) (P Q : Nat → Bool) (h : ∀ u, ¬ (P u = true ∧ Q u = true)) (m : Nat) : nbc E v (fun u => P u || Q u) m = nbc E v P m + nbc E v Q m := by
  induction m with
  | zero => rfl
  | succ m ih =>
    simp only [nbc, ih]
    have : nb1 (E m).1 (E m).2.1 v (fun u => P u || Q u) = nb1 (E m).1 (E m).2.1 v P + nb1 (E m).1 (E m).2.1 v Q := by
      unfold nb1
      have a1 := ite_add ((E m).1 ≠ (E m).2.1 ∧ (E m).1 = (v : Int)) (P (E m).2.1.toNat) (Q (E m).2.1.toNat) (h _)
      have a2 := ite_add ((E m).1 ≠ (E m).2.1 ∧ (E m).2.1 = (v : Int)) (P (E m).1.toNat) (Q (E m).1.toNat) (h _)
      simp only [and_assoc] at a1 a2
      rw [a1, a2]
      exact Nat.add_add_add_comm _ _ _ _
    omega
/-- What comes to a vertex, added up. -/
def sa (v : Nat) : List (Nat × Int × Int) → Int
  | [] => 0
  | u :: l => (if u.1 = v then u.2.1 else 0) + sa v l
def sb (v : Nat) : List (Nat × Int × Int) → Int
  | [] => 0
  | u :: l => (if u.1 = v then u.2.2 else 0) + sb v l
theorem sa_append (v : Nat) (l l' : List (Nat × Int × Int)) : sa v (l ++ l') = sa v l + sa v l' := by
  induction l with
  | nil => simp [sa]
  | cons u l ih => simp only [List.cons_append, sa, ih]; omega
theorem sb_append (v : Nat) (l l' : List (Nat × Int × Int)) : sb v (l ++ l') = sb v l + sb v l' := by
  induction l with
  | nil => simp [sb]
  | cons u l ih => simp only [List.cons_append, sb, ih]; omega
theorem sa_ord (v : Nat) (p : Bool) (l : List (Nat × Int × Int)) : sa v (ord p l) = sa v l := by
  unfold ord
  split
  · induction l with
    | nil => rfl
    | cons u l ih => simp only [List.reverse_cons, sa_append, ih, sa]; omega
  · rfl
theorem sb_ord (v : Nat) (p : Bool) (l : List (Nat × Int × Int)) : sb v (ord p l) = sb v l := by
  unfold ord
  split
  · induction l with
    | nil => rfl
    | cons u l ih => simp only [List.reverse_cons, sb_append, ih, sb]; omega
  · rfl
theorem sa_pos (v : Nat) (l : List (Nat × Int × Int)) (h : ∀ u ∈ l, 0 ≤ u.2.1) : 0 ≤ sa v l := by
  induction l with
  | nil => exact Int.le_refl _
  | cons u l ih =>
    have h1 := h u List.mem_cons_self
    have h2 := ih (fun x hx => h x (List.mem_cons_of_mem _ hx))
    simp only [sa]; split <;> omega
theorem sb_pos (v : Nat) (l : List (Nat × Int × Int)) (h : ∀ u ∈ l, 0 ≤ u.2.2) : 0 ≤ sb v l := by
  induction l with
  | nil => exact Int.le_refl _
  | cons u l ih =>
    have h1 := h u List.mem_cons_self
    have h2 := ih (fun x hx => h x (List.mem_cons_of_mem _ hx))
    simp only [sb]; split <;> omega
theorem gat_K (l : List (Nat × Int × Int)) : ∀ (S : Nat → Nat → Int) (v : Nat), (∀ u ∈ l, 0 ≤ u.2.1 ∧ 0 ≤ u.2.2) → 0 ≤ S v 3 → 0 ≤ S v 4 → S v 3 + sa v l < 18446744073709551616 → S v 4 + sb v l < 18446744073709551616 →
    (gat gK S l v 0 = S v 0 ∧ gat gK S l v 1 = S v 1 ∧ gat gK S l v 2 = S v 2 ∧ gat gK S l v 3 = S v 3 + sa v l ∧ gat gK S l v 4 = S v 4 + sb v l) := by
  induction l with
  | nil => intro S v _ _ _ _ _; refine ⟨rfl, rfl, rfl, ?_, ?_⟩ <;> simp [gat, sa, sb]
  | cons u l ih =>
    intro S v hu h3 h4 ha hb
    obtain ⟨to, a, b⟩ := u
    have h0 := hu _ List.mem_cons_self
    dsimp only at h0
    have hu' : ∀ u ∈ l, 0 ≤ u.2.1 ∧ 0 ≤ u.2.2 := fun u hx => hu u (List.mem_cons_of_mem _ hx)
    have hg : gat gK S ((to, a, b) :: l) = gat gK (g1 gK S (to, a, b)) l := rfl
    have pa := sa_pos v l (fun u hx => (hu' u hx).1)
    have pb := sb_pos v l (fun u hx => (hu' u hx).2)
    rw [hg]
    simp only [sa, sb] at ha hb ⊢
    by_cases e : to = v
    · subst e
      simp only [if_true] at ha hb ⊢
      have e3 : g1 gK S (to, a, b) to 3 = S to 3 + a := by
        show ups S to _ to 3 = _
        unfold ups
        rw [if_pos rfl]
        show up (up (S to) 3 (IntKind.u64.wrap (S to 3 + a))) 4 (IntKind.u64.wrap (up (S to) 3 (IntKind.u64.wrap (S to 3 + a)) 4 + b)) 3 = _
        rw [up_ne _ _ _ _ (by decide), up_eq]
        exact wu _ (by omega) (by omega)
      have e4 : g1 gK S (to, a, b) to 4 = S to 4 + b := by
        show ups S to _ to 4 = _
        unfold ups
        rw [if_pos rfl]
        show up (up (S to) 3 (IntKind.u64.wrap (S to 3 + a))) 4 (IntKind.u64.wrap (up (S to) 3 (IntKind.u64.wrap (S to 3 + a)) 4 + b)) 4 = _
        rw [up_eq, up_ne _ _ _ _ (by decide)]
        exact wu _ (by omega) (by omega)
      have e0 : ∀ i, i ≠ 3 → i ≠ 4 → g1 gK S (to, a, b) to i = S to i := by
        intro i i3 i4
        show ups S to _ to i = _
        unfold ups
        rw [if_pos rfl]
        show up (up (S to) 3 (IntKind.u64.wrap (S to 3 + a))) 4 (IntKind.u64.wrap (up (S to) 3 (IntKind.u64.wrap (S to 3 + a)) 4 + b)) i = _
        rw [up_ne _ _ _ _ i4, up_ne _ _ _ _ i3]
      obtain ⟨k0, k1, k2, k3, k4⟩ := ih (g1 gK S (to, a, b)) to hu' (by rw [e3]; omega) (by rw [e4]; omega) (by rw [e3]; omega) (by rw [e4]; omega)
      rw [e0 0 (by decide) (by decide)] at k0
      rw [e0 1 (by decide) (by decide)] at k1
      rw [e0 2 (by decide) (by decide)] at k2
      rw [e3] at k3
      rw [e4] at k4
      exact ⟨k0, k1, k2, by omega, by omega⟩
    · simp only [if_neg e] at ha hb ⊢
      have e' : g1 gK S (to, a, b) v = S v := by
        show ups S to _ v = _
        unfold ups
        rw [if_neg (fun h => e (Eq.symm h))]
      obtain ⟨k0, k1, k2, k3, k4⟩ := ih (g1 gK S (to, a, b)) v hu' (by rw [e']; exact h3) (by rw [e']; exact h4) (by rw [e']; omega) (by rw [e']; omega)
      rw [e'] at k0 k1 k2 k3 k4
      exact ⟨k0, k1, k2, by omega, by omega⟩
theorem coSc_pos (c s : Nat → Int) (x y : Nat) : 0 ≤ (coSc c s x y).1 ∧ 0 ≤ (coSc c s x y).2.1 := ⟨(coSc_ok c s x y).1.1, (coSc_ok c s x y).2.1⟩
theorem us_pos (c : Nat → Int) (S : Nat → Nat → Int) (E : Nat → Int × Int × Int) (i : Nat) : ∀ u ∈ us gK c S E i, 0 ≤ u.2.1 ∧ 0 ≤ u.2.2 := by
  induction i with
  | zero => intro u hu; simp [us] at hu
  | succ i ih =>
    intro u hu
    simp only [us, usE, List.mem_append] at hu
    rcases hu with h | h | h
    · exact ih u h
    · unfold sndL at h
      split at h
      · simp at h; subst h; exact coSc_pos _ _ _ _
      · simp at h
    · unfold sndL at h
      split at h
      · simp at h; subst h; exact coSc_pos _ _ _ _
      · simp at h
/-- What is sent to a vertex of Core, added up. -/
theorem us_sum {E : Nat → Int × Int × Int} {m n : Nat} (hI : EIn n m E) (c : Nat → Int) (S : Nat → Nat → Int) (v : Nat) : ∀ i, i ≤ m → sa v (us gK c S E i) = ((nbc E v (fun w => S w 1 == 1) i : Nat) : Int) ∧ sb v (us gK c S E i) = ((if c 0 = 0 then 2 * lpc E v i else 0 : Nat) : Int) := by
  intro i
  induction i with
  | zero => intro _; exact ⟨rfl, by simp [us, sb, lpc]⟩
  | succ i ih =>
    intro hi
    obtain ⟨i1, i2⟩ := ih (by omega)
    obtain ⟨x, y, hx, hy, hxn, hyn⟩ := hI i (by omega)
    have ex : (E i).1.toNat = x := by omega
    have ey : (E i).2.1.toNat = y := by omega
    have e1 : gK.sc c (S x) x y false = coSc c (S x) x y := rfl
    have e2 : gK.sc c (S y) x y true = coSc c (S y) x y := rfl
    simp only [us, usE, ex, ey, sa_append, sb_append, i1, i2, e1, e2, nbc, lpc]
    simp only [hx, hy, nb1, Int.toNat_natCast]
    by_cases h : x = y
    · subst h
      by_cases h0 : c 0 = 0
      · by_cases hv : x = v
        · subst hv; simp [coSc, h0, sndL, sa, sb]; omega
        · have hv' : ¬ (x : Int) = (v : Int) := by omega
          simp [coSc, h0, sndL, sa, sb, hv, hv']
      · simp [coSc, h0, sndL, sa, sb]
    · have hne : ¬ (x : Int) = (y : Int) := by omega
      have a1 : sndL (coSc c (S x) x y) y = if S x 1 = 1 then [(y, 1, 0)] else [] := by
        unfold coSc sndL
        rw [if_neg h]
        by_cases k : S x 1 = 1
        · rw [if_pos k, if_pos k, if_pos rfl]
        · rw [if_neg k, if_neg k, if_neg (by decide)]
      have a2 : sndL (coSc c (S y) x y) x = if S y 1 = 1 then [(x, 1, 0)] else [] := by
        unfold coSc sndL
        rw [if_neg h]
        by_cases k : S y 1 = 1
        · rw [if_pos k, if_pos k, if_pos rfl]
        · rw [if_neg k, if_neg k, if_neg (by decide)]
      have q1 : ((x : Int) = (v : Int)) = (x = v) := by simp [Int.ofNat_inj]
      have q2 : ((y : Int) = (v : Int)) = (y = v) := by simp [Int.ofNat_inj]
      rw [a1, a2]
      have b1 : sa v (if S x 1 = 1 then [(y, 1, 0)] else []) = if y = v ∧ S x 1 = 1 then 1 else 0 := by
        by_cases k : S x 1 = 1 <;> by_cases k2 : y = v <;> simp [k, k2, sa]
      have b2 : sa v (if S y 1 = 1 then [(x, 1, 0)] else []) = if x = v ∧ S y 1 = 1 then 1 else 0 := by
        by_cases k : S y 1 = 1 <;> by_cases k2 : x = v <;> simp [k, k2, sa]
      have b3 : sb v (if S x 1 = 1 then [(y, 1, 0)] else []) = 0 := by
        by_cases k : S x 1 = 1 <;> simp [k, sb]
      have b4 : sb v (if S y 1 = 1 then [(x, 1, 0)] else []) = 0 := by
        by_cases k : S y 1 = 1 <;> simp [k, sb]
      rw [b1, b2, b3, b4]
      simp only [q1, q2, hne, ne_eq, not_false_eq_true, true_and, false_and, if_false, beq_iff_eq]
      refine ⟨?_, by split <;> omega⟩
      by_cases k1 : y = v ∧ S x 1 = 1 <;> by_cases k2 : x = v ∧ S y 1 = 1
      · simp only [if_pos k1, if_pos k2]; omega
      · simp only [if_pos k1, if_neg k2]; omega
      · simp only [if_neg k1, if_pos k2]; omega
      · simp only [if_neg k1, if_neg k2]; omega
end Wp
end Go.Proofs.YtipnlcnikpngcaaDoor
