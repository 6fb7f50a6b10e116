import Derived.Test.YtipnlcnikpngcaaDoorScA
namespace Go.Proofs.YtipnlcnikpngcaaDoor
namespace Wp
open Go.RowKit
set_option linter.unusedVariables false
set_option maxRecDepth 8000
/-- v lies in a part of which every vertex has k others or more. -/
def InCore (E : Nat → Int × Int × Int) (m n k v : Nat) : Prop := ∃ X : Nat → Bool, X v = true ∧ ∀ u, X u = true → u < n ∧ k ≤ nbc E u X m
theorem InCore.mono {E : Nat → Int × Int × Int} {m n j k v : Nat} (h : InCore E m n k v) (hjk : j ≤ k) : InCore E m n j v := by
  obtain ⟨X, h1, h2⟩ := h
  exact ⟨X, h1, fun u hu => ⟨(h2 u hu).1, Nat.le_trans hjk (h2 u hu).2⟩⟩
/-- There is one number of that kind. -/
theorem core_one {E : Nat → Int × Int × Int} {m n j k v : Nat} (h1 : InCore E m n j v) (h2 : ¬ InCore E m n (j + 1) v) (h3 : InCore E m n k v) (h4 : ¬ InCore E m n (k + 1) v) : j = k := by
  rcases Nat.lt_trichotomy j k with h | h | h
  · exact absurd (h3.mono h) h2
  · exact h
  · exact absurd (h1.mono h) h4
/-- What holds between two rounds of Core, at k. -/
structure KInv (E : Nat → Int × Int × Int) (m n k : Nat) (S : Nat → Nat → Int) : Prop where
  one : ∀ v, v < n → S v 1 = 0 ∨ S v 1 = 1 ∨ S v 1 = 2
  z3 : ∀ v, v < n → S v 3 = 0
  z4 : ∀ v, v < n → S v 4 = 0
  left : ∀ v, v < n → S v 1 = 0 → S v 2 = ((nbc E v (fun u => S u 1 != 2) m : Nat) : Int)
  inn : ∀ v, v < n → S v 1 = 0 → InCore E m n k v
  out : ∀ v, v < n → S v 1 ≠ 0 → ∃ j : Nat, S v 0 = (j : Int) ∧ j ≤ k ∧ InCore E m n j v ∧ ¬ InCore E m n (j + 1) v
theorem nbc_split {E : Nat → Int × Int × Int} {m n : Nat} (hI : EIn n m E) {S : Nat → Nat → Int} (h : ∀ v, v < n → S v 1 = 0 ∨ S v 1 = 1 ∨ S v 1 = 2) (v : Nat) : nbc E v (fun u => S u 1 != 2) m = nbc E v (fun u => S u 1 == 0) m + nbc E v (fun u => S u 1 == 1) m := by
  rw [← nbc_add]
  · refine nbc_congr hI v (fun u hu => ?_)
    rcases h u hu with e | e | e <;> rw [e] <;> decide
  · rintro u ⟨h1, h2⟩
    simp only [beq_iff_eq] at h1 h2
    omega
/-- What a vertex has gathered behind a round's scatter. -/
theorem got_K {E : Nat → Int × Int × Int} {m n : Nat} (hI : EIn n m E) (hm : m ≤ 1048576) {c : Nat → Int} {S : Nat → Nat → Int} (p : Bool) (v : Nat) (z3 : S v 3 = 0) (z4 : S v 4 = 0) :
    (gat gK S (ord p (us gK c S E m)) v 0 = S v 0 ∧ gat gK S (ord p (us gK c S E m)) v 1 = S v 1 ∧ gat gK S (ord p (us gK c S E m)) v 2 = S v 2 ∧ gat gK S (ord p (us gK c S E m)) v 3 = ((nbc E v (fun u => S u 1 == 1) m : Nat) : Int) ∧ gat gK S (ord p (us gK c S E m)) v 4 = ((if c 0 = 0 then 2 * lpc E v m else 0 : Nat) : Int)) := by
  have hs := us_sum hI c S v m (Nat.le_refl _)
  have hn := nbc_le E v (fun u => S u 1 == 1) m
  have hl := lpc_le E v m
  have hl2 : (if c 0 = 0 then 2 * lpc E v m else 0) ≤ 2 * m := by split <;> omega
  have hp : ∀ u ∈ ord p (us gK c S E m), 0 ≤ u.2.1 ∧ 0 ≤ u.2.2 := fun u hu => us_pos c S E m u ((mem_ord _ _ _).1 hu)
  obtain ⟨k0, k1, k2, k3, k4⟩ := gat_K (ord p (us gK c S E m)) S v hp (by rw [z3]; exact Int.le_refl _) (by rw [z4]; exact Int.le_refl _) (by rw [z3, sa_ord, hs.1]; omega) (by rw [z4, sb_ord, hs.2]; omega)
  rw [sa_ord, hs.1, z3] at k3
  rw [sb_ord, hs.2, z4] at k4
  exact ⟨k0, k1, k2, by omega, by omega⟩
theorem coLeft_eq (s : Nat → Int) (L a b d : Nat) (h2 : s 2 = L) (h3 : s 3 = a) (h4 : s 4 = b) (h : L = d + a + b) (hL : L ≤ 100000000) : coLeft s = (d : Int) := by
  unfold coLeft
  rw [h2, h3, h4, wu ((L : Int) - a) (by omega) (by omega), wu _ (by omega) (by omega)]
  omega
/-- A vertex behind a later round. -/
theorem step_K {E : Nat → Int × Int × Int} {m n k : Nat} (hI : EIn n m E) (hm : m ≤ 1048576) {c : Nat → Int} {S : Nat → Nat → Int} (c0 : c 0 = 1) (c1 : c 1 = (k : Int)) (p : Bool) (h : KInv E m n k S) (v : Nat) (hv : v < n) :
    (S v 1 ≠ 0 → nxS gK c S E m p v 0 = S v 0 ∧ nxS gK c S E m p v 1 = 2) ∧
    (S v 1 = 0 → nxS gK c S E m p v 2 = ((nbc E v (fun u => S u 1 == 0) m : Nat) : Int) ∧ ((nbc E v (fun u => S u 1 == 0) m ≤ k ∧ nxS gK c S E m p v 0 = (k : Int) ∧ nxS gK c S E m p v 1 = 1) ∨ (k < nbc E v (fun u => S u 1 == 0) m ∧ nxS gK c S E m p v 1 = 0))) ∧
    nxS gK c S E m p v 3 = 0 ∧ nxS gK c S E m p v 4 = 0 := by
  obtain ⟨k0, k1, k2, k3, k4⟩ := got_K (c := c) hI hm p v (h.z3 v hv) (h.z4 v hv)
  have e : nxS gK c S E m p v = (coAp c (gat gK S (ord p (us gK c S E m)) v)).1 := rfl
  rw [if_neg (by rw [c0]; decide)] at k4
  rw [e]
  generalize gat gK S (ord p (us gK c S E m)) v = g at k0 k1 k2 k3 k4
  unfold coAp
  rw [k1, k0]
  refine ⟨fun q => ?_, fun q => ?_, ?_, ?_⟩
  · rw [if_neg q]; exact ⟨rfl, rfl⟩
  · rw [if_pos q, if_neg (by rw [c0]; decide)]
    have hL : coLeft g = ((nbc E v (fun u => S u 1 == 0) m : Nat) : Int) := by
      have hn := nbc_le E v (fun u => S u 1 != 2) m
      exact coLeft_eq g _ _ 0 _ (k2.trans (h.left v hv q)) k3 k4 (nbc_split hI h.one v) (by omega)
    rw [hL, c1]
    by_cases hk : nbc E v (fun u => S u 1 == 0) m ≤ k
    · rw [if_pos (by omega)]
      exact ⟨rfl, Or.inl ⟨hk, rfl, rfl⟩⟩
    · rw [if_neg (by omega)]
      exact ⟨rfl, Or.inr ⟨by omega, rfl⟩⟩
  · by_cases q : S v 1 = 0
    · rw [if_pos q, if_neg (by rw [c0]; decide)]; split <;> rfl
    · rw [if_neg q]; rfl
  · by_cases q : S v 1 = 0
    · rw [if_pos q, if_neg (by rw [c0]; decide)]; split <;> rfl
    · rw [if_neg q]; rfl
theorem inv_K {E : Nat → Int × Int × Int} {m n k : Nat} (hI : EIn n m E) (hm : m ≤ 1048576) {c : Nat → Int} {S : Nat → Nat → Int} (c0 : c 0 = 1) (c1 : c 1 = (k : Int)) (p : Bool) (h : KInv E m n k S) : KInv E m n k (nxS gK c S E m p) := by
  have st := step_K hI hm c0 c1 p h
  have two : ∀ u, u < n → (nxS gK c S E m p u 1 != 2) = (S u 1 == 0) := by
    intro u hu
    obtain ⟨a, b, _⟩ := st u hu
    by_cases q : S u 1 = 0
    · rcases (b q).2 with ⟨_, _, e⟩ | ⟨_, e⟩ <;> rw [e, q] <;> decide
    · rw [(a q).2]
      simp [q]
  refine ⟨fun v hv => ?_, fun v hv => (st v hv).2.2.1, fun v hv => (st v hv).2.2.2, fun v hv h1 => ?_, fun v hv h1 => ?_, fun v hv h1 => ?_⟩
  · obtain ⟨a, b, _⟩ := st v hv
    by_cases q : S v 1 = 0
    · rcases (b q).2 with ⟨_, _, e⟩ | ⟨_, e⟩
      · exact Or.inr (Or.inl e)
      · exact Or.inl e
    · exact Or.inr (Or.inr (a q).2)
  · obtain ⟨a, b, _⟩ := st v hv
    by_cases q : S v 1 = 0
    · rw [(b q).1, nbc_congr hI v two]
    · rw [(a q).2] at h1; exact absurd h1 (by decide)
  · obtain ⟨a, b, _⟩ := st v hv
    by_cases q : S v 1 = 0
    · exact h.inn v hv q
    · rw [(a q).2] at h1; exact absurd h1 (by decide)
  · obtain ⟨a, b, _⟩ := st v hv
    by_cases q : S v 1 = 0
    · rcases (b q).2 with ⟨hk, e0, e⟩ | ⟨_, e⟩
      · refine ⟨k, e0, Nat.le_refl _, h.inn v hv q, ?_⟩
        rintro ⟨X, hX, hX2⟩
        have h2 := nbc_mono hI v (P := X) (Q := fun u => S u 1 == 0) (fun u hu hXu => by
          refine Classical.byContradiction fun hc => ?_
          have hc' : S u 1 ≠ 0 := fun e => hc (by rw [e]; rfl)
          obtain ⟨j, _, hj, _, hn⟩ := h.out u hu hc'
          exact hn ((InCore.mono (k := k + 1) ⟨X, hXu, hX2⟩ (by omega)))) m (Nat.le_refl _)
        have h3 := (hX2 v hX).2
        omega
      · exact absurd e h1
    · rw [(a q).1]
      exact h.out v hv q
/-- No news, and all that wait have k' or more: the next number. -/
theorem raise_K {E : Nat → Int × Int × Int} {m n k k' : Nat} (hI : EIn n m E) {S : Nat → Nat → Int} (h : KInv E m n k S) (hk : k ≤ k') (hn : ∀ v, v < n → S v 1 ≠ 1) (hl : ∀ v, v < n → S v 1 = 0 → (k' : Int) ≤ S v 2) : KInv E m n k' S := by
  refine ⟨h.one, h.z3, h.z4, h.left, fun v hv h1 => ?_, fun v hv h1 => ?_⟩
  · refine ⟨fun u => decide (u < n) && S u 1 == 0, by simp [hv, h1], fun u hu => ?_⟩
    simp only [Bool.and_eq_true, decide_eq_true_eq, beq_iff_eq] at hu
    refine ⟨hu.1, ?_⟩
    have h2 := hl u hu.1 hu.2
    rw [h.left u hu.1 hu.2] at h2
    have h3 : nbc E u (fun u => S u 1 != 2) m = nbc E u (fun u => decide (u < n) && S u 1 == 0) m := by
      refine nbc_congr hI u (fun w hw => ?_)
      rcases h.one w hw with e | e | e
      · simp [hw, e]
      · exact absurd e (hn w hw)
      · simp [hw, e]
    omega
  · obtain ⟨j, h2, h3, h4⟩ := h.out v hv h1
    exact ⟨j, h2, by omega, h4⟩
/-- What is folded over the vertices. -/
theorem fs_K (S : Nat → Nat → Int) (v : Nat) (hv : v ≤ 1000) :
    fs gK S v 0 = (cw S v : Int) ∧ (0 ≤ fs gK S v 2 ∧ fs gK S v 2 ≤ v ∧ (fs gK S v 2 = 0 ↔ ∀ u, u < v → S u 1 ≠ 1)) ∧ (cw S v ≠ 0 → (∃ u, u < v ∧ S u 1 = 0 ∧ S u 2 = fs gK S v 1) ∧ ∀ u, u < v → S u 1 = 0 → fs gK S v 1 ≤ S u 2) := by
  induction v with
  | zero => exact ⟨rfl, ⟨Int.le_refl _, Int.le_refl _, by simp [fs]⟩, fun h => absurd rfl h⟩
  | succ v ih =>
    obtain ⟨i0, ⟨i2, i3, i4⟩, i1⟩ := ih (by omega)
    have hc := cw_le S v
    have e : fs gK S (v + 1) = coFo (fs gK S v) (S v) := rfl
    rw [e]
    generalize fs gK S v = g at *
    have hlt : ∀ u, u < v + 1 ↔ u < v ∨ u = v := fun u => by omega
    unfold coFo
    by_cases h0 : S v 1 = 0
    · have hcw : cw S (v + 1) = cw S v + 1 := by simp [cw, h0]
      have hw : IntKind.u64.wrap (g 0 + 1) = ((cw S (v + 1) : Nat) : Int) := by rw [i0, wu _ (by omega) (by omega), hcw]; omega
      rw [if_pos h0, hw]
      by_cases hm : g 0 = 0 ∨ S v 2 < g 1
      · rw [if_pos hm]
        refine ⟨up_eq _ _ _, ?_, fun _ => ?_⟩
        · rw [up_ne _ _ _ _ (by decide), up_ne _ _ _ _ (by decide)]
          refine ⟨i2, by omega, i4.trans ⟨fun h u hu => ?_, fun h u hu => h u (by omega)⟩⟩
          rcases (hlt u).1 hu with k | k
          · exact h u k
          · subst k; omega
        · rw [up_ne _ _ _ _ (by decide), up_eq]
          refine ⟨⟨v, by omega, h0, rfl⟩, fun u hu h1 => ?_⟩
          rcases (hlt u).1 hu with k | k
          · rcases hm with hm | hm
            · exact absurd h1 ((cw_zero S v).1 (by omega) u k)
            · by_cases hz : cw S v = 0
              · exact absurd h1 ((cw_zero S v).1 hz u k)
              · have := (i1 hz).2 u k h1; omega
          · subst k; exact Int.le_refl _
      · rw [if_neg hm]
        refine ⟨up_eq _ _ _, ?_, fun _ => ?_⟩
        · rw [up_ne _ _ _ _ (by decide)]
          refine ⟨i2, by omega, i4.trans ⟨fun h u hu => ?_, fun h u hu => h u (by omega)⟩⟩
          rcases (hlt u).1 hu with k | k
          · exact h u k
          · subst k; omega
        · rw [up_ne _ _ _ _ (by decide)]
          have hz : cw S v ≠ 0 := fun k => hm (Or.inl (by omega))
          obtain ⟨⟨u, j1, j2, j3⟩, j4⟩ := i1 hz
          refine ⟨⟨u, by omega, j2, j3⟩, fun u hu h1 => ?_⟩
          rcases (hlt u).1 hu with k | k
          · exact j4 u k h1
          · subst k
            have := fun k => hm (Or.inr k)
            omega
    · have hcw : cw S (v + 1) = cw S v := by simp [cw, h0]
      rw [if_neg h0, hcw]
      have i1' : cw S v ≠ 0 → (∃ u, u < v + 1 ∧ S u 1 = 0 ∧ S u 2 = g 1) ∧ ∀ u, u < v + 1 → S u 1 = 0 → g 1 ≤ S u 2 := by
        intro hz
        obtain ⟨⟨u, j1, j2, j3⟩, j4⟩ := i1 hz
        refine ⟨⟨u, by omega, j2, j3⟩, fun u hu h1 => ?_⟩
        rcases (hlt u).1 hu with k | k
        · exact j4 u k h1
        · subst k; exact absurd h1 h0
      by_cases h1 : S v 1 = 1
      · rw [if_pos h1, up_ne _ _ _ _ (by decide), up_eq, up_ne _ _ _ _ (by decide), wu _ (by omega) (by omega)]
        refine ⟨i0, ⟨by omega, by omega, ⟨fun h => by omega, fun h => absurd h1 (h v (by omega))⟩⟩, i1'⟩
      · rw [if_neg h1]
        refine ⟨i0, ⟨i2, by omega, i4.trans ⟨fun h u hu => ?_, fun h u hu => h u (by omega)⟩⟩, i1'⟩
        rcases (hlt u).1 hu with k | k
        · exact h u k
        · subst k; exact h1
end Wp
end Go.Proofs.YtipnlcnikpngcaaDoor
