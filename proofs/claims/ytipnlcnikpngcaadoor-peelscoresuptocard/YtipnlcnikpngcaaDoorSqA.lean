import Derived.Test.YtipnlcnikpngcaaDoorSpM
namespace Go.Proofs.YtipnlcnikpngcaaDoor
namespace Wp
open Go.RowKit
set_option linter.unusedVariables false
set_option maxRecDepth 8000
/-- Neighbours by one of the edges. -/
def Adj (E : Nat → Int × Int × Int) (m v w : Nat) : Prop := v ≠ w ∧ ∃ i, i < m ∧ (((E i).1 = v ∧ (E i).2.1 = w) ∨ ((E i).1 = w ∧ (E i).2.1 = v))
theorem Adj.symm {E : Nat → Int × Int × Int} {m v w : Nat} (h : Adj E m v w) : Adj E m w v := by
  obtain ⟨h1, i, hi, h2⟩ := h
  exact ⟨Ne.symm h1, i, hi, h2.symm⟩
/-- The priorities are all different. -/
theorem pr_inj {N A C : Nat} (h : Nat.gcd N A = 1) {v w : Nat} (hv : v < N) (hw : w < N) (e : pr N A C v = pr N A C w) : v = w := by
  have key : ∀ a b : Nat, a ≤ b → b < N → pr N A C a = pr N A C b → a = b := by
    intro a b hab hb e
    unfold pr at e
    have h1 : (A * b + C - (A * a + C)) % N = 0 := Nat.sub_mod_eq_zero_of_mod_eq e.symm
    have h2 : A * b + C - (A * a + C) = A * (b - a) := by rw [Nat.mul_sub]; omega
    rw [h2] at h1
    have h3 : N ∣ A * (b - a) := Nat.dvd_of_mod_eq_zero h1
    have h4 : N ∣ b - a := Nat.Coprime.dvd_of_dvd_mul_left h h3
    rcases Nat.eq_zero_or_pos (b - a) with h5 | h5
    · omega
    · have := Nat.le_of_dvd h5 h4
      omega
  rcases Nat.le_total v w with h1 | h1
  · exact key v w h1 hw e
  · exact (key w v h1 hv e.symm).symm
/-- The first independent set. -/
def Mis (E : Nat → Int × Int × Int) (m n : Nat) (p : Nat → Nat) (M : Nat → Prop) : Prop := ∀ v, v < n → (M v ↔ ∀ w, w < n → Adj E m v w → p w < p v → ¬ M w)
theorem mis_is (E : Nat → Int × Int × Int) (m n : Nat) (p : Nat → Nat) : ∃ M, Mis E m n p M := by
  have key : ∀ k, ∃ M : Nat → Prop, ∀ v, v < n → p v < k → (M v ↔ ∀ w, w < n → Adj E m v w → p w < p v → ¬ M w) := by
    intro k
    induction k with
    | zero => exact ⟨fun _ => True, fun v _ h => absurd h (by omega)⟩
    | succ k ih =>
      obtain ⟨M, hM⟩ := ih
      refine ⟨fun v => if p v = k then (∀ w, w < n → Adj E m v w → p w < k → ¬ M w) else M v, fun v hv hk => ?_⟩
      by_cases e : p v = k
      · simp only [e, if_true]
        constructor
        · intro h w hw ha hl
          rw [if_neg (by omega)]
          exact h w hw ha hl
        · intro h w hw ha hl
          have := h w hw ha hl
          rw [if_neg (by omega)] at this
          exact this
      · simp only [e, if_false]
        rw [hM v hv (by omega)]
        constructor
        · intro h w hw ha hl
          rw [if_neg (by omega)]
          exact h w hw ha hl
        · intro h w hw ha hl
          have := h w hw ha hl
          rw [if_neg (by omega)] at this
          exact this
  obtain ⟨B, hB⟩ : ∃ B, ∀ v, v < n → p v < B := by
    clear key
    induction n with
    | zero => exact ⟨0, fun v h => by omega⟩
    | succ n ih =>
      obtain ⟨B, hB⟩ := ih
      refine ⟨max B (p n + 1), fun v hv => ?_⟩
      by_cases e : v = n
      · subst e; omega
      · have := hB v (by omega); omega
  obtain ⟨M, hM⟩ := key B
  exact ⟨M, fun v hv => hM v hv (hB v hv)⟩
theorem mis_one {E : Nat → Int × Int × Int} {m n : Nat} {p : Nat → Nat} {M M' : Nat → Prop} (h : Mis E m n p M) (h' : Mis E m n p M') : ∀ v, v < n → (M v ↔ M' v) := by
  have key : ∀ k v, v < n → p v < k → (M v ↔ M' v) := by
    intro k
    induction k with
    | zero => intro v _ h; omega
    | succ k ih =>
      intro v hv hk
      rw [h v hv, h' v hv]
      constructor
      · intro q w hw ha hl hm; exact q w hw ha hl ((ih w hw (by omega)).2 hm)
      · intro q w hw ha hl hm; exact q w hw ha hl ((ih w hw (by omega)).1 hm)
  intro v hv
  exact key (p v + 1) v hv (by omega)
theorem mis_indep {E : Nat → Int × Int × Int} {m n : Nat} {p : Nat → Nat} {M : Nat → Prop} (h : Mis E m n p M) (inj : ∀ v w, v < n → w < n → p v = p w → v = w) {v w : Nat} (hv : v < n) (hw : w < n) (ha : Adj E m v w) (hm : M v) : ¬ M w := by
  intro hm'
  rcases Nat.lt_trichotomy (p v) (p w) with c | c | c
  · exact (h w hw).1 hm' v hv ha.symm c hm
  · exact ha.1 (inj v w hv hw c)
  · exact (h v hv).1 hm w hw ha c hm'
/-- What comes to a vertex of Set. -/
theorem us_mem {N A C : Nat} {c : Nat → Int} {S : Nat → Nat → Int} {E : Nat → Int × Int × Int} {m n : Nat} (hI : EIn n m E) (v : Nat) (a b : Int) : ∀ i, i ≤ m → ((v, a, b) ∈ us (gS N A C) c S E i ↔ ∃ w, w < n ∧ Adj E i v w ∧ ((S w 1 = 0 ∧ a = ((pr N A C w : Nat) : Int) ∧ b = 0) ∨ (S w 1 = 1 ∧ a = all64 ∧ b = 1))) := by
  have one : ∀ (x y w : Nat) (s : Nat → Int) (k : Bool) (to : Nat), (if k = true then y else x) = w → ((v, a, b) ∈ sndL (setSc N A C s x y k) to ↔ v = to ∧ x ≠ y ∧ ((s 1 = 0 ∧ a = ((pr N A C w : Nat) : Int) ∧ b = 0) ∨ (s 1 = 1 ∧ a = all64 ∧ b = 1))) := by
    intro x y w s k to hw
    unfold sndL setSc
    rw [hw]
    by_cases h1 : x = y
    · simp [h1]
    · by_cases h2 : s 1 = 0
      · simp [h1, h2]
      · by_cases h3 : s 1 = 1
        · simp [h1, h3]
        · simp [h1, h2, h3]
  intro i
  induction i with
  | zero =>
    intro _
    constructor
    · intro h; simp [us] at h
    · rintro ⟨w, _, ⟨_, i, hi, _⟩, _⟩; omega
  | succ i ih =>
    intro hi
    obtain ⟨x, y, hx, hy, hxn, hyn⟩ := hI i (by omega)
    have ex : (E i).1.toNat = x := by omega
    have ey : (E i).2.1.toNat = y := by omega
    simp only [us, usE, ex, ey, List.mem_append]
    rw [ih (by omega)]
    have o1 := one x y x (S x) false y rfl
    have o2 := one x y y (S y) true x rfl
    have e1 : (gS N A C).sc c (S x) x y false = setSc N A C (S x) x y false := rfl
    have e2 : (gS N A C).sc c (S y) x y true = setSc N A C (S y) x y true := rfl
    rw [e1, e2, o1, o2]
    constructor
    · rintro (⟨w, hw, ⟨h1, k, hk, h2⟩, h3⟩ | ⟨h1, h2, h3⟩ | ⟨h1, h2, h3⟩)
      · exact ⟨w, hw, ⟨h1, k, by omega, h2⟩, h3⟩
      · subst h1; exact ⟨x, hxn, ⟨fun e => h2 e.symm, i, by omega, Or.inr ⟨hx, hy⟩⟩, h3⟩
      · subst h1; exact ⟨y, hyn, ⟨h2, i, by omega, Or.inl ⟨hx, hy⟩⟩, h3⟩
    · rintro ⟨w, hw, ⟨h1, k, hk, h2⟩, h3⟩
      by_cases hki : k = i
      · subst hki
        rcases h2 with ⟨h2, h4⟩ | ⟨h2, h4⟩
        · have ev : v = x := by omega
          have ew : w = y := by omega
          subst ev ew
          exact Or.inr (Or.inr ⟨rfl, h1, h3⟩)
        · have ev : v = y := by omega
          have ew : w = x := by omega
          subst ev ew
          exact Or.inr (Or.inl ⟨rfl, fun e => h1 e.symm, h3⟩)
      · exact Or.inl ⟨w, hw, ⟨h1, k, by omega, h2⟩, h3⟩
/-- What is gathered. -/
theorem gat_S {N A C : Nat} (l : List (Nat × Int × Int)) : ∀ (S : Nat → Nat → Int) (v : Nat), (S v 3 = 0 ∨ S v 3 = 1) → (∀ u ∈ l, u.2.2 = 0 ∨ u.2.2 = 1) →
    (gat (gS N A C) S l v 0 = S v 0 ∧ gat (gS N A C) S l v 1 = S v 1 ∧ (∀ x : Int, x < gat (gS N A C) S l v 2 ↔ x < S v 2 ∧ ∀ u ∈ l, u.1 = v → x < u.2.1) ∧ (gat (gS N A C) S l v 3 = 0 ↔ S v 3 = 0 ∧ ∀ u ∈ l, u.1 = v → u.2.2 = 0)) := by
  induction l with
  | nil => intro S v _ _; exact ⟨rfl, rfl, fun x => by simp [gat], by simp [gat]⟩
  | cons u l ih =>
    intro S v h3 hb
    obtain ⟨to, a, b⟩ := u
    have hbu := hb _ List.mem_cons_self
    dsimp only at hbu
    have hg : gat (gS N A C) S ((to, a, b) :: l) = gat (gS N A C) (g1 (gS N A C) S (to, a, b)) l := rfl
    rw [hg]
    by_cases e : v = to
    · subst e
      have e0 : g1 (gS N A C) S (v, a, b) v 0 = S v 0 := by simp [g1, ups, gS, up]
      have e1 : g1 (gS N A C) S (v, a, b) v 1 = S v 1 := by simp [g1, ups, gS, up]
      have e2 : g1 (gS N A C) S (v, a, b) v 2 = min (S v 2) a := by simp [g1, ups, gS, up]
      have e3 : g1 (gS N A C) S (v, a, b) v 3 = bits .or .u64 (S v 3) b := by simp [g1, ups, gS, up]
      obtain ⟨k0, k1, k2, k3⟩ := ih (g1 (gS N A C) S (v, a, b)) v (by rw [e3]; exact or_bit h3 hbu) (fun u hu => hb u (List.mem_cons_of_mem _ hu))
      rw [e0] at k0
      rw [e1] at k1
      rw [e2] at k2
      rw [e3] at k3
      have h00 : bits .or .u64 0 0 = 0 := by decide
      have h01 : bits .or .u64 0 1 = 1 := by decide
      have h10 : bits .or .u64 1 0 = 1 := by decide
      have h11 : bits .or .u64 1 1 = 1 := by decide
      refine ⟨k0, k1, fun x => ?_, ?_⟩
      · rw [k2]
        simp only [List.mem_cons, forall_eq_or_imp, forall_const]
        constructor
        · rintro ⟨q1, q2⟩; exact ⟨by omega, by omega, q2⟩
        · rintro ⟨q1, q2, q3⟩; exact ⟨by omega, q3⟩
      · rw [k3]
        simp only [List.mem_cons, forall_eq_or_imp, forall_const]
        rcases h3 with h3 | h3 <;> rcases hbu with hbu | hbu <;> rw [h3, hbu] <;> simp [h00, h01, h10, h11]
    · have e' : g1 (gS N A C) S (to, a, b) v = S v := by simp [g1, ups, e]
      obtain ⟨k0, k1, k2, k3⟩ := ih (g1 (gS N A C) S (to, a, b)) v (by rw [e']; exact h3) (fun u hu => hb u (List.mem_cons_of_mem _ hu))
      rw [e'] at k0 k1 k2 k3
      refine ⟨k0, k1, fun x => ?_, ?_⟩
      · rw [k2]
        simp only [List.mem_cons, forall_eq_or_imp]
        constructor
        · rintro ⟨q1, q2⟩; exact ⟨q1, fun h => absurd h.symm e, q2⟩
        · rintro ⟨q1, _, q3⟩; exact ⟨q1, q3⟩
      · rw [k3]
        simp only [List.mem_cons, forall_eq_or_imp]
        constructor
        · rintro ⟨q1, q2⟩; exact ⟨q1, fun h => absurd h.symm e, q2⟩
        · rintro ⟨q1, _, q3⟩; exact ⟨q1, q3⟩
theorem mem_ord (p : Bool) (l : List (Nat × Int × Int)) (u : Nat × Int × Int) : u ∈ ord p l ↔ u ∈ l := by unfold ord; split <;> simp
end Wp
end Go.Proofs.YtipnlcnikpngcaaDoor
