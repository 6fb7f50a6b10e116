import Derived.Test.YtcepfmeoeepjdaaAvC
namespace Go.Proofs.Ytcepfmeoeepjdaa
namespace Au
open Go.RowKit
set_option linter.unusedVariables false
set_option maxRecDepth 8000
/-- Truths as words. -/
def w01 (H : Nat → Bool) : Nat → Int := fun v => if H v = true then 1 else 0
theorem w01_t {H : Nat → Bool} {v : Nat} (h : H v = true) : w01 H v = 1 := if_pos h
theorem w01_f {H : Nat → Bool} {v : Nat} (h : H v = false) : w01 H v = 0 := if_neg (by rw [h]; simp)
/-- An edge's ends, there or back. -/
def en (bk : Bool) (e : T3) : Nat × Nat := if bk = true then (e.2.1, e.1) else (e.1, e.2.1)
/-- Who is come to from the vertex that his label names. -/
inductive Cl (S : Nat → Nat → Int) (n : Nat) (L : List T3) (bk : Bool) : Nat → Prop
  | base (v : Nat) : v < n → S v 0 = (v : Int) → Cl S n L bk v
  | step (e : T3) : e ∈ L → S (en bk e).1 0 = S (en bk e).2 0 → Cl S n L bk (en bk e).1 → Cl S n L bk (en bk e).2
theorem Cl.mono {S : Nat → Nat → Int} {n : Nat} {L M : List T3} {bk : Bool} (h : ∀ e ∈ L, e ∈ M) {v : Nat} (c : Cl S n L bk v) : Cl S n M bk v := by
  induction c with
  | base v a b => exact .base v a b
  | step e a b c ih => exact .step e (h e a) b ih
/-- Marks that are begun and no more than right. -/
def Mk (S : Nat → Nat → Int) (n : Nat) (L : List T3) (bk : Bool) (H : Nat → Bool) : Prop := (∀ v, v < n → S v 0 = (v : Int) → H v = true) ∧ ∀ v, v < n → H v = true → Cl S n L bk v
def Cd (S : Nat → Nat → Int) (bk : Bool) (H : Nat → Bool) (e : T3) : Prop := S (en bk e).1 0 = S (en bk e).2 0 → H (en bk e).1 = true → H (en bk e).2 = true
theorem Mk.full {S : Nat → Nat → Int} {n : Nat} {L : List T3} {bk : Bool} {H : Nat → Bool} (h : Mk S n L bk H) (hc : ∀ e ∈ L, Cd S bk H e) (v : Nat) (hv : v < n) : H v = true ↔ Cl S n L bk v := by
  refine ⟨h.2 v hv, fun c => ?_⟩
  clear hv
  induction c with
  | base v a b => exact h.1 v a b
  | step e a b c ih => exact hc e a b ih
/-- What an edge carries. -/
def sp (S : Nat → Nat → Int) (bk : Bool) (e : T3) (H : Nat → Bool) : Nat → Bool := fun t => H t || (t == (en bk e).2 && S (en bk e).1 0 == S (en bk e).2 0 && H (en bk e).1)
def nw (S : Nat → Nat → Int) (bk : Bool) (e : T3) (H : Nat → Bool) : Bool := S (en bk e).1 0 == S (en bk e).2 0 && H (en bk e).1 && !H (en bk e).2
theorem sp_old {S : Nat → Nat → Int} {bk : Bool} {e : T3} {H : Nat → Bool} (h : nw S bk e H = false) : sp S bk e H = H := by
  funext t
  unfold sp
  unfold nw at h
  by_cases et : t = (en bk e).2
  · subst et
    cases h1 : (S (en bk e).1 0 == S (en bk e).2 0) <;> cases h2 : H (en bk e).1 <;> cases h3 : H (en bk e).2 <;> simp_all
  · have : (t == (en bk e).2) = false := by simpa using et
    rw [this]; simp
theorem sp_new {S : Nat → Nat → Int} {bk : Bool} {e : T3} {H : Nat → Bool} (h : nw S bk e H = true) (t : Nat) : sp S bk e H t = (t == (en bk e).2 || H t) := by
  unfold sp
  unfold nw at h
  simp only [Bool.and_eq_true] at h
  rw [h.1.1, h.1.2]
  simp [Bool.or_comm]
theorem cd_old {S : Nat → Nat → Int} {bk : Bool} {e : T3} {H : Nat → Bool} (h : nw S bk e H = false) : Cd S bk H e := by
  intro a b
  unfold nw at h
  rw [a, b] at h
  simpa using h
theorem Mk.sp {S : Nat → Nat → Int} {n : Nat} {L : List T3} {bk : Bool} {H : Nat → Bool} (e : T3) (h : Mk S n L bk H) (hu : (en bk e).1 < n) : Mk S n (L ++ [e]) bk (sp S bk e H) := by
  refine ⟨fun v hv hs => ?_, fun v hv ht => ?_⟩
  · unfold Au.sp; rw [h.1 v hv hs]; rfl
  · unfold Au.sp at ht
    cases hv1 : H v with
    | true => exact (h.2 v hv hv1).mono (fun x hx => List.mem_append_left _ hx)
    | false =>
      rw [hv1] at ht
      simp only [Bool.false_or, Bool.and_eq_true, beq_iff_eq] at ht
      obtain ⟨⟨rfl, b⟩, c⟩ := ht
      exact .step e (by simp) b ((h.2 _ hu c).mono (fun x hx => List.mem_append_left _ hx))
/-- How many have no mark. -/
def cn (H : Nat → Bool) : Nat → Nat
  | 0 => 0
  | n + 1 => cn H n + if H n = true then 0 else 1
theorem cn_le {H K : Nat → Bool} (h : ∀ t, H t = true → K t = true) (n : Nat) : cn K n ≤ cn H n := by
  induction n with
  | zero => exact Nat.le_refl _
  | succ n ih =>
    simp only [cn]
    cases hh : H n with
    | true => rw [h n hh]; simp; exact ih
    | false => simp; split <;> omega
theorem cn_lt {H K : Nat → Bool} (h : ∀ t, H t = true → K t = true) {v n : Nat} (hv : v < n) (h1 : H v = false) (h2 : K v = true) : cn K n < cn H n := by
  induction n with
  | zero => omega
  | succ n ih =>
    simp only [cn]
    by_cases e : v = n
    · subst e
      have := cn_le h v
      rw [h1, h2]; simp; omega
    · have h3 := ih (by omega)
      cases hh : H n with
      | true => rw [h n hh]; simp; exact h3
      | false => simp; split <;> omega
theorem cn_ext {H K : Nat → Bool} {n : Nat} (h : ∀ t, t < n → H t = K t) : cn H n = cn K n := by
  induction n with
  | zero => rfl
  | succ n ih => simp only [cn]; rw [ih (fun t ht => h t (by omega)), h n (by omega)]
theorem sp_mono {S : Nat → Nat → Int} {bk : Bool} {e : T3} {H : Nat → Bool} (t : Nat) (h : H t = true) : sp S bk e H t = true := by unfold sp; rw [h]; rfl
theorem cn_nw {S : Nat → Nat → Int} {bk : Bool} {e : T3} {H : Nat → Bool} {n : Nat} (h : nw S bk e H = true) (hv : (en bk e).2 < n) : cn (sp S bk e H) n < cn H n := by
  refine cn_lt (fun t => sp_mono t) hv ?_ ?_
  · unfold nw at h; simp only [Bool.and_eq_true, Bool.not_eq_true'] at h; exact h.2
  · rw [sp_new h]; simp
/-- One pass over the edges. -/
structure Ps (S : Nat → Nat → Int) (n : Nat) (L pre : List T3) (A B H K : Nat → Bool) (b : Bool) : Prop where
  m1 : Mk S n (L ++ pre) false H
  m2 : Mk S n (L ++ pre) true K
  le : cn H n + cn K n ≤ cn A n + cn B n
  no : b = false → H = A ∧ K = B ∧ ∀ e ∈ pre, Cd S false H e ∧ Cd S true K e
  ys : b = true → cn H n + cn K n < cn A n + cn B n
theorem Ps.begin {S : Nat → Nat → Int} {n : Nat} {L : List T3} {A B : Nat → Bool} (h1 : Mk S n L false A) (h2 : Mk S n L true B) : Ps S n L [] A B A B false :=
  ⟨by rw [List.append_nil]; exact h1, by rw [List.append_nil]; exact h2, Nat.le_refl _, fun _ => ⟨rfl, rfl, fun e he => by cases he⟩, fun h => by cases h⟩
theorem Ps.step {S : Nat → Nat → Int} {n : Nat} {L pre : List T3} {A B H K : Nat → Bool} {b : Bool} (h : Ps S n L pre A B H K b) (e : T3) (hx : e.1 < n) (hy : e.2.1 < n) : Ps S n L (pre ++ [e]) A B (sp S false e H) (sp S true e K) (b || nw S false e H || nw S true e K) := by
  have hu : (en false e).1 < n ∧ (en false e).2 < n := ⟨hx, hy⟩
  have hu' : (en true e).1 < n ∧ (en true e).2 < n := ⟨hy, hx⟩
  have l1 := cn_le (fun t => sp_mono (S := S) (bk := false) (e := e) (H := H) t) n
  have l2 := cn_le (fun t => sp_mono (S := S) (bk := true) (e := e) (H := K) t) n
  have l3 := h.le
  refine ⟨by rw [← List.append_assoc]; exact h.m1.sp e hu.1, by rw [← List.append_assoc]; exact h.m2.sp e hu'.1, by omega, fun hb => ?_, fun hb => ?_⟩
  · simp only [Bool.or_eq_false_iff] at hb
    obtain ⟨⟨hb, hn1⟩, hn2⟩ := hb
    obtain ⟨a, a', c⟩ := h.no hb
    rw [sp_old hn1, sp_old hn2]
    refine ⟨a, a', fun x hx => ?_⟩
    rcases List.mem_append.1 hx with hx | hx
    · exact c x hx
    · simp at hx; subst hx; exact ⟨cd_old hn1, cd_old hn2⟩
  · cases hn1 : nw S false e H with
    | true => have := cn_nw hn1 hu.2; omega
    | false =>
      cases hn2 : nw S true e K with
      | true => have := cn_nw hn2 hu'.2; omega
      | false =>
        rw [hn1, hn2] at hb
        simp only [Bool.or_false] at hb
        have := h.ys hb
        omega
theorem Ps.over {S : Nat → Nat → Int} {n : Nat} {L : List T3} {A B H K : Nat → Bool} {b : Bool} (h : Ps S n L L A B H K b) : Mk S n L false H ∧ Mk S n L true K := by
  have hm : ∀ e ∈ L ++ L, e ∈ L := fun e he => (List.mem_append.1 he).elim (fun x => x) (fun x => x)
  exact ⟨⟨h.m1.1, fun v hv ht => (h.m1.2 v hv ht).mono hm⟩, ⟨h.m2.1, fun v hv ht => (h.m2.2 v hv ht).mono hm⟩⟩
/-- Has a vertex itself as label? -/
def lab (S : Nat → Nat → Int) : Nat → Bool := fun v => S v 0 == (v : Int)
theorem Mk.begin {S : Nat → Nat → Int} {n : Nat} {L : List T3} (bk : Bool) : Mk S n L bk (lab S) :=
  ⟨fun v _ hs => by unfold lab; simpa using hs, fun v hv ht => .base v hv (by unfold lab at ht; simpa using ht)⟩
/-- To which labels an edge leads from another that is left; one step; all of them. -/
def led (S : Nat → Nat → Int) (L : List T3) (K : Nat → Bool) (v : Nat) : Bool := L.any (fun e => S e.1 0 != S e.2.1 0 && S e.2.1 0 == (v : Int) && K (S e.1 0).toNat)
theorem led_app (S : Nat → Nat → Int) (L : List T3) (K : Nat → Bool) (e : T3) (v : Nat) : led S (L ++ [e]) K v = (led S L K v || (S e.1 0 != S e.2.1 0 && S e.2.1 0 == (v : Int) && K (S e.1 0).toNat)) := by simp [led]
def kn (S : Nat → Nat → Int) (L : List T3) : Nat → Nat → Bool
  | 0 => lab S
  | t + 1 => fun v => kn S L t v && led S L (kn S L t) v
/-- Nobody is taken away. -/
def Stb (S : Nat → Nat → Int) (n : Nat) (L : List T3) (t : Nat) : Prop := ∀ v, v < n → kn S L t v = true → led S L (kn S L t) v = true
theorem led_ext {S : Nat → Nat → Int} {L : List T3} {K K' : Nat → Bool} {n : Nat} (h : ∀ v, v < n → K v = K' v) (hL : ∀ e ∈ L, (S e.1 0).toNat < n) (v : Nat) : led S L K v = led S L K' v := by
  unfold led
  have : ∀ e ∈ L, (S e.1 0 != S e.2.1 0 && S e.2.1 0 == (v : Int) && K (S e.1 0).toNat) = (S e.1 0 != S e.2.1 0 && S e.2.1 0 == (v : Int) && K' (S e.1 0).toNat) := fun e he => by rw [h _ (hL e he)]
  clear h hL
  induction L with
  | nil => rfl
  | cons e L ih => simp only [List.any_cons]; rw [this e (by simp), ih (fun x hx => this x (by simp [hx]))]
theorem Stb.next {S : Nat → Nat → Int} {n : Nat} {L : List T3} {t : Nat} (h : Stb S n L t) (hL : ∀ e ∈ L, (S e.1 0).toNat < n) : ∀ j v, v < n → kn S L (t + j) v = kn S L t v := by
  intro j
  induction j with
  | zero => intro v _; rfl
  | succ j ih =>
    intro v hv
    show (kn S L (t + j) v && led S L (kn S L (t + j)) v) = _
    rw [ih v hv, led_ext (fun v hv => ih v hv) hL v]
    cases hk : kn S L t v with
    | false => rfl
    | true => rw [h v hv hk]; rfl
theorem Stb.one {S : Nat → Nat → Int} {n : Nat} {L : List T3} {t s : Nat} (h : Stb S n L t) (h' : Stb S n L s) (hL : ∀ e ∈ L, (S e.1 0).toNat < n) (v : Nat) (hv : v < n) : kn S L t v = kn S L s v := by
  rcases Nat.le_total t s with k | k
  · have := h.next hL (s - t) v hv
    rw [show t + (s - t) = s by omega] at this
    exact this.symm
  · have := h'.next hL (t - s) v hv
    rw [show s + (t - s) = t by omega] at this
    exact this
/-- What rules 1 and 2 say. -/
def br1 (S : Nat → Nat → Int) (v : Nat) : Bool := decide ((v : Int) < S v 0) || S (S v 0).toNat 0 != S v 0
def P12 (S : Nat → Nat → Int) (n : Nat) (H K : Nat → Bool) (v r : Nat) : Prop := (r = 1 ∧ v < n ∧ br1 S v = true) ∨ (r = 2 ∧ v < n ∧ (!H v || !K v) = true)
/-- The labels are right. -/
def Gl (S : Nat → Nat → Int) (n : Nat) : Prop := ∀ v, v < n → 0 ≤ S v 0 ∧ S v 0 ≤ (v : Int) ∧ S (S v 0).toNat 0 = S v 0
theorem gl_of {S : Nat → Nat → Int} {n : Nat} {H K : Nat → Bool} (h0 : ∀ v, v < n → 0 ≤ S v 0) (h : Lm (P12 S n H K) none) : Gl S n := fun v hv => by
  have h1 : ¬ br1 S v = true := fun hb => h v 1 (.inl ⟨rfl, hv, hb⟩)
  unfold br1 at h1
  simp only [Bool.or_eq_true, decide_eq_true_eq, bne_iff_ne, ne_eq, not_or, Classical.not_not] at h1
  exact ⟨h0 v hv, by omega, h1.2⟩
theorem Gl.lt {S : Nat → Nat → Int} {n : Nat} (h : Gl S n) {v : Nat} (hv : v < n) : (S v 0).toNat < n := by have := h v hv; omega
/-- What the whole look ends with. -/
def AS (S : Nat → Nat → Int) (n : Nat) (L : List T3) (o : Vd) : Prop := ∃ H K, (∀ v, v < n → (H v = true ↔ Cl S n L false v)) ∧ (∀ v, v < n → (K v = true ↔ Cl S n L true v)) ∧
  ((o ≠ none ∧ Lm (P12 S n H K) o) ∨ (Lm (P12 S n H K) none ∧ ∃ t, Stb S n L t ∧ Lm (fun v r => P12 S n H K v r ∨ (r = 3 ∧ v < n ∧ kn S L t (S v 0).toNat = true)) o))
theorem AS.one {S : Nat → Nat → Int} {n : Nat} {L : List T3} {o o' : Vd} (h0 : ∀ v, v < n → 0 ≤ S v 0) (hL : ∀ e ∈ L, e.1 < n) (h : AS S n L o) (h' : AS S n L o') : o = o' := by
  obtain ⟨H, K, a, b, c⟩ := h
  obtain ⟨H', K', a', b', c'⟩ := h'
  have eH : ∀ v, v < n → H v = H' v := fun v hv => by
    cases h1 : H v <;> cases h2 : H' v <;> first | rfl | skip
    · have := (a v hv).2 ((a' v hv).1 h2); rw [h1] at this; cases this
    · have := (a' v hv).2 ((a v hv).1 h1); rw [h2] at this; cases this
  have eK : ∀ v, v < n → K v = K' v := fun v hv => by
    cases h1 : K v <;> cases h2 : K' v <;> first | rfl | skip
    · have := (b v hv).2 ((b' v hv).1 h2); rw [h1] at this; cases this
    · have := (b' v hv).2 ((b v hv).1 h1); rw [h2] at this; cases this
  have eP : ∀ v r, P12 S n H K v r ↔ P12 S n H' K' v r := fun v r => by
    unfold P12
    constructor
    · rintro (x | ⟨x, y, z⟩)
      · exact .inl x
      · exact .inr ⟨x, y, by rw [← eH v y, ← eK v y]; exact z⟩
    · rintro (x | ⟨x, y, z⟩)
      · exact .inl x
      · exact .inr ⟨x, y, by rw [eH v y, eK v y]; exact z⟩
  rcases c with ⟨c1, c2⟩ | ⟨c1, t, c2, c3⟩
  · rcases c' with ⟨d1, d2⟩ | ⟨d1, s, d2, d3⟩
    · exact c2.one (d2.ext (fun v r => (eP v r).symm))
    · exact absurd (c2.one (d1.ext (fun v r => (eP v r).symm))) c1
  · rcases c' with ⟨d1, d2⟩ | ⟨d1, s, d2, d3⟩
    · exact absurd (d2.one (c1.ext eP)) d1
    · have hg := gl_of h0 c1
      refine c3.one (d3.ext (fun v r => ?_))
      have hk : ∀ v, v < n → kn S L t v = kn S L s v := fun v hv => c2.one d2 (fun e he => hg.lt (hL e he)) v hv
      rw [eP]
      constructor
      · rintro (x | ⟨x, y, z⟩)
        · exact .inl x
        · exact .inr ⟨x, y, by rw [hk _ (hg.lt y)]; exact z⟩
      · rintro (x | ⟨x, y, z⟩)
        · exact .inl x
        · exact .inr ⟨x, y, by rw [← hk _ (hg.lt y)]; exact z⟩
end Au
end Go.Proofs.Ytcepfmeoeepjdaa
