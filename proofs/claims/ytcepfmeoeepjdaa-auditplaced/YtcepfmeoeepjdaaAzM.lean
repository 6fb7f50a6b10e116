import Derived.Test.YtcepfmeoeepjdaaAzA
import Derived.Test.YtcepfmeoeepjdaaAvC
namespace Go.Proofs.Ytcepfmeoeepjdaa
namespace Au
open Go.RowKit
set_option linter.unusedVariables false
set_option maxRecDepth 8000
/-- How many of the first n are so. -/
def ct9 (H : Nat → Bool) : Nat → Nat
  | 0 => 0
  | n + 1 => ct9 H n + (if H n = true then 1 else 0)
theorem ct9_ext {H G : Nat → Bool} : ∀ {n : Nat}, (∀ v, v < n → H v = G v) → ct9 H n = ct9 G n
  | 0, _ => rfl
  | n + 1, h => by
    have h1 := ct9_ext (n := n) (fun v hv => h v (by omega))
    have h2 := h n (by omega)
    unfold ct9; rw [h1, h2]
theorem ct9_le {H G : Nat → Bool} (hh : ∀ v, H v = true → G v = true) : ∀ n, ct9 H n ≤ ct9 G n
  | 0 => Nat.le_refl _
  | n + 1 => by
    have h1 := ct9_le hh n
    unfold ct9
    by_cases h : H n = true
    · rw [if_pos h, if_pos (hh n h)]; omega
    · rw [if_neg h]; omega
theorem ct9_lt {H G : Nat → Bool} (hh : ∀ v, H v = true → G v = true) {t : Nat} (h1 : H t = false) (h2 : G t = true) : ∀ {n : Nat}, t < n → ct9 H n < ct9 G n
  | 0, h => by omega
  | n + 1, h => by
    by_cases e : t = n
    · subst e
      have h3 := ct9_le hh t
      unfold ct9
      rw [h1, h2]; simp; omega
    · have h3 := ct9_lt hh h1 h2 (n := n) (by omega)
      unfold ct9
      by_cases h : H n = true
      · rw [if_pos h, if_pos (hh n h)]; omega
      · rw [if_neg h]; omega
/-- An edge as the document looks at it: from the end that has a colour. -/
def cu9 (c : Nat → Int) (e : T3) : Nat := if c e.1 = NN then e.2.1 else e.1
def cz9 (c : Nat → Int) (e : T3) : Nat := if c e.1 = NN then e.1 else e.2.1
def nwc (c : Nat → Int) (e : T3) : Bool := (c (cu9 c e) != NN) && (c (cz9 c e) == NN)
def spc (c : Nat → Int) (e : T3) : Nat → Int := if nwc c e = true then up c (cz9 c e) (1 - c (cu9 c e)) else c
/-- What holds of colours on the way. -/
structure CI (n : Nat) (L : List T3) (ro c : Nat → Int) : Prop where
  p1 : ∀ v, v < n → c v = NN ∨ c v = 0 ∨ c v = 1
  p2 : ∀ v, v < n → c v ≠ NN → ∀ r : Nat → Int, (∀ p ∈ dbl n L, r p.1 = r p.2) → r (v + n * (c v).toNat) = r (ro v).toNat
  p3 : ∀ v, v < n → ro v = v → c v ≠ NN
theorem NN_val : NN = 18446744073709551615 := rfl
theorem CI.start {n : Nat} {L : List T3} {ro : Nat → Int} : CI n L ro (fun v => if ro v = (v : Int) then 0 else NN) := by
  refine ⟨fun v _ => ?_, fun v _ h r _ => ?_, fun v _ h => ?_⟩
  · by_cases e : ro v = (v : Int)
    · simp [e]
    · simp [e]
  · by_cases e : ro v = (v : Int)
    · simp [e]
    · simp [e] at h
  · simp only [h, if_true]; rw [NN_val]; decide
theorem cu9_lt {c : Nat → Int} {e : T3} {n : Nat} (hx : e.1 < n) (hy : e.2.1 < n) : cu9 c e < n ∧ cz9 c e < n := by
  unfold cu9 cz9
  split <;> exact ⟨by assumption, by assumption⟩
theorem CI.step {n : Nat} {L : List T3} {ro c : Nat → Int} (h : CI n L ro c) (e : T3) (he : e ∈ L) (hx : e.1 < n) (hy : e.2.1 < n) (hj : ro e.1 = ro e.2.1) : CI n L ro (spc c e) := by
  unfold spc
  by_cases hn : nwc c e = true
  · rw [if_pos hn]
    have hn' := hn
    unfold nwc at hn'
    simp only [Bool.and_eq_true, bne_iff_ne, ne_eq, beq_iff_eq] at hn'
    obtain ⟨h1, h2⟩ := hn'
    obtain ⟨l1, l2⟩ := cu9_lt (c := c) hx hy
    have hro : ro (cz9 c e) = ro (cu9 c e) := by unfold cu9 cz9; split <;> simp [hj]
    have hp := h.p1 _ l1
    have hc : c (cu9 c e) = 0 ∨ c (cu9 c e) = 1 := hp.resolve_left h1
    refine ⟨fun v hv => ?_, fun v hv hne r hr => ?_, fun v hv hr => ?_⟩
    · by_cases ev : v = cz9 c e
      · subst ev; rw [up_eq]; rcases hc with q | q <;> rw [q] <;> simp
      · rw [up_ne _ _ _ _ ev]; exact h.p1 v hv
    · by_cases ev : v = cz9 c e
      · subst ev
        rw [up_eq, hro, ← h.p2 _ l1 h1 r hr]
        have hd1 : r e.1 = r (e.2.1 + n) := hr _ (dbl_mem.2 ⟨e, he, .inl rfl⟩)
        have hd2 : r e.2.1 = r (e.1 + n) := hr _ (dbl_mem.2 ⟨e, he, .inr rfl⟩)
        have hd3 : r (cu9 c e) = r (cz9 c e + n) ∧ r (cz9 c e) = r (cu9 c e + n) := by
          unfold cu9 cz9
          split
          · exact ⟨hd2, hd1⟩
          · exact ⟨hd1, hd2⟩
        rcases hc with q | q
        · rw [q]; simp; exact hd3.1.symm
        · rw [q]; simp; exact hd3.2
      · rw [up_ne _ _ _ _ ev] at hne ⊢; exact h.p2 v hv hne r hr
    · by_cases ev : v = cz9 c e
      · subst ev; exact absurd h2 (h.p3 _ hv hr)
      · rw [up_ne _ _ _ _ ev]; exact h.p3 v hv hr
  · rw [if_neg hn]; exact h
def un (c : Nat → Int) (n : Nat) : Nat := ct9 (fun v => c v == NN) n
/-- One pass over the edges. -/
structure Pc (n : Nat) (L pre : List T3) (ro A c : Nat → Int) (b : Bool) : Prop where
  ci : CI n L ro c
  le : un c n ≤ un A n
  no : b = false → c = A ∧ ∀ e ∈ pre, (c e.1 = NN ↔ c e.2.1 = NN)
  ys : b = true → un c n < un A n
theorem Pc.begin {n : Nat} {L : List T3} {ro A : Nat → Int} (h : CI n L ro A) : Pc n L [] ro A A false := ⟨h, Nat.le_refl _, fun _ => ⟨rfl, fun e he => by cases he⟩, fun h => by cases h⟩
theorem Pc.step {n : Nat} {L pre : List T3} {ro A c : Nat → Int} {b : Bool} (h : Pc n L pre ro A c b) (e : T3) (he : e ∈ L) (hx : e.1 < n) (hy : e.2.1 < n) (hj : ro e.1 = ro e.2.1) : Pc n L (pre ++ [e]) ro A (spc c e) (b || nwc c e) := by
  have hci := h.ci.step e he hx hy hj
  cases hn : nwc c e with
  | true =>
    have hn' := hn
    unfold nwc at hn'
    simp only [Bool.and_eq_true, bne_iff_ne, ne_eq, beq_iff_eq] at hn'
    obtain ⟨h1, h2⟩ := hn'
    obtain ⟨l1, l2⟩ := cu9_lt (c := c) hx hy
    have hlt : un (spc c e) n < un c n := by
      unfold un
      refine ct9_lt (fun v hv => ?_) (t := cz9 c e) ?_ (by simpa using h2) l2
      · unfold spc at hv; rw [if_pos hn] at hv
        by_cases ev : v = cz9 c e
        · subst ev; simpa using h2
        · rw [up_ne _ _ _ _ ev] at hv; exact hv
      · unfold spc; rw [if_pos hn, up_eq]
        have hp := (h.ci.p1 _ l1).resolve_left h1
        rcases hp with q | q <;> rw [q] <;> rw [NN_val] <;> decide
    exact ⟨hci, by have := h.le; omega, fun hb => by simp at hb, fun _ => by have := h.le; omega⟩
  | false =>
    have hs : spc c e = c := by unfold spc; rw [if_neg (by rw [hn]; simp)]
    rw [hs]
    refine ⟨h.ci, h.le, fun hb => ?_, fun hb => ?_⟩
    · simp only [Bool.or_false] at hb
      obtain ⟨a, d⟩ := h.no hb
      refine ⟨a, fun x hx' => ?_⟩
      rcases List.mem_append.1 hx' with hx' | hx'
      · exact d x hx'
      · simp at hx'; subst hx'
        unfold nwc cu9 cz9 at hn
        by_cases e1 : c x.1 = NN
        · simp only [e1, if_true, beq_self_eq_true, Bool.and_true, bne_eq_false_iff_eq] at hn
          simp [e1, hn]
        · simp only [e1, if_false] at hn
          have : (c x.1 != NN) = true := by simpa using e1
          rw [this, Bool.true_and] at hn
          have h9 : c x.2.1 ≠ NN := by simpa using hn
          simp [e1, h9]
    · simp only [Bool.or_false] at hb; exact h.ys hb
/-- When nothing is new everybody has a colour. -/
theorem CI.full {n : Nat} {L : List T3} {ro c U : Nat → Int} (h : CI n L ro c) (hF : Fo n (prs L) U ro) (hd : ∀ e ∈ L, (c e.1 = NN ↔ c e.2.1 = NN)) (v : Nat) (hv : v < n) : c v = 0 ∨ c v = 1 := by
  have hG := hF.f (fun v => if c v = NN then 1 else 0) (fun p hp => by
    unfold prs at hp
    obtain ⟨e, he, rfl⟩ := List.mem_map.1 hp
    have := hd e he
    simp only
    by_cases q : c e.1 = NN
    · rw [if_pos q, if_pos (this.1 q)]
    · rw [if_neg q, if_neg (fun q2 => q (this.2 q2))]) v hv
  have hr := hF.r v hv
  have hrr := hF.rr v hv
  have h3 : c (ro v).toNat ≠ NN := h.p3 _ (by omega) (by rw [hrr]; omega)
  refine (h.p1 v hv).resolve_left (fun q => ?_)
  simp only [q, if_true, h3, if_false] at hG
  exact absurd hG (by decide)
/-- Is there an odd way round in the component that t names? -/
def odl (c ro : Nat → Int) (L : List T3) (t : Nat) : Bool := L.any fun e => c e.1 == c e.2.1 && ro e.1 == (t : Int)
theorem odl_app (c ro : Nat → Int) (L : List T3) (e : T3) (t : Nat) : odl c ro (L ++ [e]) t = (odl c ro L t || (c e.1 == c e.2.1 && ro e.1 == (t : Int))) := by simp [odl]
theorem odl_iff {c ro : Nat → Int} {L : List T3} {t : Nat} : odl c ro L t = true ↔ ∃ e ∈ L, c e.1 = c e.2.1 ∧ ro e.1 = (t : Int) := by simp [odl]
theorem col_eq {n : Nat} {L : List T3} {ro c U U2 r : Nat → Int} (hI : ∀ e ∈ L, e.1 < n ∧ e.2.1 < n) (hF : Fo n (prs L) U ro) (h : CI n L ro c) (hfull : ∀ v, v < n → c v = 0 ∨ c v = 1) (hF2 : Fo (2 * n) (dbl n L) U2 r) (v : Nat) (hv : v < n) : col n r v = if odl c ro L (ro v).toNat = true then 2 else c v := by
  have hro := hF.r v hv
  have hj : ∀ e ∈ L, ro e.1 = ro e.2.1 := fun e he => hF.j (e.1, e.2.1) (List.mem_map.2 ⟨e, he, rfl⟩)
  have hne : ∀ u, u < n → c u ≠ NN := fun u hu => by rcases hfull u hu with q | q <;> rw [q] <;> rw [NN_val] <;> decide
  have hp2 : ∀ u, u < n → r (u + n * (c u).toNat) = r (ro u).toNat := fun u hu => h.p2 u hu (hne u hu) r hF2.j
  by_cases ho : odl c ro L (ro v).toNat = true
  · rw [if_pos ho]
    obtain ⟨e, he, hc, hr⟩ := odl_iff.1 ho
    obtain ⟨hx, hy⟩ := hI e he
    have hd1 : r e.1 = r (e.2.1 + n) := hF2.j _ (dbl_mem.2 ⟨e, he, .inl rfl⟩)
    have hd2 : r e.2.1 = r (e.1 + n) := hF2.j _ (dbl_mem.2 ⟨e, he, .inr rfl⟩)
    have ha := hp2 _ hx
    have hb := hp2 _ hy
    rw [← hj e he, ← hc] at hb
    have hab : r e.1 = r (e.1 + n) := by
      rcases hfull _ hx with q | q
      · rw [q] at ha hb; simp at ha hb; rw [ha, ← hb, hd2]
      · rw [q] at ha hb; simp at ha hb; rw [hd1, hb, ← ha]
    have hG := hF.f (fun u => if r u = r (u + n) then 1 else 0) (fun p hp => by
      unfold prs at hp
      obtain ⟨e', he', rfl⟩ := List.mem_map.1 hp
      have q1 : r e'.1 = r (e'.2.1 + n) := hF2.j _ (dbl_mem.2 ⟨e', he', .inl rfl⟩)
      have q2 : r e'.2.1 = r (e'.1 + n) := hF2.j _ (dbl_mem.2 ⟨e', he', .inr rfl⟩)
      simp only
      rw [q1, q2]
      by_cases q : r (e'.2.1 + n) = r (e'.1 + n)
      · rw [if_pos q, if_pos q.symm]
      · rw [if_neg q, if_neg (fun k => q k.symm)])
    have h1 := hG v hv
    have h2 := hG _ hx
    rw [show (ro e.1).toNat = (ro v).toNat by omega] at h2
    simp only [hab, if_true] at h2
    rw [h2] at h1
    unfold col
    by_cases q : r v = r (v + n)
    · rw [if_pos q]
    · rw [if_neg q] at h1; exact absurd h1 (by decide)
  · rw [if_neg ho]
    have hG := hF2.f (fun x => if x < n then (if odl c ro L (ro x).toNat = true then 0 else 1 + c x) else (if odl c ro L (ro (x - n)).toNat = true then 0 else 2 - c (x - n))) (fun p hp => by
      obtain ⟨e, he, hpe⟩ := dbl_mem.1 hp
      obtain ⟨hx, hy⟩ := hI e he
      have hje := hj e he
      have hro1 := hF.r _ hx
      have key : odl c ro L (ro e.1).toNat = false → c e.1 + c e.2.1 = 1 := fun hf => by
        have : ¬ c e.1 = c e.2.1 := fun q => by
          have h9 : odl c ro L (ro e.1).toNat = true := odl_iff.2 ⟨e, he, q, by omega⟩
          rw [hf] at h9; cases h9
        rcases hfull _ hx with q | q <;> rcases hfull _ hy with q2 | q2 <;> rw [q, q2] at this ⊢ <;> first | omega | exact absurd rfl this
      rcases hpe with rfl | rfl
      · simp only [hx, if_true, show ¬ e.2.1 + n < n by omega, if_false, Nat.add_sub_cancel]
        rw [← hje]
        cases hf : odl c ro L (ro e.1).toNat with
        | true => simp
        | false => have := key hf; simp; omega
      · simp only [hy, if_true, show ¬ e.1 + n < n by omega, if_false, Nat.add_sub_cancel]
        rw [← hje]
        cases hf : odl c ro L (ro e.1).toNat with
        | true => simp
        | false => have := key hf; simp; omega)
    have hof : odl c ro L (ro v).toNat = false := by simpa using ho
    have hne2 : r v ≠ r (v + n) := fun q => by
      have h1 := hG v (by omega)
      have h2 := hG (v + n) (by omega)
      rw [← q] at h2
      rw [h1] at h2
      simp only [hv, if_true, show ¬ v + n < n by omega, if_false, Nat.add_sub_cancel, hof] at h2
      simp at h2
      rcases hfull v hv with q2 | q2 <;> rw [q2] at h2 <;> omega
    have hM := hF2.f (fun x => if x < n then ro x else ro (x - n)) (fun p hp => by
      obtain ⟨e, he, hpe⟩ := dbl_mem.1 hp
      obtain ⟨hx, hy⟩ := hI e he
      have hje := hj e he
      rcases hpe with rfl | rfl
      · simp only [hx, if_true, show ¬ e.2.1 + n < n by omega, if_false, Nat.add_sub_cancel]; exact hje
      · simp only [hy, if_true, show ¬ e.1 + n < n by omega, if_false, Nat.add_sub_cancel]; exact hje.symm)
    have hlow : ∀ x, x < 2 * n → (if x < n then ro x else ro (x - n)) = ro v → r (ro v).toNat ≤ r x := fun x hx hxv => by
      have h1 := hM x hx
      rw [hxv] at h1
      have h2 := hF2.r x hx
      have h3 := hF2.r (ro v).toNat (by omega)
      by_cases hl : (r x).toNat < n
      · simp only [hl, if_true] at h1
        have h4 := hF.r _ hl
        omega
      · omega
    have hpv := hp2 v hv
    unfold col
    rw [if_neg hne2]
    rcases hfull v hv with q | q
    · rw [q] at hpv ⊢
      simp at hpv
      have h5 := hlow (v + n) (by omega) (by rw [if_neg (by omega), Nat.add_sub_cancel])
      rw [if_pos (by omega)]
    · rw [q] at hpv ⊢
      simp at hpv
      have h5 := hlow v (by omega) (by simp [hv])
      rw [if_neg (by omega)]
end Au
end Go.Proofs.Ytcepfmeoeepjdaa
