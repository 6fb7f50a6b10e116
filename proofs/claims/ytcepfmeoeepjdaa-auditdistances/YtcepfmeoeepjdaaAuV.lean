import Derived.Test.YtcepfmeoeepjdaaAuS
namespace Go.Proofs.Ytcepfmeoeepjdaa
namespace Au
open Go.RowKit
set_option linter.unusedVariables false
set_option maxRecDepth 8000
/-- The word of a vertex that is left. -/
abbrev NN : Int := 18446744073709551615
/-- What an edge adds to a vertex's number. -/
def inc (C : Nat → Int) (e : T3) (v : Nat) : Nat := if e.1 ≠ e.2.1 ∧ C e.1 = NN ∧ C e.2.1 = NN then (if v = e.1 then 1 else 0) + (if v = e.2.1 then 1 else 0) else 0
def dg (C : Nat → Int) (L : List T3) (v : Nat) : Nat := (L.map (fun e => inc C e v)).sum
theorem dg_app (C : Nat → Int) (L : List T3) (e : T3) (v : Nat) : dg C (L ++ [e]) v = dg C L v + inc C e v := by simp [dg]
theorem dg_nil (C : Nat → Int) (v : Nat) : dg C [] v = 0 := rfl
theorem inc_le (C : Nat → Int) (e : T3) (v : Nat) : inc C e v ≤ 2 := by unfold inc; split <;> (try split) <;> (try split) <;> omega
theorem dg_le (C : Nat → Int) (L : List T3) (v : Nat) : dg C L v ≤ 2 * L.length := by
  induction L with
  | nil => simp [dg]
  | cons e L ih =>
    have h : dg C (e :: L) v = inc C e v + dg C L v := by simp [dg]
    have := inc_le C e v
    rw [h, List.length_cons]; omega
def an (p : Nat → Bool) : Nat → Bool
  | 0 => false
  | n + 1 => an p n || p n
theorem an_true {p : Nat → Bool} {n : Nat} : an p n = true ↔ ∃ v, v < n ∧ p v = true := by
  induction n with
  | zero => simp [an]
  | succ n ih =>
    simp only [an, Bool.or_eq_true, ih]
    constructor
    · rintro (⟨v, h, k⟩ | h)
      · exact ⟨v, by omega, k⟩
      · exact ⟨n, by omega, h⟩
    · rintro ⟨v, h, k⟩
      by_cases e : v = n
      · subst e; exact .inr k
      · exact .inl ⟨v, by omega, k⟩
theorem an_false {p : Nat → Bool} {n : Nat} : an p n = false ↔ ∀ v, v < n → p v = false := by
  constructor
  · intro h v hv
    cases hp : p v with
    | false => rfl
    | true => rw [an_true.2 ⟨v, hv, hp⟩] at h; cases h
  · intro h
    cases ha : an p n with
    | false => rfl
    | true => obtain ⟨v, hv, hp⟩ := an_true.1 ha; rw [h v hv] at hp; cases hp
/-- Who is left; who is taken away; what stands behind it; the fewest. -/
def lb (C : Nat → Int) (v : Nat) : Bool := C v == NN
def tk (D : Nat → Int) (C : Nat → Int) (k : Int) (v : Nat) : Bool := lb C v && decide (D v ≤ k)
def nC (D : Nat → Int) (C : Nat → Int) (k : Int) (v : Nat) : Int := if tk D C k v = true then k else C v
def ls (D : Nat → Int) (C : Nat → Int) : Nat → Int
  | 0 => NN
  | n + 1 => if lb C n = true then min (ls D C n) (D n) else ls D C n
def dI (L : List T3) (C : Nat → Int) : Nat → Int := fun v => (dg C L v : Nat)
def stp (n : Nat) (L : List T3) (s : (Nat → Int) × Int) : (Nat → Int) × Int := if an (tk (dI L s.1) s.1 s.2) n = true then (nC (dI L s.1) s.1 s.2, s.2) else if an (lb s.1) n = true then (s.1, ls (dI L s.1) s.1 n) else s
def it (n : Nat) (L : List T3) : Nat → (Nat → Int) × Int
  | 0 => (fun _ => NN, 0)
  | t + 1 => stp n L (it n L t)
theorem ls_of {D C : Nat → Int} {n : Nat} (h : an (lb C) n = true) (hD : ∀ v, v < n → D v < NN) : ∃ v, v < n ∧ lb C v = true ∧ ls D C n = D v := by
  induction n with
  | zero => simp [an] at h
  | succ n ih =>
    simp only [ls]
    by_cases hb : lb C n = true
    · rw [if_pos hb]
      by_cases ha : an (lb C) n = true
      · obtain ⟨v, h1, h2, h3⟩ := ih ha (fun v hv => hD v (by omega))
        by_cases hc : ls D C n ≤ D n
        · exact ⟨v, by omega, h2, by rw [Int.min_eq_left hc]; exact h3⟩
        · exact ⟨n, by omega, hb, Int.min_eq_right (by omega)⟩
      · have h0 : ∀ j, j ≤ n → ls D C j = NN := fun j => by
          induction j with
          | zero => intro _; rfl
          | succ j ihj =>
            intro hj
            have := an_false.1 (by simpa using ha) j (by omega)
            simp only [ls, this]
            exact ihj (by omega)
        rw [h0 n (Nat.le_refl _)]
        exact ⟨n, by omega, hb, Int.min_eq_right (by have := hD n (by omega); omega)⟩
    · rw [if_neg hb]
      have ha : an (lb C) n = true := by
        simp only [an, Bool.or_eq_true] at h
        rcases h with h | h
        · exact h
        · exact absurd h hb
      obtain ⟨v, h1, h2, h3⟩ := ih ha (fun v hv => hD v (by omega))
      exact ⟨v, by omega, h2, h3⟩
theorem dI_b (L : List T3) (C : Nat → Int) (v : Nat) : 0 ≤ dI L C v ∧ dI L C v ≤ 2 * (L.length : Int) := by
  have := dg_le C L v
  unfold dI; omega
theorem it_k (n : Nat) (L : List T3) (hL : L.length ≤ 140737488351232) (t : Nat) : 0 ≤ (it n L t).2 ∧ (it n L t).2 ≤ 2 * (L.length : Int) := by
  induction t with
  | zero => exact ⟨Int.le_refl _, by show (0 : Int) ≤ _; omega⟩
  | succ t ih =>
    simp only [it, stp]
    split
    · exact ih
    · split
      · rename_i h1 h2
        obtain ⟨v, _, _, h3⟩ := ls_of (D := dI L (it n L t).1) h2 (fun v _ => Int.lt_of_le_of_lt (dI_b L (it n L t).1 v).2 (by show 2 * (L.length : Int) < 18446744073709551615; omega))
        simp only
        rw [h3]
        exact dI_b _ _ _
      · exact ih
/-- Once nobody is left nothing changes. -/
theorem stp_end {n : Nat} {L : List T3} {s : (Nat → Int) × Int} (h : an (lb s.1) n = false) : stp n L s = s := by
  unfold stp
  have h1 : an (tk (dI L s.1) s.1 s.2) n = false := an_false.2 (fun v hv => by unfold tk; rw [an_false.1 h v hv]; rfl)
  rw [h1, h]
  simp
theorem it_end {n : Nat} {L : List T3} {t : Nat} (h : an (lb (it n L t).1) n = false) (d : Nat) : it n L (t + d) = it n L t := by
  induction d with
  | zero => rfl
  | succ d ih =>
    show stp n L (it n L (t + d)) = _
    rw [ih, stp_end h]
theorem it_one {n : Nat} {L : List T3} {t t' : Nat} (h : an (lb (it n L t).1) n = false) (h' : an (lb (it n L t').1) n = false) : it n L t = it n L t' := by
  by_cases e : t ≤ t'
  · have := it_end h (t' - t)
    rw [show t + (t' - t) = t' by omega] at this
    exact this.symm
  · have := it_end h' (t - t')
    rw [show t' + (t - t') = t by omega] at this
    exact this
/-- How many are left. -/
def lf (C : Nat → Int) : Nat → Nat
  | 0 => 0
  | n + 1 => lf C n + if lb C n = true then 1 else 0
theorem nC_lb {D C : Nat → Int} {k : Int} (hk : k ≠ NN) (v : Nat) : lb (nC D C k) v = (lb C v && !(tk D C k v)) := by
  have h : (nC D C k v == NN) = (lb C v && !(tk D C k v)) := by
    unfold nC
    by_cases h : tk D C k v = true
    · rw [if_pos h, h]; simp [hk]
    · rw [if_neg h]
      have h' : tk D C k v = false := by simpa using h
      rw [h']; simp [lb]
  exact h
theorem lf_le {D C : Nat → Int} {k : Int} (hk : k ≠ NN) (n : Nat) : lf (nC D C k) n ≤ lf C n := by
  induction n with
  | zero => exact Nat.le_refl _
  | succ n ih =>
    simp only [lf]
    rw [nC_lb hk n]
    cases lb C n <;> cases tk D C k n <;> simp <;> omega
theorem lf_lt {D C : Nat → Int} {k : Int} (hk : k ≠ NN) (n : Nat) (h : an (tk D C k) n = true) : lf (nC D C k) n < lf C n := by
  induction n with
  | zero => simp [an] at h
  | succ n ih =>
    simp only [lf]
    rw [nC_lb hk n]
    simp only [an, Bool.or_eq_true] at h
    have hle := lf_le (D := D) (C := C) hk n
    rcases h with h | h
    · have := ih h
      cases lb C n <;> cases tk D C k n <;> simp <;> omega
    · have hb : lb C n = true := by unfold tk at h; simp at h; exact h.1
      rw [h, hb]; simp; omega
theorem lf_zero {C : Nat → Int} {n : Nat} (h : lf C n = 0) : an (lb C) n = false := by
  induction n with
  | zero => rfl
  | succ n ih =>
    simp only [lf] at h
    have h1 : lb C n = false := by cases hb : lb C n with | false => rfl | true => rw [hb] at h; simp at h
    simp only [an, ih (by omega), h1]; rfl
theorem lf_pos {C : Nat → Int} {n : Nat} (h : an (lb C) n = true) : 0 < lf C n := by
  by_cases e : lf C n = 0
  · rw [lf_zero e] at h; cases h
  · omega
theorem lf_n (C : Nat → Int) (n : Nat) : lf C n ≤ n := by
  induction n with
  | zero => exact Nat.le_refl _
  | succ n ih => simp only [lf]; split <;> omega
/-- When nobody was taken, the fewest bring somebody. -/
theorem tk_ls {D C : Nat → Int} {n : Nat} (h : an (lb C) n = true) (hD : ∀ v, v < n → D v < NN) : an (tk D C (ls D C n)) n = true := by
  obtain ⟨v, h1, h2, h3⟩ := ls_of h hD
  refine an_true.2 ⟨v, h1, ?_⟩
  unfold tk
  rw [h2, h3]; simp
theorem stp_take {n : Nat} {L : List T3} {s : (Nat → Int) × Int} (h : an (tk (dI L s.1) s.1 s.2) n = true) : stp n L s = (nC (dI L s.1) s.1 s.2, s.2) := by unfold stp; rw [if_pos h]
theorem stp_least {n : Nat} {L : List T3} {s : (Nat → Int) × Int} (h : an (tk (dI L s.1) s.1 s.2) n = false) (h2 : an (lb s.1) n = true) : stp n L s = (s.1, ls (dI L s.1) s.1 n) := by unfold stp; rw [if_neg (by simp [h]), if_pos h2]
end Au
end Go.Proofs.Ytcepfmeoeepjdaa
