import Derived.Test.YtlhpnhjfibkgpabWuA
namespace Go.Proofs.Ytlhpnhjfibkgpab
namespace Wp
open Go.RowKit
set_option linter.unusedVariables false
theorem Rea.lv {n m : Nat} {Q : List Nat} {E : Nat → Int × Int × Int} {L P : Nat → Int} (h : Rea n m Q E L P) : Lv n m E (fun v => v ∈ Q) L :=
  ⟨h.b, h.z, fun v hv hs hU => by obtain ⟨u, ha, hu, _⟩ := h.d v hv hs hU; exact ⟨u, ha, hu⟩, h.e⟩
theorem Lv.same {n m : Nat} {E : Nat → Int × Int × Int} {sr sr' : Nat → Prop} {L : Nat → Int} (h : Lv n m E sr L) (e : ∀ v, v < n → (sr v ↔ sr' v)) : Lv n m E sr' L :=
  ⟨h.b, fun v hv => (h.z v hv).trans (e v hv), fun v hv hs => h.d v hv (fun q => hs ((e v hv).1 q)), h.e⟩
/-- More sources: no level is greater. -/
theorem Lv.mono {n m : Nat} {E : Nat → Int × Int × Int} {sr sr' : Nat → Prop} {L M : Nat → Int} (hI : EIn n m E) (h : Lv n m E sr L) (h' : Lv n m E sr' M) (hs : ∀ v, v < n → sr' v → sr v) : ∀ k : Nat, k < 5000 → ∀ v, v < n → M v = k → L v ≠ 18446744073709551615 ∧ L v ≤ k := by
  intro k
  induction k with
  | zero =>
    intro _ v hv e
    have := (h.z v hv).2 (hs v hv ((h'.z v hv).1 e))
    omega
  | succ k ih =>
    intro hk v hv e
    have hn : ¬ sr' v := fun q => by have := (h'.z v hv).2 q; omega
    obtain ⟨u, ha, hu⟩ := h'.d v hv hn (by omega)
    obtain ⟨h1, h2⟩ := ih (by omega) u (ha.lt hI).1 (by push_cast at e; omega)
    obtain ⟨h3, h4⟩ := h.e u v ha h1
    exact ⟨h3, by push_cast; omega⟩
/-- The source that is handed on is the least of those that are so near. -/
theorem Rea.near {n m : Nat} {Q : List Nat} {E : Nat → Int × Int × Int} {L P : Nat → Int} (hI : EIn n m E) (h : Rea n m Q E L P) (hQ : ∀ s ∈ Q, s < n) (M : Nat → Nat → Int) (hM : ∀ s, s < n → Lv n m E (fun v => v = s) (M s)) : ∀ k : Nat, k < 5000 → ∀ v, v < n → L v = k → (∃ s ∈ Q, P v = s ∧ M s v = L v) ∧ ∀ s ∈ Q, M s v = L v → P v ≤ s := by
  intro k
  induction k with
  | zero =>
    intro _ v hv e
    have hvq := (h.z v hv).1 e
    refine ⟨⟨v, hvq, h.p v hv hvq, ?_⟩, fun s hs hm => ?_⟩
    · rw [e]; exact ((hM v hv).z v hv).2 rfl
    · rw [e] at hm
      have : v = s := ((hM s (hQ s hs)).z v hv).1 hm
      rw [h.p v hv hvq, this]; exact Int.le_refl _
  | succ k ih =>
    intro hk v hv e
    have hvq : v ∉ Q := fun q => by have := (h.z v hv).2 q; omega
    obtain ⟨u, ha, hlu, hpu, hmin⟩ := h.d v hv hvq (by omega)
    have hun := (ha.lt hI).1
    obtain ⟨⟨s, hs, hp, hms⟩, _⟩ := ih (by omega) u hun (by push_cast at e; omega)
    refine ⟨⟨s, hs, by rw [hpu, hp], ?_⟩, fun s' hs' hm' => ?_⟩
    · have hsn := hQ s hs
      obtain ⟨g1, g2⟩ := (hM s hsn).e u v ha (by rw [hms]; omega)
      have hb := ((hM s hsn).b v hv).resolve_left g1
      have := Lv.mono hI h.lv (hM s hsn) (fun w hw q => by rw [q]; exact hs) (M s v).toNat (by omega) v hv (by omega)
      rw [hms] at g2
      omega
    · have hsn := hQ s' hs'
      have hvs : ¬ v = s' := fun q => hvq (by rw [q]; exact hs')
      obtain ⟨u', ha', hu'⟩ := (hM s' hsn).d v hv hvs (by omega)
      have hun' := (ha'.lt hI).1
      have hb := ((hM s' hsn).b u' hun').resolve_left (by omega)
      obtain ⟨q1, q2⟩ := Lv.mono hI h.lv (hM s' hsn) (fun w hw q => by rw [q]; exact hs') (M s' u').toNat (by omega) u' hun' (by omega)
      obtain ⟨q3, q4⟩ := h.e u' v ha' q1
      have hlu' : L u' = L v - 1 := by omega
      obtain ⟨_, hle⟩ := ih (by omega) u' hun' (by push_cast at e; omega)
      have h1 := hle s' hs' (by omega)
      have h2 := hmin u' ha' hlu'
      rw [hpu]; omega
/-- What the document keeps of each source. -/
def fr1 (L : Nat → Int) (M : Nat → Nat → Int) (A : Nat → Int) (s : Nat) : Nat → Int := fun v => if L v ≠ 18446744073709551615 ∧ M s v = L v ∧ (s : Int) < A v then (s : Int) else A v
def frs (L : Nat → Int) (M : Nat → Nat → Int) (A : Nat → Int) (Q : List Nat) : Nat → Int := Q.foldl (fr1 L M) A
theorem frs_app (L : Nat → Int) (M : Nat → Nat → Int) (A : Nat → Int) (Q : List Nat) (s : Nat) : frs L M A (Q ++ [s]) = fr1 L M (frs L M A Q) s := by simp [frs]
theorem frs_min (L : Nat → Int) (M : Nat → Nat → Int) (v : Nat) (Q : List Nat) : ∀ A, frs L M A Q v ≤ A v ∧ (∀ s ∈ Q, L v ≠ 18446744073709551615 → M s v = L v → frs L M A Q v ≤ s) ∧ (frs L M A Q v = A v ∨ ∃ s ∈ Q, L v ≠ 18446744073709551615 ∧ M s v = L v ∧ frs L M A Q v = s) := by
  induction Q with
  | nil => intro A; exact ⟨Int.le_refl _, fun s hs => by simp at hs, .inl rfl⟩
  | cons s Q ih =>
    intro A
    obtain ⟨h1, h2, h3⟩ := ih (fr1 L M A s)
    have e : frs L M A (s :: Q) v = frs L M (fr1 L M A s) Q v := rfl
    rw [e]
    have f1 : fr1 L M A s v ≤ A v := by unfold fr1; split <;> omega
    have f2 : L v ≠ 18446744073709551615 → M s v = L v → fr1 L M A s v ≤ s := fun a b => by
      unfold fr1
      split
      · exact Int.le_refl _
      · rename_i c
        have := fun q => c ⟨a, b, q⟩
        omega
    have f3 : fr1 L M A s v = A v ∨ (L v ≠ 18446744073709551615 ∧ M s v = L v ∧ fr1 L M A s v = s) := by
      unfold fr1
      split
      · rename_i c; exact .inr ⟨c.1, c.2.1, rfl⟩
      · exact .inl rfl
    refine ⟨Int.le_trans h1 f1, fun s' hs' a b => ?_, ?_⟩
    · rcases List.mem_cons.1 hs' with rfl | hs'
      · exact Int.le_trans h1 (f2 a b)
      · exact h2 s' hs' a b
    · rcases h3 with k | ⟨s', hs', a, b, c⟩
      · rcases f3 with q | ⟨a, b, q⟩
        · exact .inl (k.trans q)
        · exact .inr ⟨s, by simp, a, b, k.trans q⟩
      · exact .inr ⟨s', by simp [hs'], a, b, c⟩
theorem Rea.from_eq {n m : Nat} {Q : List Nat} {E : Nat → Int × Int × Int} {L P : Nat → Int} (hI : EIn n m E) (h : Rea n m Q E L P) (hn : n ≤ 1000) (hQ : ∀ s ∈ Q, s < n) (M : Nat → Nat → Int) (hM : ∀ s, s < n → Lv n m E (fun v => v = s) (M s)) (v : Nat) (hv : v < n) : frs L M (fun _ => 18446744073709551615) Q v = P v := by
  obtain ⟨h1, h2, h3⟩ := frs_min L M v Q (fun _ => 18446744073709551615)
  by_cases hU : L v = 18446744073709551615
  · rw [h.c v hv hU]
    rcases h3 with k | ⟨s, _, a, _⟩
    · exact k
    · exact absurd hU a
  · have hb := (h.b v hv).resolve_left hU
    obtain ⟨⟨s, hs, hp, hms⟩, hle⟩ := h.near hI hQ M hM (L v).toNat (by omega) v hv (by omega)
    have h4 := h2 s hs hU hms
    have hsn := hQ s hs
    rcases h3 with k | ⟨s', hs', _, b, c⟩
    · omega
    · have := hle s' hs' b
      omega
open Classical in
theorem skolem_lv {n m : Nat} {E : Nat → Int × Int × Int} (hn : n ≤ 1000) (hI : EIn n m E) : ∃ M : Nat → Nat → Int, ∀ s, s < n → Lv n m E (fun v => v = s) (M s) := by
  refine ⟨fun s => if h : ∃ L, Lv n m E (fun v => v = s) L then Classical.choose h else fun _ => 0, fun s hs => ?_⟩
  have h : ∃ L, Lv n m E (fun v => v = s) L := by
    obtain ⟨R, _, _, hR⟩ := reach_end n m [s] E hn (by omega) hI
    exact ⟨_, hR.lv.same (fun v _ => by simp)⟩
  dsimp only
  rw [dif_pos h]
  exact Classical.choose_spec h
end Wp
end Go.Proofs.Ytlhpnhjfibkgpab
