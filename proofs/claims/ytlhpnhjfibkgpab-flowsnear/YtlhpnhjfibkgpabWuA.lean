import Derived.Test.YtlhpnhjfibkgpabNeG
namespace Go.Proofs.Ytlhpnhjfibkgpab
namespace Wp
open Go.RowKit
set_option linter.unusedVariables false
/-- Levels: what a list of them is, of sources sr. -/
structure Lv (n m : Nat) (E : Nat → Int × Int × Int) (sr : Nat → Prop) (L : Nat → Int) : Prop where
  b : ∀ v, v < n → L v = 18446744073709551615 ∨ (0 ≤ L v ∧ L v < 5000)
  z : ∀ v, v < n → (L v = 0 ↔ sr v)
  d : ∀ v, v < n → ¬ sr v → L v ≠ 18446744073709551615 → ∃ u : Nat, Arc E m u v ∧ L u = L v - 1
  e : ∀ u v, Arc E m u v → L u ≠ 18446744073709551615 → L v ≠ 18446744073709551615 ∧ L v ≤ L u + 1
theorem Lv.le {n m : Nat} {E : Nat → Int × Int × Int} {sr : Nat → Prop} {L M : Nat → Int} (hI : EIn n m E) (h : Lv n m E sr L) (h' : Lv n m E sr M) : ∀ k : Nat, k < 5000 → ∀ v, v < n → L v = k → M v ≠ 18446744073709551615 ∧ M v ≤ k := by
  intro k
  induction k with
  | zero =>
    intro _ v hv e
    have := (h'.z v hv).2 ((h.z v hv).1 e)
    omega
  | succ k ih =>
    intro hk v hv e
    have hs : ¬ sr v := fun q => by have := (h.z v hv).2 q; omega
    obtain ⟨u, ha, hu⟩ := h.d v hv hs (by omega)
    obtain ⟨h1, h2⟩ := ih (by omega) u (ha.lt hI).1 (by push_cast at e; omega)
    obtain ⟨h3, h4⟩ := h'.e u v ha h1
    exact ⟨h3, by push_cast; omega⟩
theorem Lv.unique {n m : Nat} {E : Nat → Int × Int × Int} {sr : Nat → Prop} {L M : Nat → Int} (hI : EIn n m E) (h : Lv n m E sr L) (h' : Lv n m E sr M) (v : Nat) (hv : v < n) : L v = M v := by
  have one : ∀ {A B : Nat → Int}, Lv n m E sr A → Lv n m E sr B → A v ≠ 18446744073709551615 → B v ≠ 18446744073709551615 ∧ B v ≤ A v := fun {A B} a b hne => by
    have hb := (a.b v hv).resolve_left hne
    have := Lv.le hI a b (A v).toNat (by omega) v hv (by omega)
    exact ⟨this.1, by omega⟩
  by_cases e : L v = 18446744073709551615
  · by_cases e' : M v = 18446744073709551615
    · omega
    · exact absurd e (one h' h e').1
  · have h1 := one h h' e
    have h2 := one h' h h1.1
    omega
/-- The queue: q, of which the first k are done. -/
structure Qv (n m : Nat) (E : Nat → Int × Int × Int) (sr : Nat → Prop) (L : Nat → Int) (q : List Nat) (k : Nat) : Prop where
  lt : ∀ v ∈ q, v < n
  nd : q.Nodup
  re : ∀ v, v < n → (L v ≠ 18446744073709551615 ↔ v ∈ q)
  po : ∀ (j v : Nat), q[j]? = some v → 0 ≤ L v ∧ L v ≤ j
  mo : ∀ (i j u v : Nat), i ≤ j → q[i]? = some u → q[j]? = some v → L u ≤ L v
  hd : ∀ (u v j : Nat), q[k]? = some u → q[j]? = some v → L v ≤ L u + 1
  pr : ∀ (i u v : Nat), i < k → q[i]? = some u → Arc E m u v → L v ≠ 18446744073709551615 ∧ L v ≤ L u + 1
  fr : ∀ v, v < n → L v ≠ 18446744073709551615 → ¬ sr v → ∃ u : Nat, Arc E m u v ∧ L u ≠ 18446744073709551615 ∧ L u = L v - 1
  so : ∀ v, v < n → (L v = 0 ↔ sr v)
theorem nd_len (n : Nat) (q : List Nat) (h : q.Nodup) (hl : ∀ v ∈ q, v < n) : q.length ≤ n := by
  have := List.Nodup.length_le_of_subset (l₁ := q) (l₂ := List.range n) h (fun v hv => List.mem_range.2 (hl v hv))
  simpa using this
theorem get_mem {q : List Nat} {j v : Nat} (h : q[j]? = some v) : v ∈ q := List.mem_of_getElem? h
section
variable {n m : Nat} {E : Nat → Int × Int × Int} {sr : Nat → Prop} {L : Nat → Int} {q : List Nat} {k : Nat}
theorem Qv.next (h : Qv n m E sr L q k) (u : Nat) (hu : q[k]? = some u) (hp : ∀ v, Arc E m u v → L v ≠ 18446744073709551615 ∧ L v ≤ L u + 1) : Qv n m E sr L q (k + 1) := by
  refine ⟨h.lt, h.nd, h.re, h.po, h.mo, fun u' v j hu' hv => ?_, fun i x v hi hx ha => ?_, h.fr, h.so⟩
  · have h1 := h.hd u v j hu hv
    have h2 := h.mo k (k + 1) u u' (by omega) hu hu'
    omega
  · by_cases e : i < k
    · exact h.pr i x v e hx ha
    · have e2 : i = k := by omega
      subst e2
      rw [hu] at hx
      cases hx
      exact hp v ha
theorem Qv.push (hn : n ≤ 1000) (h : Qv n m E sr L q k) (u v : Nat) (hu : q[k]? = some u) (hv : v < n) (ha : Arc E m u v) (hU : L v = 18446744073709551615) : Qv n m E sr (up L v (L u + 1)) (q ++ [v]) k := by
  have hvq : v ∉ q := fun hm => (h.re v hv).2 hm hU
  have hne : ∀ {x}, x ∈ q → x ≠ v := fun {x} hx e => hvq (e ▸ hx)
  have hk : k < q.length := (List.getElem?_eq_some_iff.1 hu).1
  have hupos := h.po k u hu
  have huq := get_mem hu
  have hupU : L u ≠ 18446744073709551615 := (h.re u (h.lt u huq)).2 huq
  have got : ∀ {j x : Nat}, (q ++ [v])[j]? = some x → (q[j]? = some x ∧ x ≠ v) ∨ (j = q.length ∧ x = v) := fun {j x} hj => by
    by_cases e : j < q.length
    · rw [List.getElem?_append_left e] at hj
      exact .inl ⟨hj, hne (get_mem hj)⟩
    · rw [List.getElem?_append_right (by omega)] at hj
      by_cases e2 : j = q.length
      · subst e2; simp at hj; exact .inr ⟨rfl, hj.symm⟩
      · obtain ⟨t, ht⟩ : ∃ t, j - q.length = t + 1 := ⟨j - q.length - 1, by omega⟩
        rw [ht] at hj; simp at hj
  have hlen := nd_len n q h.nd h.lt
  refine ⟨fun x hx => ?_, ?_, fun x hx => ?_, fun j x hj => ?_, fun i j x y hij hi hj => ?_, fun x y j hx hy => ?_, fun i x y hi hx hxy => ?_, fun x hx hxU hs => ?_, fun x hx => ?_⟩
  · rcases List.mem_append.1 hx with k | k
    · exact h.lt x k
    · simp at k; subst k; exact hv
  · rw [List.nodup_append]
    exact ⟨h.nd, by simp, fun a haq b hb => by simp at hb; rw [hb]; exact hne haq⟩
  · by_cases e : x = v
    · subst e
      rw [up_eq]
      have hlen := nd_len n q h.nd h.lt
      exact ⟨fun _ => by simp, fun _ => by omega⟩
    · rw [up_ne _ _ _ _ e, h.re x hx]
      simp [e]
  · rcases got hj with ⟨a, b⟩ | ⟨a, b⟩
    · rw [up_ne _ _ _ _ b]; exact h.po j x a
    · subst b; rw [up_eq]; omega
  · rcases got hi with ⟨a, b⟩ | ⟨a, b⟩
    · rw [up_ne _ _ _ _ b]
      rcases got hj with ⟨c, d⟩ | ⟨c, d⟩
      · rw [up_ne _ _ _ _ d]; exact h.mo i j x y hij a c
      · subst d; rw [up_eq]; exact h.hd u x i hu a
    · subst b
      rcases got hj with ⟨c, d⟩ | ⟨c, d⟩
      · have := (List.getElem?_eq_some_iff.1 c).1; omega
      · subst d; omega
  · rw [List.getElem?_append_left hk, hu] at hx
    cases hx
    rw [up_ne _ _ _ _ (hne huq)]
    rcases got hy with ⟨c, d⟩ | ⟨c, d⟩
    · rw [up_ne _ _ _ _ d]; exact h.hd u y j hu c
    · subst d; rw [up_eq]; omega
  · rw [List.getElem?_append_left (by omega)] at hx
    have h1 := h.pr i x y hi hx hxy
    have e : y ≠ v := fun e => by subst e; exact h1.1 hU
    rw [up_ne _ _ _ _ e, up_ne _ _ _ _ (hne (get_mem hx))]
    exact h1
  · by_cases e : x = v
    · subst e
      refine ⟨u, ha, ?_, ?_⟩
      · rw [up_ne _ _ _ _ (hne huq)]; exact hupU
      · rw [up_ne _ _ _ _ (hne huq), up_eq]; omega
    · rw [up_ne _ _ _ _ e] at hxU ⊢
      obtain ⟨u', h1, h2, h3⟩ := h.fr x hx hxU hs
      have e' : u' ≠ v := fun e => by subst e; exact h2 hU
      exact ⟨u', h1, by rw [up_ne _ _ _ _ e']; exact h2, by rw [up_ne _ _ _ _ e']; exact h3⟩
  · by_cases e : x = v
    · subst e
      rw [up_eq]
      refine ⟨fun h0 => by omega, fun hs => ?_⟩
      have := (h.so x hv).2 hs
      omega
    · rw [up_ne _ _ _ _ e]; exact h.so x hx
theorem Qv.lv (hn : n ≤ 1000) (hI : EIn n m E) (h : Qv n m E sr L q q.length) : Lv n m E sr L := by
  have hlen := nd_len n q h.nd h.lt
  have at' : ∀ v, v < n → L v ≠ 18446744073709551615 → ∃ j : Nat, j < q.length ∧ q[j]? = some v := fun v hv hU => by
    obtain ⟨j, hj⟩ := List.getElem?_of_mem ((h.re v hv).1 hU)
    exact ⟨j, (List.getElem?_eq_some_iff.1 hj).1, hj⟩
  refine ⟨fun v hv => ?_, h.so, fun v hv hs hU => ?_, fun u v ha hU => ?_⟩
  · by_cases e : L v = 18446744073709551615
    · exact .inl e
    · obtain ⟨j, hj, hq⟩ := at' v hv e
      have := h.po j v hq
      exact .inr ⟨by omega, by omega⟩
  · obtain ⟨u, h1, _, h3⟩ := h.fr v hv hU hs
    exact ⟨u, h1, h3⟩
  · obtain ⟨j, hj, hq⟩ := at' u (ha.lt hI).1 hU
    exact h.pr j u v hj hq ha
end
/-- The queue of the first i sources. -/
structure Qs (n : Nat) (Z : Nat → Nat) (i : Nat) (L : Nat → Int) (q : List Nat) : Prop where
  lt : ∀ v ∈ q, v < n
  nd : q.Nodup
  re : ∀ v, v < n → (v ∈ q → L v = 0) ∧ (v ∉ q → L v = 18446744073709551615)
  so : ∀ v, v < n → (v ∈ q ↔ ∃ j, j < i ∧ Z j = v)
theorem Qs.zero (n : Nat) (Z : Nat → Nat) : Qs n Z 0 (fun _ => 18446744073709551615) [] :=
  ⟨fun v hv => by simp at hv, List.nodup_nil, fun v hv => ⟨fun h => by simp at h, fun _ => rfl⟩, fun v hv => ⟨fun h => by simp at h, fun ⟨j, hj, _⟩ => by omega⟩⟩
theorem Qs.old {n i : Nat} {Z : Nat → Nat} {L : Nat → Int} {q : List Nat} (h : Qs n Z i L q) (hz : Z i < n) (hU : L (Z i) ≠ 18446744073709551615) : Qs n Z (i + 1) L q := by
  have hm : Z i ∈ q := Classical.byContradiction fun e => hU ((h.re _ hz).2 e)
  refine ⟨h.lt, h.nd, h.re, fun v hv => ⟨fun hq => ?_, fun ⟨j, hj, e⟩ => ?_⟩⟩
  · obtain ⟨j, hj, e⟩ := (h.so v hv).1 hq
    exact ⟨j, by omega, e⟩
  · by_cases c : j < i
    · exact (h.so v hv).2 ⟨j, c, e⟩
    · have : j = i := by omega
      subst this; subst e; exact hm
theorem Qs.push {n i : Nat} {Z : Nat → Nat} {L : Nat → Int} {q : List Nat} (h : Qs n Z i L q) (hz : Z i < n) (hU : L (Z i) = 18446744073709551615) : Qs n Z (i + 1) (up L (Z i) 0) (q ++ [Z i]) := by
  have hm : Z i ∉ q := fun e => by have := (h.re _ hz).1 e; omega
  refine ⟨fun v hv => ?_, ?_, fun v hv => ?_, fun v hv => ?_⟩
  · rcases List.mem_append.1 hv with k | k
    · exact h.lt v k
    · simp at k; subst k; exact hz
  · rw [List.nodup_append]
    exact ⟨h.nd, by simp, fun a ha b hb => by simp at hb; subst hb; exact fun e => hm (e ▸ ha)⟩
  · by_cases e : v = Z i
    · subst e
      rw [up_eq]
      exact ⟨fun _ => rfl, fun k => absurd (by simp) k⟩
    · rw [up_ne _ _ _ _ e]
      simp only [List.mem_append, List.mem_singleton, e, or_false]
      exact h.re v hv
  · rw [List.mem_append, h.so v hv]
    constructor
    · rintro (⟨j, hj, e⟩ | k)
      · exact ⟨j, by omega, e⟩
      · simp at k; exact ⟨i, by omega, k.symm⟩
    · rintro ⟨j, hj, e⟩
      by_cases c : j < i
      · exact .inl ⟨j, c, e⟩
      · have : j = i := by omega
        subst this; right; simp [e]
theorem Qs.qv {n m k : Nat} {E : Nat → Int × Int × Int} {Z : Nat → Nat} {L : Nat → Int} {q : List Nat} (h : Qs n Z k L q) : Qv n m E (fun v => ∃ j, j < k ∧ Z j = v) L q 0 := by
  have zero : ∀ {v}, v ∈ q → L v = 0 := fun {v} hv => (h.re v (h.lt v hv)).1 hv
  refine ⟨h.lt, h.nd, fun v hv => ⟨fun hU => Classical.byContradiction fun e => hU ((h.re v hv).2 e), fun hm => by rw [zero hm]; omega⟩, fun j v hj => by rw [zero (get_mem hj)]; omega, fun i j u v _ hi hj => by rw [zero (get_mem hi), zero (get_mem hj)]; exact Int.le_refl _, fun u v j hu hv => by rw [zero (get_mem hu), zero (get_mem hv)]; omega, fun i _ _ hi => by omega, fun v hv hU hs => ?_, fun v hv => ?_⟩
  · exact absurd ((h.so v hv).1 (Classical.byContradiction fun e => hU ((h.re v hv).2 e))) hs
  · rw [← h.so v hv]
    exact ⟨fun h0 => Classical.byContradiction fun e => by have := (h.re v hv).2 e; omega, fun hm => zero hm⟩
end Wp
end Go.Proofs.Ytlhpnhjfibkgpab
