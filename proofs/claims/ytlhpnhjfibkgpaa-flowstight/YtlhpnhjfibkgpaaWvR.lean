import Derived.Test.YtlhpnhjfibkgpaaWvK
namespace Go.Proofs.Ytlhpnhjfibkgpaa
namespace Wp
open Go.RowKit
set_option linter.unusedVariables false
set_option maxRecDepth 8000
/-- Weights of 1: distances are levels. -/
structure Un (m : Nat) (E : Nat → Int × Int × Int) (P : Nat → Int) (r : Nat) : Prop where
  a : ∀ v, P v = 9223372036854775807 ∨ (0 ≤ P v ∧ P v ≤ r)
  c : ∀ v, P v ≠ 9223372036854775807 → 0 < P v → ∃ x z, Aw 1 E m x v z ∧ P x = P v - 1
  e : ∀ x y z, Aw 1 E m x y z → P x ≠ 9223372036854775807 → P x < r → P y ≠ 9223372036854775807 ∧ P y ≤ P x + 1
theorem aw1 {E : Nat → Int × Int × Int} {i x y : Nat} {z : Int} (h : Aw 1 E i x y z) : z = 1 := by
  obtain ⟨j, _, _, _, rfl⟩ := h
  rfl
theorem Un.new {n m : Nat} {E : Nat → Int × Int × Int} {P : Nat → Int} {r : Nat} (hI : EIn n m E) (hr : r ≤ 1000) (h : Un m E P r) (v : Nat) : ex 1 E P m v = P v ∨ (P v = 9223372036854775807 ∧ ex 1 E P m v = (r : Int) + 1 ∧ ∃ x z, Aw 1 E m x v z ∧ P x = r) := by
  have h1 := ex_le (k := 1) (E := E) P m v
  rcases ex_from m (k := 1) hI P m (Nat.le_refl _) v with q | ⟨x, z, ha, hx, q⟩
  · exact .inl q
  · have hz := aw1 ha
    have hax := (h.a x).resolve_left hx
    rcases h.a v with c | c
    · by_cases e : P x < r
      · exact absurd c (h.e x v z ha hx e).1
      · exact .inr ⟨c, by omega, x, z, ha, by omega⟩
    · left
      by_cases e : P x < r
      · have := h.e x v z ha hx e
        omega
      · omega
theorem Un.next {n m : Nat} {E : Nat → Int × Int × Int} {P : Nat → Int} {r : Nat} (hI : EIn n m E) (hr : r ≤ 1000) (h : Un m E P r) : Un m E (ex 1 E P m) (r + 1) := by
  have old : ∀ v, P v ≠ 9223372036854775807 → ex 1 E P m v = P v := fun v hv => by
    rcases h.new hI hr v with q | q
    · exact q
    · exact absurd q.1 hv
  refine ⟨fun v => ?_, fun v hv h0 => ?_, fun x y z ha hx hlt => ?_⟩
  · rcases h.new hI hr v with q | q
    · rw [q]
      rcases h.a v with c | c
      · exact .inl c
      · right; push_cast; omega
    · right; push_cast; omega
  · rcases h.new hI hr v with q | ⟨q1, q2, x, z, ha, hx⟩
    · rw [q] at hv h0 ⊢
      obtain ⟨x, z, ha, hx⟩ := h.c v hv h0
      have hb := (h.a v).resolve_left hv
      exact ⟨x, z, ha, by rw [old x (by omega)]; exact hx⟩
    · exact ⟨x, z, ha, by rw [old x (by omega), q2]; omega⟩
  · have hz := aw1 ha
    have hx' : P x ≠ 9223372036854775807 := fun c => by
      rcases h.new hI hr x with q | q
      · rw [q] at hx; exact hx c
      · rw [q.2.1] at hlt; push_cast at hlt; omega
    have := ex_edge (k := 1) (E := E) P m x y z ha hx'
    have hb := (h.a x).resolve_left hx'
    rw [old x hx']
    exact ⟨by omega, by omega⟩
theorem un_all {n m s : Nat} {E : Nat → Int × Int × Int} (hI : EIn n m E) (r : Nat) (hr : r ≤ 1000) : Un m E (Dd m s 1 E r) r := by
  induction r with
  | zero =>
    have hd : ∀ v, Dd m s 1 E 0 v = if v = s then 0 else 9223372036854775807 := fun v => rfl
    refine ⟨fun v => ?_, fun v hv h0 => ?_, fun x y z ha hx hlt => ?_⟩
    · rw [hd]; split
      · exact .inr ⟨Int.le_refl _, by simp⟩
      · exact .inl rfl
    · exfalso; rw [hd] at hv h0
      split at h0
      · omega
      · rename_i e; rw [if_neg e] at hv; exact hv rfl
    · exfalso; rw [hd] at hx hlt
      split at hlt
      · simp at hlt
      · rename_i e; rw [if_neg e] at hx; exact hx rfl
  | succ r ih => exact (ih (by omega)).next hI (by omega)
theorem un_down {n m s : Nat} {E : Nat → Int × Int × Int} (hI : EIn n m E) (r : Nat) (hr : r ≤ 1000) : ∀ k : Nat, k ≤ 2000 → ∀ v, v < n → Dd m s 1 E r v = k → ∃ f : Nat → Nat, ∀ j, j ≤ k → f j < n ∧ Dd m s 1 E r (f j) = j := by
  have h := un_all (s := s) hI r hr
  intro k
  induction k with
  | zero => exact fun _ v hv hl => ⟨fun _ => v, fun j hj => (by have e : j = 0 := (by omega); subst e; exact ⟨hv, hl⟩)⟩
  | succ k ih =>
    intro hk v hv hl
    obtain ⟨x, z, ⟨j, hj, h1, h2, h3⟩, hx⟩ := h.c v (by push_cast at hl; omega) (by push_cast at hl; omega)
    obtain ⟨x', y', e1, e2, hxn, _⟩ := hI j hj
    have ee : x' = x := by omega
    subst ee
    obtain ⟨f, hf⟩ := ih (by omega) x' hxn (by push_cast at hl; omega)
    refine ⟨fun j => if j ≤ k then f j else v, fun j hj => ?_⟩
    by_cases e : j ≤ k
    · have e2 : (if j ≤ k then f j else v) = f j := if_pos e
      dsimp only
      rw [e2]; exact hf j e
    · have e2 : (if j ≤ k then f j else v) = v := if_neg e
      dsimp only
      rw [e2]; exact ⟨hv, by rw [hl]; congr 1; omega⟩
/-- With weights of 1 nothing changes in the n-th round. -/
theorem un_end {n m s : Nat} {E : Nat → Int × Int × Int} (hI : EIn n m E) (h1 : 1 ≤ n) (hn : n ≤ 999) (v : Nat) (hv : v < n) : Dd m s 1 E (n - 1 + 1) v = Dd m s 1 E (n - 1) v := by
  have h := un_all (s := s) hI (n - 1) (by omega)
  rcases h.new hI (by omega) v with q | ⟨_, q, _⟩
  · exact q
  · exfalso
    have q' : Dd m s 1 E (n - 1 + 1) v = ((n - 1 : Nat) : Int) + 1 := q
    obtain ⟨f, hf⟩ := un_down (s := s) hI (n - 1 + 1) (by omega) n (by omega) v hv (by rw [q']; omega)
    have := pig f (n + 1) n (fun i hi => (hf i (by omega)).1) (fun i j hij hj e => by
      have a1 := (hf i (by omega)).2
      have a2 := (hf j (by omega)).2
      rw [e] at a1
      omega)
    omega
set_option maxHeartbeats 1000000 in
theorem dist_no (s : Nat → Int) (h1 : s 1 = 0) (h0 : s 0 = 9223372036854775807) (w : World) : Calls Try.prog 22 #[.agg (sv s)] w fun e w' => e = .returned (.tuple #[.int .i64 0, .bool false]) ∧ w' = w.alloc (so s) := by
  have b1 : (s 1 != 0) = false := by simp [h1]
  have b2 : (s 0 == 9223372036854775807) = true := by simp [h0]
  clear h1 h0
  go_enter Try.func22, Try.ntmps22
  go_wp2
  all_goals go_ret2
  all_goals exact ⟨rfl, rfl⟩
set_option maxHeartbeats 1000000 in
theorem dist_yes (s : Nat → Int) (L : Int) (h1 : s 1 = 0) (h0 : s 0 ≠ 9223372036854775807) (hL : wrap64 (s 0) = L) (w : World) : Calls Try.prog 22 #[.agg (sv s)] w fun e w' => e = .returned (.tuple #[.int .i64 L, .bool true]) ∧ w' = w.alloc (so s) := by
  have b1 : (s 1 != 0) = false := by simp [h1]
  have b2 : (s 0 == 9223372036854775807) = false := by simp [h0]
  have HL := hide hL
  clear h1 h0 hL
  go_enter Try.func22, Try.ntmps22
  go_wp2
  all_goals go_ret2
  all_goals first | exact ⟨rfl, rfl⟩ | (rw [← HL.out]; exact ⟨rfl, rfl⟩)
end Wp
end Go.Proofs.Ytlhpnhjfibkgpaa
