import Derived.Test.YtcolkfoodjpdjaaRlJ
namespace Go.Proofs.Ytcolkfoodjpdjaa
namespace Rl
open Go.RowKit Ra
set_option linter.unusedVariables false
theorem own_cell {w : World} {B e s n g cap j : Nat} {xs : List Value} {u : Value} (h : w.ownsRow B e s (.slice (some ⟨g, 0, none⟩) n cap) n xs) (hj : xs[j]? = some u) : w.cell? ⟨g, j, none⟩ = some u := by
  have h1 := h.cells (g := g) rfl j u hj
  rw [show (⟨g, 0, none⟩ : Addr).add j = ⟨g, j, none⟩ by unfold Addr.add; split <;> simp_all] at h1
  exact h1
theorem own_frozen {w : World} {B e s n g cap : Nat} {xs : List Value} (h : w.ownsRow B e s (.slice (some ⟨g, 0, none⟩) n cap) n xs) (j : Nat) : w.frozen? ⟨g, j, none⟩ = false := by
  rcases h.2 with ⟨e, _⟩ | ⟨g', cap', cur, e, h3, h4, _⟩
  · cases e
  · cases e; simp [World.frozen?, h4]
/-- What stands while a list is spoilt. -/
structure SP (w : World) (B1 B2 g l cap k : Nat) (ys : List Value) (wr : World) : Prop where
  row : wr.ownsRow B1 37 2 (.slice (some ⟨g, 0, none⟩) l cap) l ys
  nm : ∀ i, i < l → ∃ s, ys[i * 2]? = some (.string s)
  en : ∀ i, k ≤ i → i < l → ∃ u m xs, ys[i * 2 + 1]? = some u ∧ wr.ownsRow B1 31 2 u m xs ∧ m ≤ 900000 ∧ ∀ q, u.ownBlock = some q → q < B2
  far : ∀ i j u u', k ≤ i → i < l → k ≤ j → j < l → i ≠ j → ys[i * 2 + 1]? = some u → ys[j * 2 + 1]? = some u' → u.ownBlock = none ∨ u.ownBlock ≠ u'.ownBlock
  kp : Kp B1 B2 w wr
  gb : g < B2
/-- An entry is written over. -/
theorem SP.write {w wr : World} {B1 B2 g l cap k j gk m uc : Nat} {ys : List Value} {x : Value} (h : SP w B1 B2 g l cap k ys wr) (hk : k < l) (hu : ys[k * 2 + 1]? = some (.slice (some ⟨gk, 0, none⟩) m uc)) (hx : x.cells = #[x]) : SP w B1 B2 g l cap k ys (wr.setCell ⟨gk, j, none⟩ x) := by
  obtain ⟨u, m', xs', h1, h2, h3, h4⟩ := h.en k (Nat.le_refl _) hk
  rw [hu] at h1; cases h1
  have hm : m' = m := by
    rcases h2.2 with ⟨e, _⟩ | ⟨_, _, _, e, _⟩
    · cases e
    · cases e; rfl
  subst hm
  have hb := h4 gk rfl
  have hlo := (h2.lt gk rfl).1
  have hgk : some gk ≠ some g := (rows_ne h2 h.row (by decide)).resolve_left (by simp [Value.ownBlock])
  refine ⟨own_setCell h.row hgk, h.nm, fun i hi hil => ?_, h.far, h.kp.set hlo hb x, h.gb⟩
  by_cases hik : i = k
  · subst hik
    exact ⟨_, m', xs'.set j x, hu, own_set h2 hx, h3, h4⟩
  · obtain ⟨v, n, zs, q1, q2, q3, q4⟩ := h.en i hi hil
    refine ⟨v, n, zs, q1, own_setCell q2 ?_, q3, q4⟩
    rcases h.far i k v _ hi hil (Nat.le_refl _) hk hik q1 hu with e | e
    · rw [e]; simp
    · exact Ne.symm e
/-- A section's list is made longer. -/
theorem SP.longer {w wr X w1 : World} {B1 B2 g l cap k : Nat} {ys : List Value} {u v' : Value} (h : SP w B1 B2 g l cap k ys wr) (hk : k < l) (hu : ys[k * 2 + 1]? = some u) (hv : v'.cells = #[v']) (hX : Below wr.heap.size wr X) (hXk : Kp B1 B2 w X) (hg : X.grownBy w1 u.ownBlock) :
    (w1.cell? ⟨g, k * 2 + 1, none⟩ = some u ∧ w1.frozen? ⟨g, k * 2 + 1, none⟩ = false) ∧ SP w B1 B2 g l cap (k + 1) (ys.set (k * 2 + 1) v') (w1.setCell ⟨g, k * 2 + 1, none⟩ v') := by
  obtain ⟨u', m', xs', h1, h2, h3, h4⟩ := h.en k (Nat.le_refl _) hk
  rw [hu] at h1; cases h1
  have hgl := h.row.lt g rfl
  have r1 : X.ownsRow B1 37 2 (.slice (some ⟨g, 0, none⟩) l cap) l ys := own_on h.row hX
  have hne : some g ≠ u.ownBlock := by
    rcases rows_ne (own_on h2 hX) r1 (by decide) with e | e
    · rw [e]; simp
    · exact Ne.symm e
  have r2 := r1.kept hg (.inr hne)
  have hlen : ys.length = l * 2 := h.row.1
  refine ⟨⟨own_cell r2 hu, own_frozen r2 _⟩, own_set r2 hv, fun i hi => ?_, fun i hi hil => ?_, fun i j a b hi hil hj hjl hij ha hb => ?_, ?_, h.gb⟩
  · obtain ⟨s, hs⟩ := h.nm i hi
    exact ⟨s, by rw [List.getElem?_set_ne (by omega)]; exact hs⟩
  · obtain ⟨v, n, zs, q1, q2, q3, q4⟩ := h.en i (by omega) hil
    refine ⟨v, n, zs, by rw [List.getElem?_set_ne (by omega)]; exact q1, ?_, q3, q4⟩
    have q5 := (own_on q2 hX).kept hg (h.far i k v u (by omega) hil (Nat.le_refl _) hk (by omega) q1 hu)
    refine own_setCell q5 ?_
    rcases rows_ne q5 r2 (by decide) with e | e
    · rw [e]; simp
    · exact Ne.symm e
  · rw [List.getElem?_set_ne (by omega)] at ha hb
    exact h.far i j a b (by omega) hil (by omega) hjl hij ha hb
  · have hB : ∀ q, u.ownBlock = some q → q < w.heap.size → B1 ≤ q ∧ q < B2 := fun q hq _ => ⟨(h2.lt q hq).1, h4 q hq⟩
    exact (hXk.grown hg hB).set hgl.1 h.gb v'
end Rl
end Go.Proofs.Ytcolkfoodjpdjaa
