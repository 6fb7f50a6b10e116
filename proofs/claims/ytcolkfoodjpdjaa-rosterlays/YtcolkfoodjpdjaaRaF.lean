import Derived.Test.YtcolkfoodjpdjaaRaE
import Derived.Deep.RegionLaw
namespace Go.Proofs.Ytcolkfoodjpdjaa
namespace Ra
open Go.RowKit
set_option linter.unusedVariables false
/-- Entries as cells. -/
def ec (E : Nat → En) (l : Nat) : List Value := (List.range l).flatMap (fun j => [.string (E j).1, .string (E j).2])
theorem ec_succ (E : Nat → En) (l : Nat) : ec E (l + 1) = ec E l ++ [.string (E l).1, .string (E l).2] := by simp [ec, List.range_succ]
theorem ec_len (E : Nat → En) (l : Nat) : (ec E l).length = l * 2 := by
  induction l with
  | zero => rfl
  | succ l ih => rw [ec_succ, List.length_append, ih]; simp; omega
theorem ec_get (E : Nat → En) (l j : Nat) (h : j < l) : (ec E l)[j * 2]? = some (.string (E j).1) ∧ (ec E l)[j * 2 + 1]? = some (.string (E j).2) := by
  induction l with
  | zero => omega
  | succ l ih =>
    rw [ec_succ]
    have hl := ec_len E l
    by_cases hj : j < l
    · obtain ⟨a, b⟩ := ih hj
      rw [List.getElem?_append_left (by omega), List.getElem?_append_left (by omega)]
      exact ⟨a, b⟩
    · obtain rfl : j = l := by omega
      rw [List.getElem?_append_right (by omega), List.getElem?_append_right (by omega), hl]
      simp
theorem ec_one (E : Nat → En) (l : Nat) : ∀ u ∈ ec E l, u.oneCell' = true := by
  intro u hu
  simp only [ec, List.mem_flatMap] at hu
  obtain ⟨j, _, hj⟩ := hu
  simp at hj
  rcases hj with rfl | rfl <;> rfl
/-- Entries that lie somewhere may be appended. -/
theorem ERow.src {w : World} {a : Option Addr} {l c : Nat} {E : Nat → En} (h : ERow w a l E) (hn : a = none → c = 0) : Src w (.slice a l c) l (ec E l) := by
  cases a with
  | none =>
    have hl : l = 0 := by
      by_cases h0 : 0 < l
      · obtain ⟨x, hx, _⟩ := h h0; cases hx
      · omega
    subst hl
    rw [hn rfl]
    exact Or.inl ⟨rfl, rfl, rfl⟩
  | some x =>
    refine Or.inr ⟨x, c, rfl, ec_len E l, fun j u hj => ?_, ec_one E l⟩
    have hjl : j < l * 2 := by have := (List.getElem?_eq_some_iff.1 hj).1; rw [ec_len] at this; exact this
    obtain ⟨y, hy, hyy⟩ := h (by omega)
    cases hy
    obtain ⟨g0, g1⟩ := ec_get E l (j / 2) (by omega)
    obtain ⟨c0, c1⟩ := hyy.2 (j / 2) (by omega)
    by_cases he : j % 2 = 0
    · have e : j = j / 2 * 2 := by omega
      rw [e] at hj ⊢
      rw [g0] at hj; cases hj
      exact c0
    · have e : j = j / 2 * 2 + 1 := by omega
      rw [e] at hj ⊢
      rw [g1] at hj; cases hj
      exact c1
/-- A row of our own that holds entries and a mark. -/
theorem own_tw {w : World} {B g c l : Nat} {E : Nat → En} (h : w.ownsRow B 31 2 (.slice (some ⟨g, 0, none⟩) (l + 1) c) (l + 1) (ec E l ++ [.string mk, .string bh])) : ETw w ⟨g, 0, none⟩ l c E ∧ B ≤ g ∧ g < w.heap.size ∧ l + 1 ≤ c := by
  have hlt := h.lt g rfl
  have hc := h.cells (g := g) rfl
  have hcap : l + 1 ≤ c := by
    rcases h.2 with ⟨e, _⟩ | ⟨g', cap, cur, e, _, _, h4, _⟩
    · cases e
    · cases e; exact h4
  have hl := ec_len E l
  refine ⟨⟨hcap, ⟨hlt.2, fun i hi => ?_⟩, ?_, ?_⟩, hlt.1, hlt.2, hcap⟩
  · obtain ⟨g0, g1⟩ := ec_get E l i hi
    exact ⟨hc _ _ (by rw [List.getElem?_append_left (by omega)]; exact g0), hc _ _ (by rw [List.getElem?_append_left (by omega)]; exact g1)⟩
  · exact hc _ _ (by rw [List.getElem?_append_right (by omega), hl]; simp)
  · exact hc _ _ (by rw [List.getElem?_append_right (by omega), hl]; simp)
end Ra
end Go.Proofs.Ytcolkfoodjpdjaa
