import Derived.Test.YtlhpnhjfibkgpabWpG
namespace Go.Proofs.Ytlhpnhjfibkgpab
namespace Wp
open Go.RowKit
set_option linter.unusedVariables false
/-- A list without repeats is no longer than one that holds all of it. -/
theorem nodup_le {α : Type} [BEq α] [LawfulBEq α] : ∀ (l m : List α), l.Nodup → (∀ x, x ∈ l → x ∈ m) → l.length ≤ m.length
  | [], m, _, _ => Nat.zero_le _
  | x :: l, m, hn, h => by
    have hx : x ∈ m := h x (by simp)
    have h1 := nodup_le l (m.erase x) (List.nodup_cons.1 hn).2 (fun y hy => by
      have hne : y ≠ x := fun e => (List.nodup_cons.1 hn).1 (e ▸ hy)
      exact (List.mem_erase_of_ne hne).2 (h y (by simp [hy])))
    have h2 := List.length_erase_of_mem hx
    have h3 := List.length_pos_of_mem hx
    simp only [List.length_cons]
    omega
theorem pig (f : Nat → Nat) (k n : Nat) (h1 : ∀ i, i < k → f i < n) (h2 : ∀ i j, i < j → j < k → f i ≠ f j) : k ≤ n := by
  have := nodup_le ((List.range k).map f) (List.range n) (by
    rw [List.nodup_iff_pairwise_ne, List.pairwise_map]
    refine List.Pairwise.imp_of_mem ?_ (List.pairwise_lt_range (n := k))
    intro a b ha hb hab
    exact h2 a b hab (List.mem_range.1 hb)) (fun x hx => by
    obtain ⟨i, hi, rfl⟩ := List.mem_map.1 hx
    exact List.mem_range.2 (h1 i (List.mem_range.1 hi)))
  simpa using this
/-- As many of one kind as of another, if they can be told off against each other. -/
theorem count_le (p q : Nat → Bool) (n : Nat) (f : Nat → Nat) (h1 : ∀ v, v < n → p v = true → f v < n ∧ q (f v) = true) (h2 : ∀ u v, u < n → v < n → p u = true → p v = true → f u = f v → u = v) : (List.range n).countP p ≤ (List.range n).countP q := by
  rw [List.countP_eq_length_filter, List.countP_eq_length_filter]
  have := nodup_le (((List.range n).filter p).map f) ((List.range n).filter q) (by
    rw [List.nodup_iff_pairwise_ne, List.pairwise_map]
    have hl : ((List.range n).filter p).Pairwise (· < ·) := List.Pairwise.filter _ List.pairwise_lt_range
    refine List.Pairwise.imp_of_mem ?_ hl
    intro a b ha hb hab e
    have ha' := List.mem_filter.1 ha
    have hb' := List.mem_filter.1 hb
    have := h2 a b (List.mem_range.1 ha'.1) (List.mem_range.1 hb'.1) ha'.2 hb'.2 e
    omega) (fun x hx => by
    obtain ⟨i, hi, rfl⟩ := List.mem_map.1 hx
    have hi' := List.mem_filter.1 hi
    obtain ⟨h3, h4⟩ := h1 i (List.mem_range.1 hi'.1) hi'.2
    exact List.mem_filter.2 ⟨List.mem_range.2 h3, h4⟩)
  simpa using this
end Wp
end Go.Proofs.Ytlhpnhjfibkgpab
