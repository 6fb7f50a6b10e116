import Derived.Test.YtlkipgpfjpmliaaFmC
import Derived.Deep.RegionWith
namespace Go.Proofs.Ytlkipgpfjpmliaa
namespace Ft
open Go.RowKit
set_option linter.unusedVariables false
set_option maxRecDepth 8000
theorem lv_one_ok {n s : Int} (h : sz n = true) (hs : s < n) : lv n [s] = 0 := by unfold lv; rw [if_pos h, if_pos]; simp [hs]
theorem lv_one_no {n s : Int} (h : sz n = true) (hs : n ≤ s) : lv n [s] = 130 := by unfold lv; rw [if_pos h, if_neg]; simp; omega
theorem lv_bad {n f : Int} {L : List Int} {j : Nat} (h : sz n = true) (hj : L[j]? = some f) (hf : n ≤ f) : lv n L = 130 := by
  unfold lv; rw [if_pos h, if_neg]
  intro x
  have := x.2.2 f (List.mem_of_getElem? hj)
  omega
theorem lv_all {n : Int} {L : List Int} (h : sz n = true) (h0 : 0 < L.length) (h1 : L.length ≤ 64) (hb : ∀ (i : Nat) (e : Int), L[i]? = some e → e < n) : lv n L = 0 := by
  unfold lv; rw [if_pos h, if_pos]
  exact ⟨h0, h1, fun e he => by obtain ⟨i, hi⟩ := List.mem_iff_getElem?.1 he; exact hb i e hi⟩
theorem se_no {n s k : Int} (h : sz n = false) : se n s k = 2 := by unfold se; rw [if_neg]; simp [h]
theorem se_kind {n s k : Int} (h1 : ¬ k = 1) (h2 : ¬ k = 2) : se n s k = 2 := by unfold se; rw [if_neg]; intro h; rcases h.2 with h | h <;> contradiction
theorem se_ok {n s k : Int} (h : sz n = true) (hk : k = 1 ∨ k = 2) (hs : s < n) : se n s k = 0 := by unfold se; rw [if_pos ⟨h, hk⟩, if_pos hs]
theorem se_src {n s k : Int} (h : sz n = true) (hk : k = 1 ∨ k = 2) (hs : n ≤ s) : se n s k = 130 := by unfold se; rw [if_pos ⟨h, hk⟩, if_neg (by omega)]
end Ft
end Go.Proofs.Ytlkipgpfjpmliaa
