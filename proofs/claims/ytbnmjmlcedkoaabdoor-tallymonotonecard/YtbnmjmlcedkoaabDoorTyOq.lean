import Derived.Test.YtbnmjmlcedkoaabDoorTyRd
import Derived.Test.YtbnmjmlcedkoaabDoorTyWk
namespace Go.Proofs.YtbnmjmlcedkoaabDoor
namespace Ty
open Go.RowKit
set_option linter.unusedVariables false
/-- The sum of a list, in units. -/
def sumU : List Int → Int
  | [] => 0
  | x :: xs => un x + sumU xs
theorem sumU_append (xs ys : List Int) : sumU (xs ++ ys) = sumU xs + sumU ys := by
  induction xs with
  | nil => simp [sumU]
  | cons x xs ih => simp only [List.cons_append, sumU, ih]; omega
theorem sumU_perm {xs ys : List Int} (h : List.Perm xs ys) : sumU xs = sumU ys := by
  induction h with
  | nil => rfl
  | cons x _ ih => simp only [sumU, ih]
  | swap x y l => simp only [sumU]; omega
  | trans _ _ h1 h2 => exact h1.trans h2
def FinL (xs : List Int) : Prop := ∀ x ∈ xs, Fin x ∧ 0 ≤ x ∧ x < 4294967296
theorem FinL.perm {xs ys : List Int} (h : FinL xs) (hp : List.Perm ys xs) : FinL ys := fun x hx => h x (hp.mem_iff.1 hx)
theorem getD_mem' (zs : List Int) (i : Nat) (h : i < zs.length) : zs.getD i 0 ∈ zs := by
  rw [List.getD_eq_getElem?_getD, List.getElem?_eq_getElem h]; exact List.getElem_mem h
theorem FinL.at {xs : List Int} (h : FinL xs) (i : Nat) (hi : i < xs.length) : Fin (xs.getD i 0) ∧ 0 ≤ xs.getD i 0 ∧ xs.getD i 0 < 4294967296 := h _ (getD_mem' xs i hi)
theorem take_snoc' (xs : List Int) (k : Nat) (h : k < xs.length) : xs.take (k + 1) = xs.take k ++ [xs.getD k 0] := by
  rw [List.take_succ_eq_append_getElem h]; simp [List.getD_eq_getElem?_getD, h]
theorem pts_sum (A : Int) (xs : List Int) (h : FinL xs) : ∀ k, k ≤ xs.length → pts A xs k = A + sumU (xs.take k)
  | 0, _ => by simp [pts, sumU]
  | k + 1, hk => by
    have hf := (h.at k (by omega)).1
    rw [pts, pts_sum A xs h k (by omega), take_snoc' xs k (by omega), sumU_append]
    unfold pt
    unfold Fin at hf
    rw [if_pos hf]
    simp only [sumU]; omega
theorem add_sum (xs : List Int) (h : FinL xs) : addV 0 xs xs.length = sumU xs ∧ addE xs xs.length = 0 := by
  obtain ⟨h1, h2⟩ := add_all (A := 0) (zs := xs) (n := xs.length) (fun i hi => (h.at i hi).1)
  refine ⟨?_, h2⟩
  rw [h1, pts_sum 0 xs h _ (Nat.le_refl _), List.take_length, Int.zero_add]
theorem fz_fin (zs : List Int) (k : Nat) (hk : k ≤ zs.length) (hz : ∀ i, i < k → 0 ≤ zs.getD i 0 ∧ zs.getD i 0 < 4294967296) : FinL (fz zs k) := by
  intro x hx
  unfold fz at hx
  rw [List.mem_filter] at hx
  obtain ⟨h1, h2⟩ := hx
  obtain ⟨i, hi, he⟩ := List.getElem_of_mem h1
  rw [List.length_take] at hi
  have hb := hz i (by omega)
  have e2 : zs.getD i 0 = x := by
    rw [List.getElem_take] at he
    rw [← he, List.getD_eq_getElem?_getD, List.getElem?_eq_getElem (by omega)]; rfl
  rw [e2] at hb
  have h3 : x / 8388608 % 256 ≠ 255 := by simpa using h2
  refine ⟨?_, hb⟩
  unfold Fin
  omega
/-- A list of the call's own, read. -/
theorem UL.row {w : World} {B : Nat} {v : Value} {xs : List Int} (h : UL w B v xs) (hx : ∀ x ∈ xs, 0 ≤ x ∧ x < 4294967296) (hs : xs.length ≤ 35184372088832) : ∃ a cap, v = .slice a xs.length cap ∧ xs.length ≤ cap ∧ cap ≤ 9223372036854775807 ∧ URow w a xs.length xs ∧ (0 < xs.length → ∃ g, a = some ⟨g, 0, none⟩ ∧ g < w.heap.size ∧ ∀ i, i < xs.length → w.cell? ⟨g, i, none⟩ = some (.int .u32 (xs.getD i 0))) := by
  have h' := h
  obtain ⟨h1, h2⟩ := h
  rcases h2 with ⟨rfl, h0⟩ | ⟨g, cap, cur, rfl, h3, h4, h5, h6, h7⟩
  · rw [h0]
    exact ⟨none, 0, rfl, by omega, by omega, ⟨⟨by omega, by omega⟩, fun h => by omega, fun i h => by omega⟩, fun h => by omega⟩
  · have hc : ∀ i, i < xs.length → w.cell? ⟨g, i, none⟩ = some (.int .u32 (xs.getD i 0)) := fun i hi => by
      have h := World.ownsRow.cellAt h' i (by omega)
      rw [h, us, List.getElem?_map, List.getD_eq_getElem?_getD, List.getElem?_eq_getElem hi]; rfl
    have lg : g < w.heap.size := (Array.getElem?_eq_some_iff.1 h4).1
    refine ⟨_, cap, rfl, h5, by unfold maxLen at h6; omega, ⟨⟨Nat.le_refl _, by omega⟩, fun _ => ⟨_, rfl, lg, fun i hi => by rw [add0]; exact hc i hi⟩, fun i hi => hx _ (getD_mem' xs i hi)⟩, fun _ => ⟨g, rfl, lg, hc⟩⟩
theorem fown_row {w : World} {B len : Nat} {zs : List Int} {v : Value} (hl : len ≤ zs.length) (hz : ∀ i, i < len → 0 ≤ zs.getD i 0 ∧ zs.getD i 0 < 4294967296) (hb : len ≤ 9223372036854775807) (h : w.ownsRow B 43 1 v len (fvals zs len)) : ∃ a cap, v = .slice a len cap ∧ FRow w a len zs := by
  have h' := h
  obtain ⟨h1, h2⟩ := h
  rcases h2 with ⟨rfl, h0⟩ | ⟨g, cap, cur, rfl, h3, h4, h5, h6, h7⟩
  · exact ⟨none, 0, by rw [h0], ⟨⟨hl, hb⟩, fun h => by omega, hz⟩⟩
  · refine ⟨_, cap, rfl, ⟨⟨hl, hb⟩, fun _ => ⟨_, rfl, (Array.getElem?_eq_some_iff.1 h4).1, fun i hi => ?_⟩, hz⟩⟩
    have h := World.ownsRow.cellAt h' i (by omega)
    rw [add0, h]
    have h9 := fvals_get zs len i [] hl hi
    rw [List.append_nil] at h9; exact h9
/-- The sum of a list that lies in memory. -/
theorem of_list (xs : List Int) (v : Value) (B : Nat) (w : World) (ht : Cl.TabAt w) (hf : FinL xs) (hs : xs.length ≤ 35184372088832) (h : w.ownsRow B 43 1 v xs.length (fvals xs xs.length)) :
    Calls Tryd.prog 7 #[v] w fun e w' => e = .returned (.tuple #[.agg (sm (sumU xs)), .int .i64 0]) ∧ Below w.heap.size w w' := by
  obtain ⟨a, cap, rfl, hr⟩ := fown_row (Nat.le_refl _) (fun i hi => (hf.at i hi).2) (by omega) h
  have h9 := of_any a xs.length cap xs w ht hr
  rw [(add_sum xs hf).1, (add_sum xs hf).2] at h9
  exact h9
end Ty
end Go.Proofs.YtbnmjmlcedkoaabDoor
