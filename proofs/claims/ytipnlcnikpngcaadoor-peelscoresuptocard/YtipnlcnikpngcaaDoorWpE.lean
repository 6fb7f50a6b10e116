import Derived.Test.YtipnlcnikpngcaaDoorWpB
namespace Go.Proofs.YtipnlcnikpngcaaDoor
namespace Wp
open Go.RowKit
set_option linter.unusedVariables false
set_option maxRecDepth 8000
set_option maxHeartbeats 1000000 in
theorem num_any (e : Int) (w : World) : Calls Tryd.prog 8 #[.int .i64 e] w fun e' w' => e' = .returned (.int .i64 e) ∧ w' = w := by
  go_enter Tryd.func8, Tryd.ntmps8
  go_wp2
  go_ret
  exact ⟨rfl, rfl⟩
/-- The words from W up to j are noughts. -/
def cl (s : Nat → Int) (W j : Nat) : Nat → Int := fun i => if W ≤ i ∧ i < j then 0 else s i
theorem cl_self (s : Nat → Int) (W : Nat) : cl s W W = s := by funext i; unfold cl; rw [if_neg (by omega)]
theorem cl_up (s : Nat → Int) (W j : Nat) (h : W ≤ j) : up (cl s W j) j 0 = cl s W (j + 1) := by
  funext i
  unfold up cl
  by_cases hi : i = j
  · rw [if_pos hi, if_pos (by omega)]
  · rw [if_neg hi]
    by_cases h2 : W ≤ i ∧ i < j
    · rw [if_pos h2, if_pos (by omega)]
    · rw [if_neg h2, if_neg (by omega)]
/-- The words that are kept. -/
def ct (s : Nat → Int) (W : Nat) : Nat → Int := cl s W 8
theorem sv_set (s : Nat → Int) (j : Nat) (x : Int) (h : j < 8) : (sv s).setIfInBounds j (.int .u64 x) = sv (up s j x) := by
  match j, h with
  | 0, _ => simp [up]
  | 1, _ => simp [up]
  | 2, _ => simp [up]
  | 3, _ => simp [up]
  | 4, _ => simp [up]
  | 5, _ => simp [up]
  | 6, _ => simp [up]
  | 7, _ => simp [up]
theorem sv_get (s : Nat → Int) (j : Nat) (h : j < 8) : (sv s)[j]? = some (.int .u64 (s j)) := by
  match j, h with
  | 0, _ => rfl
  | 1, _ => rfl
  | 2, _ => rfl
  | 3, _ => rfl
  | 4, _ => rfl
  | 5, _ => rfl
  | 6, _ => rfl
  | 7, _ => rfl
theorem k8c {w : World} {b : Nat} {s : Nat → Int} {t : TypeId} (h : w.heap[b]? = some (.cells (sv s) t (0, 0))) (j : Nat) (hj : j < 8) : w.cell? ⟨b, j, none⟩ = some (.int .u64 (s j)) := (cell_of_row w b j _ t (0, 0) h).trans (sv_get s j hj)
theorem set8 {w : World} {b : Nat} {s : Nat → Int} {t : TypeId} (h : w.heap[b]? = some (.cells (sv s) t (0, 0))) (j : Nat) (hj : j < 8) (x : Int) : w.setCell ⟨b, j, none⟩ (.int .u64 x) = w.setRow b (sv (up s j x)) := by
  rw [setCell_eq_setRow w b j (sv s) t (0, 0) _ h, sv_set s j x hj]
end Wp
end Go.Proofs.YtipnlcnikpngcaaDoor
