import Derived.Test.YtcepfmeoeepjdabAuO
namespace Go.Proofs.Ytcepfmeoeepjdab
namespace Au
open Go.RowKit
set_option linter.unusedVariables false
set_option maxRecDepth 8000
/-- Only of the room, behind what is asked for, is known that it is as it was. -/
def Sp (W : World) (rb need rl : Nat) : Prop := ∃ U, GU W rb rl U ∧ ∀ x, need ≤ x → x < rl → U x = 99
theorem Sp.of {W W' : World} {rb need rl : Nat} (h : Sp W rb need rl) (e : W'.heap[rb]? = W.heap[rb]?) : Sp W' rb need rl := by
  obtain ⟨U, a, b⟩ := h
  exact ⟨U, a.of e, b⟩
theorem Sp.lt {W : World} {rb need rl : Nat} (h : Sp W rb need rl) : rb < W.heap.size := by
  obtain ⟨U, a, b⟩ := h
  exact a.lt
theorem Sp.cell {W : World} {rb need rl : Nat} (h : Sp W rb need rl) (j : Nat) (h1 : need ≤ j) (h2 : j < rl) : W.cell? ⟨rb, j, none⟩ = some (.int .u64 99) := by
  obtain ⟨U, a, b⟩ := h
  rw [a.cell j h2, b j h1 h2]
theorem dk_ne {made : Int} {n sn rl p : Nat} {kd : Int} {L : List T3} {f : Int} (h : ak made n sn rl p ≠ 0) : dk made n sn rl p kd L f = ak made n sn rl p := by unfold dk; rw [if_pos h]
theorem dk_eq {made : Int} {n sn rl p : Nat} {kd : Int} {L : List T3} {f : Int} (h : ak made n sn rl p = 0) : dk made n sn rl p kd L f = fa n kd L f := by unfold dk; rw [if_neg (by simpa using h)]
theorem ak_zero {made : Int} {n sn rl p : Nat} (h : ak made n sn rl p = 0) : made = 0 ∧ sn = n ∧ p * n ≤ rl := by
  unfold ak at h
  split at h
  · exact absurd h (by assumption)
  · rename_i h1
    split at h
    · cases h
    · rename_i h2
      split at h
      · cases h
      · exact ⟨by simpa using h1, by simpa using h2, by omega⟩
/-- What is told of labels. -/
def AL (n : Nat) (L : List T3) (S : Nat → Nat → Int) (o : Vd) : Prop := ∃ U ro, Fo n (prs L) U ro ∧ Lm (fun a b => b = 1 ∧ a < n ∧ (S a 0 != ro a) = true) o
theorem vx_shape (E : Int) (o : Vd) : ∃ b x y, vx E o = #[.bool b, .int .u32 x, .int .i64 y] ∧ (E = 0 → b = vR o ∧ x = vV o ∧ y = vK o) ∧ (E ≠ 0 → b = false ∧ x = 0 ∧ y = 0) := by
  unfold vx
  by_cases h : E = 0
  · rw [if_pos h]; exact ⟨_, _, _, rfl, fun _ => ⟨rfl, rfl, rfl⟩, fun h' => absurd h h'⟩
  · rw [if_neg h]; exact ⟨_, _, _, rfl, fun h' => absurd h' h, fun _ => ⟨rfl, rfl, rfl⟩⟩
/-- What an audit hands back, and its frame. -/
def Au3 (e : Ending) (E : Int) (o : Vd) : Prop := e = .returned (.tuple #[.agg (vx E o), .int .i64 E])
abbrev S11 (b n : Nat) (kd : Int) (ed sl : Value) (w : World) : Prop := w.cell? ⟨b, 0, none⟩ = some (.int .u32 (n : Int)) ∧ w.cell? ⟨b, 1, none⟩ = some (.int .i64 kd) ∧ w.cell? ⟨b, 2, none⟩ = some ed ∧ w.cell? ⟨b, 3, none⟩ = some sl ∧ w.cell? ⟨b, 4, none⟩ = some (.bool false) ∧ w.cell? ⟨b, 5, none⟩ = some (.int .u32 0) ∧ w.cell? ⟨b, 6, none⟩ = some (.int .i64 0)
theorem S11.mk {b n : Nat} {kd : Int} {ed sl : Value} {w : World} (h : w.heap[b]? = some (.cells #[.int .u32 (n : Int), .int .i64 kd, ed, sl, .bool false, .int .u32 0, .int .i64 0] 60 (0, 0))) : S11 b n kd ed sl w :=
  ⟨(cell_of_row _ _ _ _ _ _ h).trans rfl, (cell_of_row _ _ _ _ _ _ h).trans rfl, (cell_of_row _ _ _ _ _ _ h).trans rfl, (cell_of_row _ _ _ _ _ _ h).trans rfl, (cell_of_row _ _ _ _ _ _ h).trans rfl, (cell_of_row _ _ _ _ _ _ h).trans rfl, (cell_of_row _ _ _ _ _ _ h).trans rfl⟩
end Au
end Go.Proofs.Ytcepfmeoeepjdab
