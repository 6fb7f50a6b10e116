import Derived.Test.YtiljdiagabepbaaDoorPbB
namespace Go.Proofs.YtiljdiagabepbaaDoor
namespace Pb
open Go.RowKit
set_option linter.unusedVariables false
/-- A map's object laid anew. -/
def so' (W : World) (r : Nat) (o : Obj) : World := { W with heap := W.heap.setIfInBounds r o }
theorem so_at {W : World} {r : Nat} {o o0 : Obj} (h : W.heap[r]? = some o0) : (so' W r o).heap[r]? = some o := by
  have l := (Array.getElem?_eq_some_iff.1 h).1
  simp [so', l]
theorem so_ne {W : World} {r k : Nat} {o : Obj} (h : k ≠ r) : (so' W r o).heap[k]? = W.heap[k]? := by
  show (W.heap.setIfInBounds r o)[k]? = _
  rw [Array.getElem?_setIfInBounds_ne (Ne.symm h)]
theorem so_below {B : Nat} {w0 W : World} {r : Nat} {o : Obj} (h : Below B w0 W) (hr : B ≤ r) : Below B w0 (so' W r o) :=
  h.trans ⟨rfl, rfl, rfl, by show W.heap.size ≤ (W.heap.setIfInBounds r o).size; simp, fun k hk => so_ne (by omega)⟩
theorem so_size {W : World} {r : Nat} {o : Obj} : (so' W r o).heap.size = W.heap.size := by show (W.heap.setIfInBounds r o).size = _; simp
theorem so_cell {W : World} {r : Nat} {o : Obj} {p : Addr} (h : p.block ≠ r) : (so' W r o).cell? p = W.cell? p := by
  unfold World.cell?
  rw [so_ne h]
set_option maxHeartbeats 800000 in
set_option maxRecDepth 8000 in
theorem find_none (gn c : Nat) (es : Array MapEntry) (w : World) (h : w.heap[gn]? = some (.map es c)) (hf : Instr.findNow .string (.string ⟨#[102]⟩) es.toList 0 = some none) :
    Calls Tryd.prog 22 #[.map (some gn), .string ⟨#[102]⟩] w fun e w' => e = .returned (.tuple #[.pointer none, .int .i64 31]) ∧ w' = w := by
  have hl := look_str gn c es ⟨#[102]⟩ none w h hf
  have HN : Hid (∀ w, Calls Tryd.prog 50 #[.string ⟨#[102]⟩] w fun e w' => e = .returned (.bool true) ∧ w' = w) := isName_f
  generalize (⟨#[102]⟩ : ByteArray) = s at *
  go_enter Tryd.func22, Tryd.ntmps22
  go_wp2_with (fail)
  refine (HN.out _).mono ?_
  rintro e1 w1 ⟨rfl, hw1⟩
  subst w1
  go_wp2
  go_ret2
  exact ⟨rfl, rfl⟩
set_option maxHeartbeats 800000 in
set_option maxRecDepth 8000 in
theorem find_some (gn c gf i : Nat) (es : Array MapEntry) (w : World) (h : w.heap[gn]? = some (.map es c)) (hf : Instr.findNow .string (.string ⟨#[102]⟩) es.toList 0 = some (some (i, .pointer (some ⟨gf, 0, none⟩)))) :
    Calls Tryd.prog 22 #[.map (some gn), .string ⟨#[102]⟩] w fun e w' => e = .returned (.tuple #[.pointer (some ⟨gf, 0, none⟩), .int .i64 0]) ∧ w' = w := by
  have hl := look_str gn c es ⟨#[102]⟩ _ w h hf
  have HN : Hid (∀ w, Calls Tryd.prog 50 #[.string ⟨#[102]⟩] w fun e w' => e = .returned (.bool true) ∧ w' = w) := isName_f
  generalize (⟨#[102]⟩ : ByteArray) = s at *
  go_enter Tryd.func22, Tryd.ntmps22
  go_wp2_with (fail)
  refine (HN.out _).mono ?_
  rintro e1 w1 ⟨rfl, hw1⟩
  subst w1
  go_wp2
  go_ret2
  exact ⟨rfl, rfl⟩
end Pb
end Go.Proofs.YtiljdiagabepbaaDoor
