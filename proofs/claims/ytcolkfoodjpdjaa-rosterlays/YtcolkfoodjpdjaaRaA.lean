import Derived.Test.YtcolkfoodjpdjaaRows
import Derived.WalkKit
import Derived.Below
import Derived.BigQuiet
import Derived.BigRegion
import Derived.Deep.QuietTactic
import Derived.Deep.RegionHeld3
import Derived.WalkSmall
import Derived.Handy
import Derived.DataElems
import Derived.Maps.AppendAt
import Derived.Laws.AppendOwnNone
namespace Go.Proofs.Ytcolkfoodjpdjaa
namespace Ra
open Go.RowKit
set_option linter.unusedVariables false
/-- An entry: its name, its value. -/
abbrev En := ByteArray × ByteArray
/-- What a section says. -/
structure Dt where
  nm : ByteArray
  l : Nat
  E : Nat → En
theorem add_block (x : Addr) (i : Nat) : (x.add i).block = x.block := by unfold Addr.add; split <;> rfl
theorem cells2 {v : World} {x : Addr} {j : Nat} {p q : Value} (h : v.cell? (x.add (j * 2)) = some p ∧ v.cell? (x.add (j * 2 + 1)) = some q) : v.cell? (x.add (j * 2)) = some p ∧ v.cell? ⟨(x.add (j * 2)).block, (x.add (j * 2)).off + 1, none⟩ = some q := by
  rw [← Addr.add_add] at h
  exact h
/-- Entries that lie from x on. -/
def EAt (w : World) (x : Addr) (l : Nat) (E : Nat → En) : Prop := x.block < w.heap.size ∧ ∀ i, i < l → w.cell? (x.add (i * 2)) = some (.string (E i).1) ∧ w.cell? (x.add (i * 2 + 1)) = some (.string (E i).2)
def ERow (w : World) (a : Option Addr) (l : Nat) (E : Nat → En) : Prop := 0 < l → ∃ x : Addr, a = some x ∧ EAt w x l E
/-- Sections that lie from x on. -/
def SAt (w : World) (x : Addr) (l : Nat) (D : Nat → Dt) : Prop := x.block < w.heap.size ∧ ∀ i, i < l → w.cell? (x.add (i * 2)) = some (.string (D i).nm) ∧ ∃ a c, w.cell? (x.add (i * 2 + 1)) = some (.slice a (D i).l c) ∧ (a = none → c = 0) ∧ ERow w a (D i).l (D i).E
def SRow (w : World) (a : Option Addr) (l : Nat) (D : Nat → Dt) : Prop := 0 < l → ∃ x : Addr, a = some x ∧ SAt w x l D
/-- Worlds that have kept all that lay. -/
theorem below_drew {B : Nat} {a w : World} (h : Below B a w) (n : Nat) : Below B a (w.drewN n) := ⟨h.os, h.tape, h.output, h.size, h.block⟩
theorem EAt.on {w w' : World} {x : Addr} {l : Nat} {E : Nat → En} (h : EAt w x l E) (hb : Below w.heap.size w w') : EAt w' x l E :=
  ⟨Nat.lt_of_lt_of_le h.1 hb.size, fun i hi => ⟨(hb.cell (p := x.add (i * 2)) (by rw [add_block]; exact h.1)).trans (h.2 i hi).1, (hb.cell (p := x.add (i * 2 + 1)) (by rw [add_block]; exact h.1)).trans (h.2 i hi).2⟩⟩
theorem ERow.on {w w' : World} {a : Option Addr} {l : Nat} {E : Nat → En} (h : ERow w a l E) (hb : Below w.heap.size w w') : ERow w' a l E := fun h0 => by
  obtain ⟨x, rfl, hx⟩ := h h0
  exact ⟨x, rfl, hx.on hb⟩
theorem SAt.on {w w' : World} {x : Addr} {l : Nat} {D : Nat → Dt} (h : SAt w x l D) (hb : Below w.heap.size w w') : SAt w' x l D :=
  ⟨Nat.lt_of_lt_of_le h.1 hb.size, fun i hi => by
    obtain ⟨c0, a, c, c1, hn, he⟩ := h.2 i hi
    exact ⟨(hb.cell (p := x.add (i * 2)) (by rw [add_block]; exact h.1)).trans c0, a, c, (hb.cell (p := x.add (i * 2 + 1)) (by rw [add_block]; exact h.1)).trans c1, hn, he.on hb⟩⟩
theorem SRow.on {w w' : World} {a : Option Addr} {l : Nat} {D : Nat → Dt} (h : SRow w a l D) (hb : Below w.heap.size w w') : SRow w' a l D := fun h0 => by
  obtain ⟨x, rfl, hx⟩ := h h0
  exact ⟨x, rfl, hx.on hb⟩
/-- How many sections and entries the first k sections have. -/
def cnt (D : Nat → Dt) : Nat → Nat
  | 0 => 0
  | k + 1 => cnt D k + 1 + (D k).l
theorem cnt_le (D : Nat → Dt) {k l : Nat} (h : k ≤ l) : cnt D k ≤ cnt D l := by
  induction l with
  | zero => obtain rfl : k = 0 := by omega
            exact Nat.le_refl _
  | succ l ih =>
    by_cases hk : k = l + 1
    · subst hk; exact Nat.le_refl _
    · have := ih (by omega)
      show _ ≤ cnt D l + 1 + (D l).l
      omega
theorem cnt_ge (D : Nat → Dt) (k : Nat) : k ≤ cnt D k := by
  induction k with
  | zero => exact Nat.le_refl _
  | succ k ih => show _ ≤ cnt D k + 1 + (D k).l; omega
theorem cnt_at (D : Nat → Dt) {i l : Nat} (h : i < l) : cnt D i + 1 + (D i).l ≤ cnt D l := cnt_le D (k := i + 1) h
set_option maxHeartbeats 800000 in
set_option maxRecDepth 8000 in
theorem vast_any (a : Option Addr) (l c : Nat) (D : Nat → Dt) (w : World) (hl : l ≤ 9223372036854775807) (hb : ∀ i, i < l → (D i).l ≤ 140737488351232) (hr : SRow w a l D) :
    Calls Try.prog 5 #[.slice a l c] w fun e w' => w' = w ∧ (e = .returned (.bool true) ∨ (e = .returned (.bool false) ∧ cnt D l ≤ 100000)) := by
  have HR : Hid (SRow w a l D) := hr
  clear hr
  go_enter Try.func5, Try.ntmps5
  go_wp2
  go_loop [3, 4] (fun v i => ∃ k : Nat, k ≤ l ∧ i = .int .i64 k ∧ v = .int .i64 (100000 - (cnt D k : Int)) ∧ (cnt D k : Int) ≤ 140737488451233) (fun _ i => l - (intOf i).toNat)
  case atStart => exact ⟨0, Nat.zero_le _, rfl, by simp [cnt], by simp [cnt]⟩
  case round =>
    obtain ⟨k, hk, rfl, rfl, hc⟩ := hrel
    by_cases hlt : k < l
    · by_cases hpos : cnt D k ≤ 100000
      · obtain ⟨x, rfl, hx, hcell⟩ := HR.out (by omega)
        obtain ⟨c0, a1, l1, c1, _, _⟩ := hcell k hlt
        have hbk := hb k hlt
        obtain ⟨_, c1'⟩ := cells2 ⟨c0, c1⟩
        obtain ⟨s1, HE⟩ : ∃ s1, Hid (cnt D (k + 1) = s1) := ⟨_, rfl⟩
        have hs : s1 = cnt D k + 1 + (D k).l := HE.out.symm
        generalize cnt D k = s0 at *
        clear hcell c1 hb
        have hq : (s0 : Int) ≤ 100000 := by omega
        go_wp2
        exact ⟨⟨k + 1, by omega, by go_num, by rw [show cnt D (k + 1) = s1 from HE.out]; congr 1; omega, by rw [show cnt D (k + 1) = s1 from HE.out]; omega⟩, by simp [intOf]; omega⟩
      · have hq : ¬ (cnt D k : Int) ≤ 100000 := by omega
        have hq' : (100000 - (cnt D k : Int)) < 0 := by omega
        clear hb
        go_wp2
        all_goals first | (exfalso; omega) | skip
        go_ret
        exact ⟨rfl, .inl rfl⟩
    · obtain rfl : k = l := by omega
      clear hb
      go_wp2
      go_ret
      by_cases hp : cnt D k ≤ 100000
      · exact ⟨rfl, .inr ⟨by simp; omega, hp⟩⟩
      · exact ⟨rfl, .inl (by simp; omega)⟩
end Ra
end Go.Proofs.Ytcolkfoodjpdjaa
