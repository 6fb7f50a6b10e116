import Derived.Test.YtfgjhljhjclegaaRtD
namespace Go.Proofs.Ytfgjhljhjclegaa
namespace Rt
open Go.RowKit
set_option linter.unusedVariables false
set_option maxRecDepth 8000
theorem fe_ok (x n : Nat) (h1 : 1 ≤ x) (h2 : x ≤ 256) (hx : x ≤ n) : fe x n = 0 := by unfold fe; rw [if_pos (by omega), if_neg (by omega)]
set_option maxHeartbeats 1600000 in
theorem Lay_ok (x g n c : Nat) (L : List Int) (t : ByteArray) (w : World) (hw : Rw w g L) (h1 : 1 ≤ x) (h2 : x ≤ 256) (hx : x ≤ n) (hn : n ≤ L.length) (hc : n ≤ c) (hcm : c ≤ 1048576) (ht : t.size ≤ 9223372036854775807) :
    Calls Try.prog 8 #[fT x, .slice (some ⟨g, 0, none⟩) n c, .string t] w fun e w' => e = .returned (.int .i64 0) ∧ Rw w' g (over L 0 (txt t x)) ∧ Below g w w' := by
  have HF : Hid (∀ W, Calls Try.prog 41 #[fT x, .slice (some ⟨g, 0, none⟩) n c] W fun e w' => e = .returned (.int .i64 0) ∧ Below W.heap.size W w') := fun W => by
    have := fits_any x (some ⟨g, 0, none⟩) n c W (by omega) (by omega) (by omega)
    rw [fe_ok x n h1 h2 hx] at this; exact this
  have HL : Hid (∀ W, Rw W g L → Calls Try.prog 42 #[fT x, .slice (some ⟨g, 0, none⟩) n c, .string t] W fun e w' => e = .returned (.tuple #[]) ∧ Rw w' g (over L 0 (txt t x)) ∧ Below g W w') := fun W h => lay_any x g n c L t W h h1 h2 hx hn hc hcm ht
  have hlt := hw.lt
  go_enter Try.func8, Try.ntmps8
  go_wp2_with (fail)
  refine (HF.out _).mono ?_
  rintro e5 w5 ⟨rfl, b5⟩
  have hr5 : Rw w5 g L := (hw.alloc _).kept b5 (by simp; omega)
  have s5 : SF w.heap.size x w5 := (SF.new w x).below b5 (by simp)
  obtain ⟨s50, s51, s52⟩ := s5
  have b6 : Below g w w5 := ((Below.refl _ _).alloc (Nat.le_of_lt hlt) _).trans (b5.mono (by simp; omega))
  clear b5 hw
  go_wp2_with (fail)
  refine (HL.out _ hr5).mono ?_
  rintro e7 w7 ⟨rfl, h7, b7⟩
  go_wp2
  go_ret
  exact ⟨rfl, h7, b6.trans b7⟩
set_option maxHeartbeats 1600000 in
theorem Lay_no (x : Int) (g n c : Nat) (t : ByteArray) (w : World) (hn : n ≤ 1048576) (h0 : -9223372036854775808 ≤ x) (h1 : x ≤ 9223372036854775807) (hx : fe x n ≠ 0) :
    Calls Try.prog 8 #[fT x, .slice (some ⟨g, 0, none⟩) n c, .string t] w fun e w' => e = .returned (.int .i64 (fe x n)) ∧ Below w.heap.size w w' := by
  have HF : Hid (∀ W, Calls Try.prog 41 #[fT x, .slice (some ⟨g, 0, none⟩) n c] W fun e w' => e = .returned (.int .i64 (fe x n)) ∧ Below W.heap.size W w') := fun W => fits_any x (some ⟨g, 0, none⟩) n c W (by omega) h0 h1
  have hx' : (fe x n != 0) = true := by simpa using hx
  generalize fe x n = y at *
  go_enter Try.func8, Try.ntmps8
  go_wp2_with (fail)
  refine (HF.out _).mono ?_
  rintro e5 w5 ⟨rfl, b5⟩
  go_wp2
  go_ret
  exact ⟨rfl, ((Below.refl _ _).alloc (Nat.le_refl _) _).trans (b5.mono (by simp))⟩
set_option maxHeartbeats 1600000 in
theorem Take_ok (x g n c : Nat) (L : List Int) (w : World) (hw : Rw w g L) (h1 : 1 ≤ x) (h2 : x ≤ 256) (hx : x ≤ n) (hn : n ≤ L.length) (hc : n ≤ c) (hcm : c ≤ 1048576) :
    Calls Try.prog 9 #[fT x, .slice (some ⟨g, 0, none⟩) n c] w fun e w' => e = .returned (.tuple #[.string (bstr (L.take x)), .int .i64 0]) ∧ Below w.heap.size w w' := by
  have HF : Hid (∀ W, Calls Try.prog 41 #[fT x, .slice (some ⟨g, 0, none⟩) n c] W fun e w' => e = .returned (.int .i64 0) ∧ Below W.heap.size W w') := fun W => by
    have := fits_any x (some ⟨g, 0, none⟩) n c W (by omega) (by omega) (by omega)
    rw [fe_ok x n h1 h2 hx] at this; exact this
  have HL : Hid (∀ W, Rw W g L → Calls Try.prog 43 #[fT x, .slice (some ⟨g, 0, none⟩) n c] W fun e w' => e = .returned (.string (bstr (L.take x))) ∧ Below W.heap.size W w') := fun W h => take_any x g n c L W h h1 h2 hx hn hc hcm
  have hlt := hw.lt
  go_enter Try.func9, Try.ntmps9
  go_wp2_with (fail)
  refine (HF.out _).mono ?_
  rintro e5 w5 ⟨rfl, b5⟩
  have hr5 : Rw w5 g L := (hw.alloc _).kept b5 (by simp; omega)
  have s5 : SF w.heap.size x w5 := (SF.new w x).below b5 (by simp)
  obtain ⟨s50, s51, s52⟩ := s5
  have hz5 := b5.size
  have b6 : Below w.heap.size w w5 := ((Below.refl _ _).alloc (Nat.le_refl _) _).trans (b5.mono (by simp))
  clear b5 hw
  go_wp2_with (fail)
  refine (HL.out _ hr5).mono ?_
  rintro e7 w7 ⟨rfl, b7⟩
  go_wp2
  go_ret2
  exact ⟨rfl, b6.trans (b7.mono b6.size)⟩
set_option maxHeartbeats 1600000 in
theorem Take_no (x : Int) (g n c : Nat) (w : World) (hn : n ≤ 1048576) (h0 : -9223372036854775808 ≤ x) (h1 : x ≤ 9223372036854775807) (hx : fe x n ≠ 0) :
    Calls Try.prog 9 #[fT x, .slice (some ⟨g, 0, none⟩) n c] w fun e w' => e = .returned (.tuple #[.string ⟨#[]⟩, .int .i64 (fe x n)]) ∧ Below w.heap.size w w' := by
  have HF : Hid (∀ W, Calls Try.prog 41 #[fT x, .slice (some ⟨g, 0, none⟩) n c] W fun e w' => e = .returned (.int .i64 (fe x n)) ∧ Below W.heap.size W w') := fun W => fits_any x (some ⟨g, 0, none⟩) n c W (by omega) h0 h1
  have hx' : (fe x n != 0) = true := by simpa using hx
  generalize fe x n = y at *
  go_enter Try.func9, Try.ntmps9
  go_wp2_with (fail)
  refine (HF.out _).mono ?_
  rintro e5 w5 ⟨rfl, b5⟩
  go_wp2
  go_ret2
  exact ⟨rfl, ((Below.refl _ _).alloc (Nat.le_refl _) _).trans (b5.mono (by simp))⟩
end Rt
end Go.Proofs.Ytfgjhljhjclegaa
