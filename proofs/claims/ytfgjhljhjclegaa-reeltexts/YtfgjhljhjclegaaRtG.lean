import Derived.Test.YtfgjhljhjclegaaRtE
import Derived.Test.YtfgjhljhjclegaaRtF
namespace Go.Proofs.Ytfgjhljhjclegaa
namespace Rt
open Go.RowKit
set_option linter.unusedVariables false
set_option maxRecDepth 8000
theorem nn_len (r : Nat) : (List.replicate (r + 2) (99 : Int)).length = r + 2 := by simp
theorem nn_get (r i : Nat) (h : i < r + 2) : (List.replicate (r + 2) (99 : Int)).getD i 0 = 99 := by
  rw [List.getD_eq_getElem?_getD, List.getElem?_replicate, if_pos h]; rfl
theorem str_ne (a : Int) : (a != a) = false := by simp
set_option maxHeartbeats 4000000 in
theorem law_no (x n : Int) (t : ByteArray) (w : World) (h0 : -9223372036854775808 ≤ x) (h1 : x ≤ 9223372036854775807) (n0 : -9223372036854775808 ≤ n) (n1 : n ≤ 9223372036854775807) (ht : t.size ≤ 9223372036854775807) (hx : ¬ (1 ≤ x ∧ x ≤ 256)) :
    Calls Try.prog 3 #[.int .i64 x, .string t, .int .i64 n] w fun e w' => e = .returned (.bool true) ∧ Below w.heap.size w w' := by
  have hr := rm_le n
  have HB : Hid (∀ W G, W.heap.size = G → Calls Try.prog 7 #[.int .i64 n] W fun e w' => e = .returned (.slice (some ⟨G, 0, none⟩) (rm n) (rm n + 2)) ∧ Rw w' G (List.replicate (rm n + 2) 99) ∧ Below G W w') := fun W G hG => by rw [← hG]; exact buffer_any n W n0 n1
  have hfe : fe x (rm n) = 2 := by unfold fe; rw [if_neg hx]
  have HL : Hid (∀ W g, Calls Try.prog 8 #[fT x, .slice (some ⟨g, 0, none⟩) (rm n) (rm n + 2), .string t] W fun e w' => e = .returned (.int .i64 2) ∧ Below W.heap.size W w') := fun W g => by
    have := Lay_no x g (rm n) (rm n + 2) t W (by omega) h0 h1 (by omega)
    rw [hfe] at this; exact this
  have HT : Hid (∀ W g, Calls Try.prog 9 #[fT x, .slice (some ⟨g, 0, none⟩) (rm n) (rm n + 2)] W fun e w' => e = .returned (.tuple #[.string ⟨#[]⟩, .int .i64 2]) ∧ Below W.heap.size W w') := fun W g => by
    have := Take_no x g (rm n) (rm n + 2) W (by omega) h0 h1 (by omega)
    rw [hfe] at this; exact this
  clear hfe
  generalize rm n = r at *
  go_enter Try.func3, Try.ntmps3
  go_wp2_with (fail)
  refine (textForm_any x _).mono ?_
  rintro e1 w1 ⟨rfl, b1⟩
  go_wp2_with (fail)
  have s2 := SF.new w1 x
  have b2 : Below w.heap.size w (w1.alloc (oF x)) := b1.alloc b1.size _
  obtain ⟨F, hF⟩ : ∃ F, F = w1.heap.size := ⟨_, rfl⟩
  rw [← hF] at s2 ⊢
  refine (HB.out _ (F + 1) (by simp [hF])).mono ?_
  rintro e3 w3 ⟨rfl, r3, b3⟩
  have s3 : SF F x w3 := s2.below b3 (by simp)
  have g3 : w.heap.size ≤ F := by rw [hF]; exact b1.size
  have d3 : Below w.heap.size w w3 := b2.trans (b3.mono (by omega))
  obtain ⟨s30, s31, s32⟩ := s3
  clear b3 b2 b1 s2 hF
  have l3 : F < w3.heap.size := World.block_lt_of_cell? _ _ s30
  go_wp2_with (fail)
  refine (HL.out _ _).mono ?_
  rintro e4 w4 ⟨rfl, b4⟩
  obtain ⟨s40, s41, s42⟩ := SF.below ⟨s30, s31, s32⟩ b4 l3
  have d4 : Below w.heap.size w w4 := d3.trans (b4.mono d3.size)
  have l4 : F < w4.heap.size := World.block_lt_of_cell? _ _ s40
  clear b4 d3 s30 s31 s32
  go_wp2_with (fail)
  refine (HT.out _ _).mono ?_
  rintro e5 w5 ⟨rfl, b5⟩
  obtain ⟨s50, s51, s52⟩ := SF.below ⟨s40, s41, s42⟩ b5 l4
  have d5 : Below w.heap.size w w5 := d4.trans (b5.mono d4.size)
  have l5 : F < w5.heap.size := World.block_lt_of_cell? _ _ s50
  clear b5 d4 s40 s41 s42
  go_wp2_with (fail)
  refine (width_any x _).mono ?_
  rintro e6 w6 ⟨rfl, b6⟩
  have d6 : Below w.heap.size w w6 := d5.trans (b6.mono d5.size)
  clear b6 d5 s50 s51 s52
  have HD : Hid (Below w.heap.size w w6) := d6
  clear d6
  by_cases h1x : 1 ≤ x
  · have h2x : 256 < x := by omega
    clear hx
    go_wp2_with (go_at_call 11; refine (num_any _ _).mono ?_; rintro e7 w7 ⟨rfl, h7⟩; subst w7)
    go_ret
    exact ⟨rfl, HD.out⟩
  · clear hx
    go_wp2_with (go_at_call 11; refine (num_any _ _).mono ?_; rintro e7 w7 ⟨rfl, h7⟩; subst w7)
    go_ret
    exact ⟨rfl, HD.out⟩
end Rt
end Go.Proofs.Ytfgjhljhjclegaa
