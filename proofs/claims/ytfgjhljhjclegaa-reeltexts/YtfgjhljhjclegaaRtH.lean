import Derived.Test.YtfgjhljhjclegaaRtG
namespace Go.Proofs.Ytfgjhljhjclegaa
namespace Rt
open Go.RowKit
set_option linter.unusedVariables false
set_option maxRecDepth 8000
set_option maxHeartbeats 4000000 in
theorem law_short (x : Nat) (n : Int) (t : ByteArray) (w : World) (n0 : -9223372036854775808 ≤ n) (n1 : n ≤ 9223372036854775807) (ht : t.size ≤ 9223372036854775807) (h1 : 1 ≤ x) (h2 : x ≤ 256) (hx : rm n < x) :
    Calls Try.prog 3 #[.int .i64 x, .string t, .int .i64 n] w fun e w' => e = .returned (.bool true) ∧ Below w.heap.size w w' := by
  have hr := rm_le n
  have HB : Hid (∀ W G, W.heap.size = G → Calls Try.prog 7 #[.int .i64 n] W fun e w' => e = .returned (.slice (some ⟨G, 0, none⟩) (rm n) (rm n + 2)) ∧ Rw w' G (List.replicate (rm n + 2) 99) ∧ Below G W w') := fun W G hG => by rw [← hG]; exact buffer_any n W n0 n1
  have hfe : fe x (rm n) = 67 := by unfold fe; rw [if_pos (by omega), if_pos (by omega)]
  have HL : Hid (∀ W g, Calls Try.prog 8 #[fT x, .slice (some ⟨g, 0, none⟩) (rm n) (rm n + 2), .string t] W fun e w' => e = .returned (.int .i64 67) ∧ Below W.heap.size W w') := fun W g => by
    have := Lay_no x g (rm n) (rm n + 2) t W (by omega) (by omega) (by omega) (by omega)
    rw [hfe] at this; exact this
  have HT : Hid (∀ W g, Calls Try.prog 9 #[fT x, .slice (some ⟨g, 0, none⟩) (rm n) (rm n + 2)] W fun e w' => e = .returned (.tuple #[.string ⟨#[]⟩, .int .i64 67]) ∧ Below W.heap.size W w') := fun W g => by
    have := Take_no x g (rm n) (rm n + 2) W (by omega) (by omega) (by omega) (by omega)
    rw [hfe] at this; exact this
  clear hfe
  generalize rm n = r at *
  have HD : Hid (∀ W g, Rw W g (List.replicate (r + 2) 99) → Calls Try.prog 12 #[.slice (some ⟨g, 0, none⟩) r (r + 2), .slice none 0 0] W fun e w' => e = .returned (.bool true) ∧ w' = W) := fun W g h =>
    laid_yes g r (r + 2) 0 0 none _ [] W h (by simp) (by omega) (by omega) ⟨rfl, fun h => by omega⟩ (fun i hi => by rw [nn_get r i (by omega), if_neg (by omega)])
  go_enter Try.func3, Try.ntmps3
  go_wp2_with (fail)
  refine (textForm_any x _).mono ?_
  rintro e1 w1 ⟨rfl, b1⟩
  go_wp2_with (fail)
  have s2 := SF.new w1 x
  have b2 : Below w.heap.size w (w1.alloc (oF x)) := b1.alloc b1.size _
  obtain ⟨F, hF⟩ : ∃ F, F = w1.heap.size := ⟨_, rfl⟩
  rw [← hF] at s2 ⊢
  refine (HB.out _ (F + 1) (by simp [hF])).mono ?_
  rintro e3 w3 ⟨rfl, r3, b3⟩
  have s3 : SF F x w3 := s2.below b3 (by simp)
  have g3 : w.heap.size ≤ F := by rw [hF]; exact b1.size
  have d3 : Below w.heap.size w w3 := b2.trans (b3.mono (by omega))
  obtain ⟨s30, s31, s32⟩ := s3
  clear b3 b2 b1 s2 hF
  have l3 : F + 1 < w3.heap.size := r3.lt
  go_wp2_with (fail)
  refine (HL.out _ _).mono ?_
  rintro e4 w4 ⟨rfl, b4⟩
  obtain ⟨s40, s41, s42⟩ := SF.below ⟨s30, s31, s32⟩ b4 (by omega)
  have r4 := r3.kept b4 l3
  have d4 : Below w.heap.size w w4 := d3.trans (b4.mono d3.size)
  have l4 : F + 1 < w4.heap.size := r4.lt
  clear b4 d3 s30 s31 s32 r3
  go_wp2_with (fail)
  refine (HT.out _ _).mono ?_
  rintro e5 w5 ⟨rfl, b5⟩
  obtain ⟨s50, s51, s52⟩ := SF.below ⟨s40, s41, s42⟩ b5 (by omega)
  have r5 := r4.kept b5 l4
  have d5 : Below w.heap.size w w5 := d4.trans (b5.mono d4.size)
  have l5 : F + 1 < w5.heap.size := r5.lt
  clear b5 d4 s40 s41 s42 r4
  go_wp2_with (fail)
  refine (width_any x _).mono ?_
  rintro e6 w6 ⟨rfl, b6⟩
  have r6 := r5.kept b6 l5
  have d6 : Below w.heap.size w w6 := d5.trans (b6.mono d5.size)
  have H6 : Hid (Below w.heap.size w w6) := d6
  have HR6 : Hid (Rw w6 (F + 1) (List.replicate (r + 2) 99)) := r6
  clear b6 d5 s50 s51 s52 r5 d6 r6
  go_wp2_with (first | (go_at_call 11; refine (num_any _ _).mono ?_; rintro e7 w7 ⟨rfl, h7⟩; subst w7) | (go_at_call 12; refine (HD.out _ _ HR6.out).mono ?_; rintro e8 w8 ⟨rfl, h8⟩; subst w8))
  go_ret
  exact ⟨rfl, H6.out⟩
set_option maxHeartbeats 4000000 in
theorem law_ok (x : Nat) (n : Int) (t : ByteArray) (w : World) (n0 : -9223372036854775808 ≤ n) (n1 : n ≤ 9223372036854775807) (ht : t.size ≤ 9223372036854775807) (h1 : 1 ≤ x) (h2 : x ≤ 256) (hx : x ≤ rm n) :
    Calls Try.prog 3 #[.int .i64 x, .string t, .int .i64 n] w fun e w' => e = .returned (.bool true) ∧ Below w.heap.size w w' := by
  have hr := rm_le n
  have HB : Hid (∀ W G, W.heap.size = G → Calls Try.prog 7 #[.int .i64 n] W fun e w' => e = .returned (.slice (some ⟨G, 0, none⟩) (rm n) (rm n + 2)) ∧ Rw w' G (List.replicate (rm n + 2) 99) ∧ Below G W w') := fun W G hG => by rw [← hG]; exact buffer_any n W n0 n1
  generalize rm n = r at *
  have HL : Hid (∀ W g, Rw W g (List.replicate (r + 2) 99) → Calls Try.prog 8 #[fT x, .slice (some ⟨g, 0, none⟩) r (r + 2), .string t] W fun e w' => e = .returned (.int .i64 0) ∧ Rw w' g (over (List.replicate (r + 2) 99) 0 (txt t x)) ∧ Below g W w') := fun W g h =>
    Lay_ok x g r (r + 2) _ t W h h1 h2 hx (by simp) (by omega) (by omega) ht
  have etk : (over (List.replicate (r + 2) (99 : Int)) 0 (txt t x)).take x = txt t x := by
    have := over_take (List.replicate (r + 2) (99 : Int)) (txt t x)
    rw [txt_len] at this; exact this
  have eln : (over (List.replicate (r + 2) (99 : Int)) 0 (txt t x)).length = r + 2 := by rw [over_len _ _ _ (by rw [txt_len]; simp; omega)]; simp
  have HT : Hid (∀ W g, Rw W g (over (List.replicate (r + 2) 99) 0 (txt t x)) → Calls Try.prog 9 #[fT x, .slice (some ⟨g, 0, none⟩) r (r + 2)] W fun e w' => e = .returned (.tuple #[.string (bstr (txt t x)), .int .i64 0]) ∧ Below W.heap.size W w') := fun W g h => by
    have := Take_ok x g r (r + 2) _ W h h1 h2 hx (by omega) (by omega) (by omega)
    rw [etk] at this; exact this
  have HR : Hid (∀ W, Calls Try.prog 13 #[.string t, .int .i64 x] W fun e w' => e = .returned (.string (bstr (txt t x))) ∧ Below W.heap.size W w') := fun W => record_any t x W h2 ht
  have HC : Hid (∀ W, (convert 9 27 (.string (bstr (txt t x)))).run Try.prog W = .ok (.slice (some ⟨W.heap.size, 0, none⟩) x (grownCap W x 0 5)) (Lib.bytesWorld W 5 (bstr (txt t x)))) := fun W => by
    have := Lib.run_convert_string_bytes (P := Try.prog) W 9 27 5 (bstr (txt t x)) Try.underlying9 Try.underlying27 Try.underlying5
    rw [bstr_size, txt_len] at this; exact this
  have HD : Hid (∀ W g c, g < W.heap.size → Rw W g (over (List.replicate (r + 2) 99) 0 (txt t x)) → Calls Try.prog 12 #[.slice (some ⟨g, 0, none⟩) r (r + 2), .slice (some ⟨W.heap.size, 0, none⟩) x c] (Lib.bytesWorld W 5 (bstr (txt t x))) fun e w' => e = .returned (.bool true) ∧ w' = Lib.bytesWorld W 5 (bstr (txt t x))) := fun W g c hg h =>
    laid_yes g r (r + 2) x c (some ⟨W.heap.size, 0, none⟩) _ (txt t x) _ (h.of (Lib.bytesWorld_at_old W 5 _ g hg)) (by omega) hx (by omega)
      ⟨txt_len t x, fun _ => ⟨_, rfl, fun i hi => by rw [Lib.bytesWorld_cell W 5 _ i (by rw [bstr_size, txt_len]; exact hi), bstr_get _ (txt_bytes t x)]⟩⟩
      (fun i hi => by rw [over_getD, txt_len]; split; rfl; exact nn_get r i (by omega))
  have HBW : Hid (∀ W, Below W.heap.size W (Lib.bytesWorld W 5 (bstr (txt t x)))) := fun W => ⟨rfl, rfl, rfl, by rw [Lib.bytesWorld_size]; omega, fun k hk => Lib.bytesWorld_at_old W 5 _ k hk⟩
  clear etk eln
  generalize bstr (txt t x) = s at *
  generalize over (List.replicate (r + 2) (99 : Int)) 0 (txt t x) = M at *
  go_enter Try.func3, Try.ntmps3
  go_wp2_with (fail)
  refine (textForm_any x _).mono ?_
  rintro e1 w1 ⟨rfl, b1⟩
  go_wp2_with (fail)
  have s2 := SF.new w1 x
  have b2 : Below w.heap.size w (w1.alloc (oF x)) := b1.alloc b1.size _
  obtain ⟨F, hF⟩ : ∃ F, F = w1.heap.size := ⟨_, rfl⟩
  rw [← hF] at s2 ⊢
  refine (HB.out _ (F + 1) (by simp [hF])).mono ?_
  rintro e3 w3 ⟨rfl, r3, b3⟩
  have s3 : SF F x w3 := s2.below b3 (by simp)
  have g3 : w.heap.size ≤ F := by rw [hF]; exact b1.size
  have d3 : Below w.heap.size w w3 := b2.trans (b3.mono (by omega))
  obtain ⟨s30, s31, s32⟩ := s3
  clear b3 b2 b1 s2 hF
  have l3 : F + 1 < w3.heap.size := r3.lt
  go_wp2_with (fail)
  refine (HL.out _ _ r3).mono ?_
  rintro e4 w4 ⟨rfl, r4, b4⟩
  obtain ⟨s40, s41, s42⟩ := SF.below ⟨s30, s31, s32⟩ b4 (by omega)
  have d4 : Below w.heap.size w w4 := d3.trans (b4.mono (by omega))
  have l4 : F + 1 < w4.heap.size := r4.lt
  clear b4 d3 s30 s31 s32 r3
  go_wp2_with (fail)
  refine (HT.out _ _ r4).mono ?_
  rintro e5 w5 ⟨rfl, b5⟩
  obtain ⟨s50, s51, s52⟩ := SF.below ⟨s40, s41, s42⟩ b5 (by omega)
  have r5 := r4.kept b5 l4
  have d5 : Below w.heap.size w w5 := d4.trans (b5.mono d4.size)
  have l5 : F + 1 < w5.heap.size := r5.lt
  clear b5 d4 s40 s41 s42 r4
  go_wp2_with (fail)
  refine (width_any x _).mono ?_
  rintro e6 w6 ⟨rfl, b6⟩
  have r6 := r5.kept b6 l5
  have d6 : Below w.heap.size w w6 := d5.trans (b6.mono d5.size)
  have l6 : F + 1 < w6.heap.size := r6.lt
  clear b6 d5 s50 s51 s52 r5
  go_wp2_with (fail)
  refine (HR.out _).mono ?_
  rintro e7 w7 ⟨rfl, b7⟩
  have r7 := r6.kept b7 l6
  have d7 : Below w.heap.size w w7 := d6.trans (b7.mono d6.size)
  have l7 : F + 1 < w7.heap.size := r7.lt
  have hc7 := HC.out w7
  have d8 : Below w.heap.size w (Lib.bytesWorld w7 5 s) := d7.trans ((HBW.out w7).mono d7.size)
  have HD7 : Hid (∀ c, Calls Try.prog 12 #[.slice (some ⟨F + 1, 0, none⟩) r (r + 2), .slice (some ⟨w7.heap.size, 0, none⟩) x c] (Lib.bytesWorld w7 5 s) fun e w' => e = .returned (.bool true) ∧ w' = Lib.bytesWorld w7 5 s) := fun c => HD.out w7 _ c l7 r7
  clear b7 d6 r6 d7 r7 HD HC HBW HL HT HB
  generalize Lib.bytesWorld w7 5 s = w8 at *
  go_wp2_with (fail)
  refine (HD7.out _).mono ?_
  rintro e9 w9 ⟨rfl, h9⟩
  subst w9
  clear hc7 HD7
  go_wp2_with (first | (go_at_call 11; refine (num_any _ _).mono ?_; rintro e10 w10 ⟨rfl, h10⟩; subst w10) | (go_at_call 13; refine (HR.out _).mono ?_; rintro e11 w11 ⟨rfl, b11⟩))
  have d11 : Below w.heap.size w w11 := d8.trans (b11.mono d8.size)
  go_ret
  exact ⟨rfl, d11⟩
end Rt
end Go.Proofs.Ytfgjhljhjclegaa
