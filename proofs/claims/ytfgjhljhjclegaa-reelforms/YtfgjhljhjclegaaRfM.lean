import Derived.Test.YtfgjhljhjclegaaRfK
import Derived.Test.YtfgjhljhjclegaaRfJ
namespace Go.Proofs.Ytfgjhljhjclegaa
namespace Rt
open Go.RowKit
set_option linter.unusedVariables false
set_option maxRecDepth 8000
theorem row_kept {w w' : World} {B n : Nat} {v : Value} {xs : List Value} (h : w.ownsRow B 5 1 v n xs) (hb : Below w.heap.size w w') : w'.ownsRow B 5 1 v n xs := by
  have h' := h
  obtain ⟨h1, h2⟩ := h
  refine ⟨h1, ?_⟩
  rcases h2 with h2 | ⟨g, cap, cur, rfl, h3, h4, h5⟩
  · exact Or.inl h2
  · exact Or.inr ⟨g, cap, cur, rfl, h3, (hb.block g (World.ownsRow.lt h' g rfl).2).trans h4, h5⟩
set_option maxHeartbeats 3200000 in
theorem stateBytes_ok (m : Nat) (s : Nat → Int) (w : World) (h1 : 1 ≤ m) (h2 : m ≤ 8) (h0 : ∀ k, k < 8 → 0 ≤ s k ∧ s k < 18446744073709551616) :
    Calls Try.prog 28 #[.int .i64 m, sV s] w fun e w' => ∃ g c, e = .returned (.slice (some ⟨g, 0, none⟩) (8 * m) c) ∧ Own w' g c (sb s m) ∧ Below w.heap.size w w' := by
  obtain ⟨i0, hi, hz0, hz1, hz2⟩ := i0x
  have HL : Hid (∀ W j, j < m → Calls Try.prog 51 #[.int .u64 (s j), .int .i64 8] W fun e w' => ∃ g c, e = .returned (.slice (some ⟨g, 0, none⟩) 8 c) ∧ W.heap.size ≤ g ∧ Own w' g c (lb (s j) 8) ∧ Below W.heap.size W w') := fun W j hj => le_ok 8 (s j) W (by omega) (by omega) (h0 j (by omega)).1 (by simpa using (h0 j (by omega)).2)
  have hS1 := S8.new w s 45
  have hbx : Below w.heap.size w (w.alloc (.cells #[.int .u64 (s 0), .int .u64 (s 1), .int .u64 (s 2), .int .u64 (s 3), .int .u64 (s 4), .int .u64 (s 5), .int .u64 (s 6), .int .u64 (s 7)] 45)) := (Below.refl _ _).alloc (Nat.le_refl _) _
  obtain ⟨b, hb⟩ : ∃ b, b = w.heap.size := ⟨_, rfl⟩
  obtain ⟨W, hW⟩ : ∃ W, W = w.alloc (.cells #[.int .u64 (s 0), .int .u64 (s 1), .int .u64 (s 2), .int .u64 (s 3), .int .u64 (s 4), .int .u64 (s 5), .int .u64 (s 6), .int .u64 (s 7)] 45) := ⟨_, rfl⟩
  rw [← hW] at hS1 hbx
  rw [← hb] at hS1
  have HW : Hid (W = w.alloc (.cells #[.int .u64 (s 0), .int .u64 (s 1), .int .u64 (s 2), .int .u64 (s 3), .int .u64 (s 4), .int .u64 (s 5), .int .u64 (s 6), .int .u64 (s 7)] 45)) := hW
  have HB : Hid (b = w.heap.size) := hb
  have HS : Hid (S8 b s W) := hS1
  have hl := hS1.lt
  clear hW hb hS1 h0
  go_enter Try.func28, Try.ntmps28
  go_wp2
  rw [← HW.out, ← HB.out]
  clear HW HB
  go_loopw [5, 6] (fun v i wr => ∃ j : Nat, j ≤ m ∧ i = .int .i64 j ∧ wr.ownsRow W.heap.size 5 1 v (8 * j) (vals (sb s j)) ∧ Below W.heap.size W wr) (fun _ i _ => m - (intOf i).toNat)
  case atStart => exact ⟨0, Nat.zero_le _, rfl, World.ownsRow_nil _ _ _ _, Below.refl _ _⟩
  case round =>
    obtain ⟨j, hj, rfl, hown, hnx⟩ := hrel
    by_cases hltk : j < m
    · have hc := (hnx.cell (p := ⟨b, j, none⟩) hl).trans (HS.out.at j (by omega))
      go_wp2_with (fail)
      refine (HL.out _ j hltk).mono ?_
      rintro e9 w9 ⟨g9, c9, rfl, q9, o9, b9⟩
      have hown9 := row_kept hown b9
      have d9 := hnx.trans (b9.mono hnx.size)
      have Hs : Hid (vals (sb s (j + 1)) = vals (sb s j) ++ vals (lb (s j) 8)) := by show _ = _; rw [sb, vals_app]
      clear hc hown hnx b9 q9
      go_wp2_with (at_builtin; refine wpList_append_lies _ rfl _ _ 27 rfl W.heap.size 5 i0 (.int .u8 0) 1 1 Try.underlying27 hi hz0 hz1 hz2 rfl (by decide) _ (8 * j) _ rfl hown9 ⟨g9, 0, none⟩ 8 c9 (vals (lb (s j) 8)) rfl (by rw [vals_len, lb_len]) o9.news (vals_one _) (by omega) (by unfold maxLen; omega) (by omega) d9.size _ rfl ?_; intro g11 c11 w11 o11 r11 a11 l11)
      have d11 := d9.grown r11 d9.size (fun k hk => (World.ownsRow.lt hown9 k hk).1)
      rw [← Hs.out] at o11
      clear r11 a11 o9 d9 hown9
      have e8 : 8 * j + 8 = 8 * (j + 1) := by omega
      have o12 : w11.ownsRow W.heap.size 5 1 (.slice (some ⟨g11, 0, none⟩) (8 * j + 8) c11) (8 * (j + 1)) (vals (sb s (j + 1))) := by rw [← e8]; exact o11
      clear e8 o11
      go_wp2
      exact ⟨⟨j + 1, by omega, by go_num, o12, d11⟩, by simp [intOf]; omega⟩
    · obtain rfl : j = m := by omega
      obtain ⟨g, cv, rfl, hg0, hgo⟩ := row_form (by rw [sb_len]) (by omega) hown
      clear hown
      go_wp2
      go_ret
      exact ⟨g, cv, rfl, hgo, hbx.trans (hnx.mono hbx.size)⟩
end Rt
end Go.Proofs.Ytfgjhljhjclegaa
