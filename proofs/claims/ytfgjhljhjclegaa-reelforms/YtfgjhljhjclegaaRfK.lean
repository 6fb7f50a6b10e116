import Derived.Test.YtfgjhljhjclegaaRfE
namespace Go.Proofs.Ytfgjhljhjclegaa
namespace Rt
open Go.RowKit
set_option linter.unusedVariables false
set_option maxRecDepth 8000
/-- A state, and its cells. -/
abbrev sA (s : Nat → Int) : Array Value := #[.int .u64 (s 0), .int .u64 (s 1), .int .u64 (s 2), .int .u64 (s 3), .int .u64 (s 4), .int .u64 (s 5), .int .u64 (s 6), .int .u64 (s 7)]
abbrev sV (s : Nat → Int) : Value := .agg #[.int .u64 (s 0), .int .u64 (s 1), .int .u64 (s 2), .int .u64 (s 3), .int .u64 (s 4), .int .u64 (s 5), .int .u64 (s 6), .int .u64 (s 7)]
abbrev S8 (b : Nat) (s : Nat → Int) (W : World) : Prop := W.cell? ⟨b, 0, none⟩ = some (.int .u64 (s 0)) ∧ W.cell? ⟨b, 1, none⟩ = some (.int .u64 (s 1)) ∧ W.cell? ⟨b, 2, none⟩ = some (.int .u64 (s 2)) ∧ W.cell? ⟨b, 3, none⟩ = some (.int .u64 (s 3)) ∧ W.cell? ⟨b, 4, none⟩ = some (.int .u64 (s 4)) ∧ W.cell? ⟨b, 5, none⟩ = some (.int .u64 (s 5)) ∧ W.cell? ⟨b, 6, none⟩ = some (.int .u64 (s 6)) ∧ W.cell? ⟨b, 7, none⟩ = some (.int .u64 (s 7))
theorem S8.new (w : World) (s : Nat → Int) (t : TypeId) : S8 w.heap.size s (w.alloc (.cells #[.int .u64 (s 0), .int .u64 (s 1), .int .u64 (s 2), .int .u64 (s 3), .int .u64 (s 4), .int .u64 (s 5), .int .u64 (s 6), .int .u64 (s 7)] t)) := ⟨by simp, by simp, by simp, by simp, by simp, by simp, by simp, by simp⟩
theorem S8.lt {b : Nat} {s : Nat → Int} {W : World} (h : S8 b s W) : b < W.heap.size := World.block_lt_of_cell? _ _ h.1
theorem S8.of {b : Nat} {s : Nat → Int} {W W' : World} (h : S8 b s W) (e : W'.heap[b]? = W.heap[b]?) : S8 b s W' := ⟨(World.cell?_of_block (w := W) (a := ⟨b, 0, none⟩) e).trans h.1, (World.cell?_of_block (w := W) (a := ⟨b, 1, none⟩) e).trans h.2.1, (World.cell?_of_block (w := W) (a := ⟨b, 2, none⟩) e).trans h.2.2.1, (World.cell?_of_block (w := W) (a := ⟨b, 3, none⟩) e).trans h.2.2.2.1, (World.cell?_of_block (w := W) (a := ⟨b, 4, none⟩) e).trans h.2.2.2.2.1, (World.cell?_of_block (w := W) (a := ⟨b, 5, none⟩) e).trans h.2.2.2.2.2.1, (World.cell?_of_block (w := W) (a := ⟨b, 6, none⟩) e).trans h.2.2.2.2.2.2.1, (World.cell?_of_block (w := W) (a := ⟨b, 7, none⟩) e).trans h.2.2.2.2.2.2.2⟩
theorem S8.at {b : Nat} {s : Nat → Int} {W : World} (h : S8 b s W) (k : Nat) (hk : k < 8) : W.cell? ⟨b, k, none⟩ = some (.int .u64 (s k)) := by
  match k, hk with
  | 0, _ => exact h.1
  | 1, _ => exact h.2.1
  | 2, _ => exact h.2.2.1
  | 3, _ => exact h.2.2.2.1
  | 4, _ => exact h.2.2.2.2.1
  | 5, _ => exact h.2.2.2.2.2.1
  | 6, _ => exact h.2.2.2.2.2.2.1
  | 7, _ => exact h.2.2.2.2.2.2.2
theorem S8.mk {b : Nat} {s : Nat → Int} {W : World} (h : ∀ k, k < 8 → W.cell? ⟨b, k, none⟩ = some (.int .u64 (s k))) : S8 b s W := ⟨h 0 (by omega), h 1 (by omega), h 2 (by omega), h 3 (by omega), h 4 (by omega), h 5 (by omega), h 6 (by omega), h 7 (by omega)⟩
/-- The bytes of its first words. -/
def sb (s : Nat → Int) : Nat → List Int
  | 0 => []
  | m + 1 => sb s m ++ lb (s m) 8
theorem sb_len (s : Nat → Int) (m : Nat) : (sb s m).length = 8 * m := by
  induction m with
  | zero => rfl
  | succ m ih => rw [sb, List.length_append, ih, lb_len]; omega
theorem sb_bytes (s : Nat → Int) (m : Nat) : Bytes (sb s m) := by
  induction m with
  | zero => intro x hx; cases hx
  | succ m ih =>
    intro x hx
    rw [sb] at hx
    rcases List.mem_append.1 hx with h | h
    · exact ih x h
    · exact lb_bytes _ _ x h
theorem sb_split (s : Nat → Int) (k m : Nat) (h : k < m) : ∃ Y, sb s m = sb s k ++ (lb (s k) 8 ++ Y) := by
  induction m with
  | zero => omega
  | succ m ih =>
    by_cases hk : k = m
    · subst hk; exact ⟨[], by simp [sb]⟩
    · obtain ⟨Y, hY⟩ := ih (by omega)
      exact ⟨Y ++ lb (s m) 8, by rw [sb, hY]; simp⟩
theorem sb_get (L : List Int) (s : Nat → Int) (k m : Nat) (h : k < m) (h0 : 0 ≤ s k) (h1 : s k < 18446744073709551616) : getL (over L 0 (sb s m)) (8 * k) 8 = s k := by
  obtain ⟨Y, hY⟩ := sb_split s k m h
  rw [hY]
  exact get_at L (sb s k) Y (8 * k) 8 (s k) (sb_len s k) h0 (by simpa using h1)
theorem over_sb (L : List Int) (s : Nat → Int) (j : Nat) : over (over L 0 (sb s j)) (8 * j) (lb (s j) 8) = over L 0 (sb s (j + 1)) := by
  rw [sb, ← over_app, sb_len]
set_option maxHeartbeats 3200000 in
theorem putState_ok (g n c m : Nat) (s : Nat → Int) (L : List Int) (w : World) (hw : Rw w g L) (hn : n = 8 * m) (hm : m ≤ 8) (hl : n ≤ L.length) (hc : n ≤ c) (hcm : c ≤ 1048576) (h0 : ∀ k, k < 8 → 0 ≤ s k ∧ s k < 18446744073709551616) :
    Calls Try.prog 57 #[.slice (some ⟨g, 0, none⟩) n c, sV s] w fun e w' => e = .returned (.tuple #[]) ∧ Rw w' g (over L 0 (sb s m)) ∧ Bx g w w' := by
  have hlt := hw.lt
  have hS1 := S8.new w s 45
  have hr := hw.alloc (.cells #[.int .u64 (s 0), .int .u64 (s 1), .int .u64 (s 2), .int .u64 (s 3), .int .u64 (s 4), .int .u64 (s 5), .int .u64 (s 6), .int .u64 (s 7)] 45)
  have hbx : Bx g w (w.alloc (.cells #[.int .u64 (s 0), .int .u64 (s 1), .int .u64 (s 2), .int .u64 (s 3), .int .u64 (s 4), .int .u64 (s 5), .int .u64 (s 6), .int .u64 (s 7)] 45)) := (Bx.refl _ _).alloc _
  obtain ⟨b, hb⟩ : ∃ b, b = w.heap.size := ⟨_, rfl⟩
  obtain ⟨W, hW⟩ : ∃ W, W = w.alloc (.cells #[.int .u64 (s 0), .int .u64 (s 1), .int .u64 (s 2), .int .u64 (s 3), .int .u64 (s 4), .int .u64 (s 5), .int .u64 (s 6), .int .u64 (s 7)] 45) := ⟨_, rfl⟩
  rw [← hW] at hS1 hr hbx
  rw [← hb] at hS1
  have hne : b ≠ g := by omega
  have HP : Hid (∀ W j, j < m → Rw W g (over L 0 (sb s j)) → Calls Try.prog 77 #[.slice (some ⟨g, 0, none⟩) n c, .int .i64 (8 * (j : Int)), .int .i64 8, .int .u64 (s j)] W fun e w' => e = .returned (.int .i64 0) ∧ Rw w' g (over L 0 (sb s (j + 1))) ∧ But g W w') := fun W j hj h => by
    have := put_ok g n c (8 * j) 8 (s j) _ W hcm h (by rw [over_len _ _ _ (by rw [sb_len]; omega)]; exact hl) hc (by omega) (by omega) (by omega) (h0 j (by omega)).1 (by simpa using (h0 j (by omega)).2)
    rw [over_sb] at this
    simpa using this
  have HW : Hid (W = w.alloc (.cells #[.int .u64 (s 0), .int .u64 (s 1), .int .u64 (s 2), .int .u64 (s 3), .int .u64 (s 4), .int .u64 (s 5), .int .u64 (s 6), .int .u64 (s 7)] 45)) := hW
  have HB : Hid (b = w.heap.size) := hb
  have HS : Hid (S8 b s W) := hS1
  have H0 : Hid (∀ k, k < 8 → 0 ≤ s k ∧ s k < 18446744073709551616) := h0
  have eq : (n : Int).tdiv 8 = (m : Int) := by rw [Int.tdiv_eq_ediv_of_nonneg (by omega)]; omega
  have eq2 : (n : Int) / 8 = (m : Int) := by omega
  clear hW hb hS1 h0 hn
  go_enter Try.func57, Try.ntmps57
  go_wp2
  rw [← HW.out, ← HB.out]
  clear HW HB
  go_loopw [8] (fun i wr => ∃ j : Nat, j ≤ m ∧ i = .int .i64 j ∧ Rw wr g (over L 0 (sb s j)) ∧ But g W wr) (fun i _ => m - (intOf i).toNat)
  case atStart => exact ⟨0, Nat.zero_le _, rfl, by rw [show sb s 0 = [] from rfl, over_nil]; exact hr, But.refl _ _⟩
  case round =>
    obtain ⟨j, hj, rfl, hr1, hb1⟩ := hrel
    by_cases hlt2 : j < m
    · have hc1 : wr.cell? ⟨b, j, none⟩ = some (.int .u64 (s j)) := (hb1.cell (p := ⟨b, j, none⟩) hne).trans (HS.out.at j (by omega))
      go_wp2_with (fail)
      refine (HP.out wr j hlt2 hr1).mono ?_
      rintro e9 w9 ⟨rfl, r9, b9⟩
      go_wp2
      exact ⟨⟨j + 1, by omega, by go_num, r9, hb1.trans b9⟩, by simp [intOf]; omega⟩
    · obtain rfl : j = m := by omega
      go_wp2
      go_returns
      exact ⟨rfl, hr1, hbx.trans hb1.bx⟩
end Rt
end Go.Proofs.Ytfgjhljhjclegaa
