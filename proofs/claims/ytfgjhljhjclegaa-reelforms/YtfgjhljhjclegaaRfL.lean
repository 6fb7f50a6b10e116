import Derived.Test.YtfgjhljhjclegaaRfK
namespace Go.Proofs.Ytfgjhljhjclegaa
namespace Rt
open Go.RowKit
set_option linter.unusedVariables false
set_option maxRecDepth 8000
/-- The words read so far. -/
def upto (s : Nat → Int) (j : Nat) : Nat → Int := fun k => if k < j then s k else 0
theorem S8.set {b j : Nat} {s : Nat → Int} {W : World} (h : S8 b (upto s j) W) (hj : j < 8) : S8 b (upto s (j + 1)) (W.setCell ⟨b, j, none⟩ (.int .u64 (s j))) := by
  refine S8.mk fun k hk => ?_
  by_cases e : k = j
  · subst e
    have h1 : upto s (k + 1) k = s k := by unfold upto; rw [if_pos (by omega)]
    rw [h1]
    exact World.cell?_setCell_same W _ _ (by rw [h.at k hk])
  · have h1 : upto s (j + 1) k = upto s j k := by unfold upto; split <;> split <;> first | rfl | omega
    rw [h1, ← h.at k hk]
    exact World.cell?_setCell_other W _ _ _ (by simp)
set_option maxHeartbeats 3200000 in
theorem state_ok (g n c m : Nat) (s : Nat → Int) (M : List Int) (w : World) (hw : Rw w g M) (hby : Bytes M) (hn : n = 8 * m) (hm : m ≤ 8) (hl : n ≤ M.length) (hcm : n ≤ 1048576) (hs : ∀ k, k < m → getL M (8 * k) 8 = s k) (hz : ∀ k, m ≤ k → s k = 0) :
    Calls Try.prog 58 #[.slice (some ⟨g, 0, none⟩) n c] w fun e w' => e = .returned (sV s) ∧ Below w.heap.size w w' := by
  have hlt := hw.lt
  have h1 := S8.new w (fun _ => 0) 45
  have h2 := S8.new (w.alloc (.cells #[.int .u64 0, .int .u64 0, .int .u64 0, .int .u64 0, .int .u64 0, .int .u64 0, .int .u64 0, .int .u64 0] 45)) (fun _ => 0) 45
  have f1 := frozen_new w #[.int .u64 0, .int .u64 0, .int .u64 0, .int .u64 0, .int .u64 0, .int .u64 0, .int .u64 0, .int .u64 0] 45
  have f2 := frozen_new (w.alloc (.cells #[.int .u64 0, .int .u64 0, .int .u64 0, .int .u64 0, .int .u64 0, .int .u64 0, .int .u64 0, .int .u64 0] 45)) #[.int .u64 0, .int .u64 0, .int .u64 0, .int .u64 0, .int .u64 0, .int .u64 0, .int .u64 0, .int .u64 0] 45
  have hr := (hw.alloc (.cells #[.int .u64 0, .int .u64 0, .int .u64 0, .int .u64 0, .int .u64 0, .int .u64 0, .int .u64 0, .int .u64 0] 45)).alloc (.cells #[.int .u64 0, .int .u64 0, .int .u64 0, .int .u64 0, .int .u64 0, .int .u64 0, .int .u64 0, .int .u64 0] 45)
  have d : Below w.heap.size w ((w.alloc (.cells #[.int .u64 0, .int .u64 0, .int .u64 0, .int .u64 0, .int .u64 0, .int .u64 0, .int .u64 0, .int .u64 0] 45)).alloc (.cells #[.int .u64 0, .int .u64 0, .int .u64 0, .int .u64 0, .int .u64 0, .int .u64 0, .int .u64 0, .int .u64 0] 45)) := ((Below.refl _ _).alloc (Nat.le_refl _) _).alloc (by simp) _
  have h1' : S8 w.heap.size (fun _ => 0) ((w.alloc (.cells #[.int .u64 0, .int .u64 0, .int .u64 0, .int .u64 0, .int .u64 0, .int .u64 0, .int .u64 0, .int .u64 0] 45)).alloc (.cells #[.int .u64 0, .int .u64 0, .int .u64 0, .int .u64 0, .int .u64 0, .int .u64 0, .int .u64 0, .int .u64 0] 45)) := h1.of (Below.heap_alloc _ _ _ (by simp))
  have f1' : ∀ j, ((w.alloc (.cells #[.int .u64 0, .int .u64 0, .int .u64 0, .int .u64 0, .int .u64 0, .int .u64 0, .int .u64 0, .int .u64 0] 45)).alloc (.cells #[.int .u64 0, .int .u64 0, .int .u64 0, .int .u64 0, .int .u64 0, .int .u64 0, .int .u64 0, .int .u64 0] 45)).frozen? ⟨w.heap.size, j, none⟩ = false := fun j => by rw [← f1 j]; exact World.frozen?_of_block (Below.heap_alloc _ _ _ (by simp))
  rw [show (w.alloc (.cells #[.int .u64 0, .int .u64 0, .int .u64 0, .int .u64 0, .int .u64 0, .int .u64 0, .int .u64 0, .int .u64 0] 45)).heap.size = w.heap.size + 1 by simp] at h2 f2
  have HP : Hid (∀ W j, j < m → Rw W g M → Calls Try.prog 78 #[.slice (some ⟨g, 0, none⟩) n c, .int .i64 (8 * (j : Int)), .int .i64 8] W fun e w' => e = .returned (.int .u64 (s j)) ∧ w' = W) := fun W j hj h => by
    have := number_ok g n c (8 * j) 8 M W h hby hcm hl (by omega) (by omega) (by omega)
    rw [hs j hj] at this
    simpa using this
  have HZ : Hid (∀ k, m ≤ k → s k = 0) := hz
  have eq : (n : Int).tdiv 8 = (m : Int) := by rw [Int.tdiv_eq_ediv_of_nonneg (by omega)]; omega
  have eq2 : (n : Int) / 8 = (m : Int) := by omega
  obtain ⟨b, hb⟩ : ∃ b, b = w.heap.size := ⟨_, rfl⟩
  obtain ⟨W, hW⟩ : ∃ W, W = (w.alloc (.cells #[.int .u64 0, .int .u64 0, .int .u64 0, .int .u64 0, .int .u64 0, .int .u64 0, .int .u64 0, .int .u64 0] 45)).alloc (.cells #[.int .u64 0, .int .u64 0, .int .u64 0, .int .u64 0, .int .u64 0, .int .u64 0, .int .u64 0, .int .u64 0] 45) := ⟨_, rfl⟩
  rw [← hW] at h1' h2 f1' f2 hr d
  rw [← hb] at h1' h2 f1' f2
  have HW : Hid (W = (w.alloc (.cells #[.int .u64 0, .int .u64 0, .int .u64 0, .int .u64 0, .int .u64 0, .int .u64 0, .int .u64 0, .int .u64 0] 45)).alloc (.cells #[.int .u64 0, .int .u64 0, .int .u64 0, .int .u64 0, .int .u64 0, .int .u64 0, .int .u64 0, .int .u64 0] 45)) := hW
  have HB : Hid (b = w.heap.size) := hb
  have H1 : Hid (S8 b (fun _ => 0) W) := h1'
  have H2 : Hid (S8 (b + 1) (fun _ => 0) W) := h2
  have F1 : Hid (∀ j, W.frozen? ⟨b, j, none⟩ = false) := f1'
  have F2 : Hid (∀ j, W.frozen? ⟨b + 1, j, none⟩ = false) := f2
  have HD : Hid (Below w.heap.size w W) := d
  have hgb : g < b := by omega
  clear hW hb h1 h2 f1 f2 h1' f1' hs hz hn hw d
  go_enter Try.func58, Try.ntmps58
  go_wp2
  rw [← HW.out, ← HB.out]
  clear HW
  go_loopw [8] (fun i wr => ∃ j : Nat, j ≤ m ∧ i = .int .i64 j ∧ S8 (b + 1) (upto s j) wr ∧ (∀ j, wr.frozen? ⟨b + 1, j, none⟩ = false) ∧ But (b + 1) W wr) (fun i _ => m - (intOf i).toNat)
  case atStart => exact ⟨0, Nat.zero_le _, rfl, H2.out, F2.out, But.refl _ _⟩
  case round =>
    obtain ⟨j, hj, rfl, h8, hf, hb1⟩ := hrel
    have hr1 : Rw wr g M := hr.of (hb1.block g (by omega))
    have hd1 : Below w.heap.size w wr := HD.out.trans (hb1.below (by rw [← HB.out]; omega))
    by_cases hlt2 : j < m
    · have hc := h8.at j (by omega)
      have hfj := hf j
      have h9 := h8.set (by omega : j < 8)
      have hf9 : ∀ i, (wr.setCell ⟨b + 1, j, none⟩ (.int .u64 (s j))).frozen? ⟨b + 1, i, none⟩ = false := fun i => by rw [World.frozen?_setCell]; exact hf i
      have hb9 : But (b + 1) W (wr.setCell ⟨b + 1, j, none⟩ (.int .u64 (s j))) := hb1.setCell
      have H9 : Hid (S8 (b + 1) (upto s (j + 1)) (wr.setCell ⟨b + 1, j, none⟩ (.int .u64 (s j))) ∧ (∀ i, (wr.setCell ⟨b + 1, j, none⟩ (.int .u64 (s j))).frozen? ⟨b + 1, i, none⟩ = false) ∧ But (b + 1) W (wr.setCell ⟨b + 1, j, none⟩ (.int .u64 (s j)))) := ⟨h9, hf9, hb9⟩
      clear h8 hf h9 hf9 hb9 hb1
      generalize upto s j j = old at *
      go_wp2_with (fail)
      refine (HP.out wr j hlt2 hr1).mono ?_
      rintro e9 w9 ⟨rfl, hw9⟩
      subst w9
      go_wp2
      exact ⟨⟨j + 1, by omega, by go_num, H9.out.1, H9.out.2.1, H9.out.2.2⟩, by simp [intOf]; omega⟩
    · obtain rfl : j = m := by omega
      have es : upto s j = s := by funext k; unfold upto; split; rfl; exact (HZ.out k (by omega)).symm
      rw [es] at h8
      have z8 : S8 b (fun _ => 0) wr := H1.out.of (hb1.block b (by omega))
      have fz : ∀ i, wr.frozen? ⟨b, i, none⟩ = false := fun i => (hb1.frozen (p := ⟨b, i, none⟩) (by simp)).trans (F1.out i)
      have hbb : w.heap.size ≤ b := by rw [← HB.out]; exact Nat.le_refl _
      obtain ⟨c0, c1, c2, c3, c4, c5, c6, c7⟩ := h8
      obtain ⟨d0, d1, d2, d3, d4, d5, d6, d7⟩ := z8
      clear es hr1 hb1 hf HP HZ H1 H2 F1 F2 HD
      go_wp2
      refine bodyPost_ret (v := sV s) (by simp [results, Try.results58, go_sem, d0, d1, d2, d3, d4, d5, d6, d7]) rfl ⟨rfl, ?_⟩
      exact ((((((((hd1.setCell (p := ⟨b, 0, none⟩) hbb _).setCell (p := ⟨b, 1, none⟩) hbb _).setCell (p := ⟨b, 2, none⟩) hbb _).setCell (p := ⟨b, 3, none⟩) hbb _).setCell (p := ⟨b, 4, none⟩) hbb _).setCell (p := ⟨b, 5, none⟩) hbb _).setCell (p := ⟨b, 6, none⟩) hbb _).setCell (p := ⟨b, 7, none⟩) hbb _)
end Rt
end Go.Proofs.Ytfgjhljhjclegaa
