import Derived.Test.YtfgjhljhjclegaaRfC
namespace Go.Proofs.Ytfgjhljhjclegaa
namespace Rt
open Go.RowKit
set_option linter.unusedVariables false
set_option maxRecDepth 8000
set_option maxHeartbeats 1600000 in
theorem plain_ok (g n c : Nat) (x y : Int) (M : List Int) (w : World) (hw : Rw w g M) (hby : Bytes M) (hn : 8 ≤ n) (hl : n ≤ M.length) (hcm : n ≤ 1048576) (hx : getL M 0 4 = x) (hy : getL M 4 4 = y) (hx0 : 0 ≤ x) (hx1 : x < 4294967296) (hy0 : 0 ≤ y) (hy1 : y < 4294967296) :
    Calls Try.prog 45 #[.slice (some ⟨g, 0, none⟩) n c] w fun e w' => e = .returned (eV x y 0) ∧ Below w.heap.size w w' := by
  have HP : Hid (∀ W, Rw W g M → Calls Try.prog 78 #[.slice (some ⟨g, 0, none⟩) n c, .int .i64 0, .int .i64 4] W fun e w' => e = .returned (.int .u64 x) ∧ w' = W) := fun W h => by
    have := number_ok g n c 0 4 M W h hby hcm hl (by omega) (by omega) (by omega)
    rw [hx] at this; exact this
  have HQ : Hid (∀ W, Rw W g M → Calls Try.prog 78 #[.slice (some ⟨g, 0, none⟩) n c, .int .i64 4, .int .i64 4] W fun e w' => e = .returned (.int .u64 y) ∧ w' = W) := fun W h => by
    have := number_ok g n c 4 4 M W h hby hcm hl (by omega) (by omega) (by omega)
    rw [hy] at this; exact this
  have r1 := hw.alloc (.cells #[.int .u32 0, .int .u32 0, .int .u32 0] 40)
  clear hx hy
  go_enter Try.func45, Try.ntmps45
  go_wp2_with (fail)
  refine (HP.out _ r1).mono ?_
  rintro e2 w2 ⟨rfl, hw2⟩
  subst w2
  go_wp2_with (fail)
  refine (HQ.out _ r1).mono ?_
  rintro e2 w2 ⟨rfl, hw2⟩
  subst w2
  go_wp2
  exact bodyPost_ret (v := eV x y 0) (by simp [results, Try.results45, go_sem]) rfl ⟨rfl, (Below.refl _ _).alloc (Nat.le_refl _) _⟩
set_option maxHeartbeats 1600000 in
theorem weighted_ok (g n c : Nat) (x y z : Int) (M : List Int) (w : World) (hw : Rw w g M) (hby : Bytes M) (hn : 12 ≤ n) (hl : n ≤ M.length) (hcm : n ≤ 1048576) (hx : getL M 0 4 = x) (hy : getL M 4 4 = y) (hz : getL M 8 4 = z) (hx0 : 0 ≤ x) (hx1 : x < 4294967296) (hy0 : 0 ≤ y) (hy1 : y < 4294967296) (hz0 : 0 ≤ z) (hz1 : z < 4294967296) :
    Calls Try.prog 47 #[.slice (some ⟨g, 0, none⟩) n c] w fun e w' => e = .returned (eV x y z) ∧ Below w.heap.size w w' := by
  have hlt := hw.lt
  have HP : Hid (∀ W, Rw W g M → Calls Try.prog 45 #[.slice (some ⟨g, 0, none⟩) n c] W fun e w' => e = .returned (eV x y 0) ∧ Below W.heap.size W w') := fun W h => plain_ok g n c x y M W h hby (by omega) hl hcm hx hy hx0 hx1 hy0 hy1
  have HQ : Hid (∀ W, Rw W g M → Calls Try.prog 78 #[.slice (some ⟨g, 0, none⟩) n c, .int .i64 8, .int .i64 4] W fun e w' => e = .returned (.int .u64 z) ∧ w' = W) := fun W h => by
    have := number_ok g n c 8 4 M W h hby hcm hl (by omega) (by omega) (by omega)
    rw [hz] at this; exact this
  have r1 := hw.alloc (.cells #[.int .u32 0, .int .u32 0, .int .u32 0] 40)
  have s1 := S3.new w (.int .u32 0) (.int .u32 0) (.int .u32 0) 40
  have f1 : ∀ j, (w.alloc (.cells #[.int .u32 0, .int .u32 0, .int .u32 0] 40)).frozen? ⟨w.heap.size, j, none⟩ = false := fun j => by simp [World.frozen?, World.alloc, -World.alloc_eq]
  have b1 : Below w.heap.size w (w.alloc (.cells #[.int .u32 0, .int .u32 0, .int .u32 0] 40)) := (Below.refl _ _).alloc (Nat.le_refl _) _
  clear hx hy hz
  go_enter Try.func47, Try.ntmps47
  go_wp2_with (fail)
  refine (HP.out _ r1).mono ?_
  rintro e2 w2 ⟨rfl, b2⟩
  have hz2 : w.heap.size + 1 ≤ w2.heap.size := by have := b2.size; simpa using this
  have s2 := s1.below b2 (by simp)
  have f2 : ∀ j, w2.frozen? ⟨w.heap.size, j, none⟩ = false := fun j => (b2.frozen (p := ⟨w.heap.size, j, none⟩) (by simp)).trans (f1 j)
  have d2 : Below w.heap.size w w2 := b1.trans (b2.mono (by simp))
  have r2 := r1.kept b2 (by simp; omega)
  clear b2 b1 r1 s1 f1
  obtain ⟨b, HB⟩ : ∃ b, Hid (b = w.heap.size) := ⟨_, rfl⟩
  rw [← HB.out] at s2 f2 hz2 ⊢
  have r3 := r2.alloc (.cells #[.int .u32 x, .int .u32 y, .int .u32 0] 40)
  have hne : b ≠ w2.heap.size := by omega
  have hne2 : w2.heap.size ≠ b := by omega
  have A0 : ∀ o, (w2.alloc o).cell? ⟨b, 0, none⟩ = some (.int .u32 0) := fun o => (s2.alloc o).1
  have A1 : ∀ o, (w2.alloc o).cell? ⟨b, 1, none⟩ = some (.int .u32 0) := fun o => (s2.alloc o).2.1
  have A2 : ∀ o, (w2.alloc o).cell? ⟨b, 2, none⟩ = some (.int .u32 0) := fun o => (s2.alloc o).2.2
  have F : ∀ o j, (w2.alloc o).frozen? ⟨b, j, none⟩ = false := fun o j => by
    rw [← f2 j]; exact World.frozen?_of_block (Below.heap_alloc w2 o b (by omega))
  clear f2 s2
  go_wp2_with (go_at_call 78; refine (HQ.out _ r3).mono ?_; rintro e2 w2 ⟨rfl, hw2⟩; subst w2)
  have hbb : w.heap.size ≤ b := by rw [HB.out]; exact Nat.le_refl _
  refine bodyPost_ret (v := eV x y z) (by simp [results, Try.results47, go_sem, A0, A1, A2]) rfl ⟨rfl, ?_⟩
  exact (((d2.alloc d2.size _).setCell (p := ⟨b, 0, none⟩) hbb _).setCell (p := ⟨b, 1, none⟩) hbb _).setCell (p := ⟨b, 2, none⟩) hbb _
set_option maxHeartbeats 1600000 in
theorem update_ok (g n c : Nat) (x y z : Int) (M : List Int) (w : World) (hw : Rw w g M) (hby : Bytes M) (hn : 20 ≤ n) (hl : n ≤ M.length) (hcm : n ≤ 1048576) (hx : getL M 0 4 = x) (hy : getL M 4 8 = y) (hz : getL M 12 8 = z) (hx0 : 0 ≤ x) (hx1 : x < 4294967296) (hy0 : 0 ≤ y) (hy1 : y < 18446744073709551616) (hz0 : 0 ≤ z) (hz1 : z < 18446744073709551616) :
    Calls Try.prog 53 #[.slice (some ⟨g, 0, none⟩) n c] w fun e w' => e = .returned (uV x y z) ∧ Below w.heap.size w w' := by
  have HP : Hid (∀ W, Rw W g M → Calls Try.prog 78 #[.slice (some ⟨g, 0, none⟩) n c, .int .i64 0, .int .i64 4] W fun e w' => e = .returned (.int .u64 x) ∧ w' = W) := fun W h => by
    have := number_ok g n c 0 4 M W h hby hcm hl (by omega) (by omega) (by omega)
    rw [hx] at this; exact this
  have HQ : Hid (∀ W, Rw W g M → Calls Try.prog 78 #[.slice (some ⟨g, 0, none⟩) n c, .int .i64 4, .int .i64 8] W fun e w' => e = .returned (.int .u64 y) ∧ w' = W) := fun W h => by
    have := number_ok g n c 4 8 M W h hby hcm hl (by omega) (by omega) (by omega)
    rw [hy] at this; exact this
  have HR : Hid (∀ W, Rw W g M → Calls Try.prog 78 #[.slice (some ⟨g, 0, none⟩) n c, .int .i64 12, .int .i64 8] W fun e w' => e = .returned (.int .u64 z) ∧ w' = W) := fun W h => by
    have := number_ok g n c 12 8 M W h hby hcm hl (by omega) (by omega) (by omega)
    rw [hz] at this; exact this
  have r1 := hw.alloc (.cells #[.int .u32 0, .int .u64 0, .int .u64 0] 43)
  clear hx hy hz
  go_enter Try.func53, Try.ntmps53
  go_wp2_with (fail)
  refine (HP.out _ r1).mono ?_
  rintro e2 w2 ⟨rfl, hw2⟩
  subst w2
  go_wp2_with (fail)
  refine (HQ.out _ r1).mono ?_
  rintro e2 w2 ⟨rfl, hw2⟩
  subst w2
  go_wp2_with (fail)
  refine (HR.out _ r1).mono ?_
  rintro e2 w2 ⟨rfl, hw2⟩
  subst w2
  go_wp2
  exact bodyPost_ret (v := uV x y z) (by simp [results, Try.results53, go_sem]) rfl ⟨rfl, (Below.refl _ _).alloc (Nat.le_refl _) _⟩
end Rt
end Go.Proofs.Ytfgjhljhjclegaa
