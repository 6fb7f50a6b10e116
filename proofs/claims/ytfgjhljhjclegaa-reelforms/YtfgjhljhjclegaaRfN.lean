import Derived.Test.YtfgjhljhjclegaaRfK
import Derived.Test.YtfgjhljhjclegaaRtD
namespace Go.Proofs.Ytfgjhljhjclegaa
namespace Rt
open Go.RowKit
set_option linter.unusedVariables false
set_option maxRecDepth 8000
abbrev S6S (b k : Nat) (s : Nat → Int) (W : World) : Prop := S3 b (.int .i64 k) (.func (.func 57) #[] #[]) (.func (.func 58) #[] #[]) W ∧ S8 (b + 1) s W
set_option maxHeartbeats 6400000 in
theorem layS_ok (k g n c : Nat) (s : Nat → Int) (L M : List Int) (w : World) (hw : Rw w g L) (h1 : 1 ≤ k) (h2 : k ≤ 256) (hx : k ≤ n) (hc : n ≤ c) (hcm : c ≤ 1048576)
    (hp : ∀ W, Rw W g L → Calls Try.prog 57 #[.slice (some ⟨g, 0, none⟩) k k, sV s] W fun e w' => e = .returned (.tuple #[]) ∧ Rw w' g M ∧ Bx g W w') :
    Calls Try.prog 60 #[fS 57 58 k, .slice (some ⟨g, 0, none⟩) n c, sV s] w fun e w' => e = .returned (.tuple #[]) ∧ Rw w' g M ∧ Bx g w w' := by
  have HP : Hid (∀ W, Rw W g L → Calls Try.prog 57 #[.slice (some ⟨g, 0, none⟩) k k, sV s] W fun e w' => e = .returned (.tuple #[]) ∧ Rw w' g M ∧ Bx g W w') := hp
  have i1 : (0 : Int) ≤ (k : Int) := by omega
  have i2 : (k : Int) ≤ (n : Int) := by omega
  have i3 : (k : Int) ≤ (c : Int) := by omega
  have i4 : k ≤ c := by omega
  have i5 : IntKind.i64.wrap (k : Int) = (k : Int) := by rw [IntKind.wrap_i64]; omega
  have hlt := hw.lt
  have hS1 := (S3.new w (.int .i64 (k : Int)) (.func (.func 57) #[] #[]) (.func (.func 58) #[] #[]) 69).alloc (.cells #[.int .u64 (s 0), .int .u64 (s 1), .int .u64 (s 2), .int .u64 (s 3), .int .u64 (s 4), .int .u64 (s 5), .int .u64 (s 6), .int .u64 (s 7)] 45)
  have hS2 := S8.new (w.alloc (oS 57 58 k)) s 45
  rw [show (w.alloc (oS 57 58 k)).heap.size = w.heap.size + 1 by simp] at hS2
  obtain ⟨b, hb⟩ : ∃ b, b = w.heap.size := ⟨_, rfl⟩
  obtain ⟨W, hW⟩ : ∃ W, W = (w.alloc (oS 57 58 k)).alloc (.cells #[.int .u64 (s 0), .int .u64 (s 1), .int .u64 (s 2), .int .u64 (s 3), .int .u64 (s 4), .int .u64 (s 5), .int .u64 (s 6), .int .u64 (s 7)] 45) := ⟨_, rfl⟩
  have hbW : Bx g w W := by rw [hW]; exact ((Bx.refl _ _).alloc _).alloc _
  have hrW : Rw W g L := by rw [hW]; exact (hw.alloc _).alloc _
  rw [← hW, ← hb] at hS1 hS2
  have l1 := hS1.lt
  have l2 := hS2.lt
  have HW : Hid (W = (w.alloc (oS 57 58 k)).alloc (.cells #[.int .u64 (s 0), .int .u64 (s 1), .int .u64 (s 2), .int .u64 (s 3), .int .u64 (s 4), .int .u64 (s 5), .int .u64 (s 6), .int .u64 (s 7)] 45)) := hW
  have HB : Hid (b = w.heap.size) := hb
  have hne : b ≠ g := by omega
  have hne2 : b + 1 ≠ g := by omega
  have hS0 : Hid (S6S b k s W.drew) := ⟨hS1, hS2⟩
  clear hW hb hS1 hS2 hw hp
  go_enter Try.func60, Try.ntmps60
  go_wp2
  rw [← HW.out, ← HB.out]
  go_region_held3 (S6S b k s) ((first | (with_reducible exact hS5.out) | (with_reducible exact hS0.out)))
    ((go_at_call 57; refine (HP.out _ (by exact hrW)).mono ?_; rintro e5 w5 ⟨rfl, h5, h6⟩; have hS5 : Hid (S6S b k s w5) := ⟨S3.on hS0.out.1 h6 l1 hne, S8.of hS0.out.2 (h6.block (b + 1) l2 hne2)⟩))
  go_wp2
  go_returns
  exact ⟨rfl, h5, hbW.drew.trans h6⟩
end Rt
end Go.Proofs.Ytfgjhljhjclegaa
