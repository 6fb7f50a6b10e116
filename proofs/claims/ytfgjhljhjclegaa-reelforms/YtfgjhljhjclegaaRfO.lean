import Derived.Test.YtfgjhljhjclegaaRfK
import Derived.Test.YtfgjhljhjclegaaRtD
namespace Go.Proofs.Ytfgjhljhjclegaa
namespace Rt
open Go.RowKit
set_option linter.unusedVariables false
set_option maxRecDepth 8000
abbrev T6S (b k : Nat) (W : World) : Prop := S3 b (.int .i64 k) (.func (.func 57) #[] #[]) (.func (.func 58) #[] #[]) W
set_option maxHeartbeats 6400000 in
theorem takeS_ok (k g n c : Nat) (s : Nat → Int) (M : List Int) (w : World) (hw : Rw w g M) (h1 : 1 ≤ k) (h2 : k ≤ 256) (hx : k ≤ n) (hc : n ≤ c) (hcm : c ≤ 1048576)
    (hp : ∀ W, Rw W g M → Calls Try.prog 58 #[.slice (some ⟨g, 0, none⟩) k k] W fun e w' => e = .returned (sV s) ∧ Below W.heap.size W w') :
    Calls Try.prog 61 #[fS 57 58 k, .slice (some ⟨g, 0, none⟩) n c] w fun e w' => e = .returned (sV s) ∧ Below w.heap.size w w' := by
  have HP : Hid (∀ W, Rw W g M → Calls Try.prog 58 #[.slice (some ⟨g, 0, none⟩) k k] W fun e w' => e = .returned (sV s) ∧ Below W.heap.size W w') := hp
  have i1 : (0 : Int) ≤ (k : Int) := by omega
  have i2 : (k : Int) ≤ (n : Int) := by omega
  have i3 : (k : Int) ≤ (c : Int) := by omega
  have i4 : k ≤ c := by omega
  have i5 : IntKind.i64.wrap (k : Int) = (k : Int) := by rw [IntKind.wrap_i64]; omega
  have hlt := hw.lt
  have hS1 := (S3.new w (.int .i64 (k : Int)) (.func (.func 57) #[] #[]) (.func (.func 58) #[] #[]) 69).alloc (.cells #[.int .u64 0, .int .u64 0, .int .u64 0, .int .u64 0, .int .u64 0, .int .u64 0, .int .u64 0, .int .u64 0] 45)
  have hS2 := S8.new (w.alloc (oS 57 58 k)) (fun _ => 0) 45
  have hF := frozen_new (w.alloc (oS 57 58 k)) #[.int .u64 0, .int .u64 0, .int .u64 0, .int .u64 0, .int .u64 0, .int .u64 0, .int .u64 0, .int .u64 0] 45
  rw [show (w.alloc (oS 57 58 k)).heap.size = w.heap.size + 1 by simp] at hS2 hF
  obtain ⟨b, hb⟩ : ∃ b, b = w.heap.size := ⟨_, rfl⟩
  obtain ⟨W, hW⟩ : ∃ W, W = (w.alloc (oS 57 58 k)).alloc (.cells #[.int .u64 0, .int .u64 0, .int .u64 0, .int .u64 0, .int .u64 0, .int .u64 0, .int .u64 0, .int .u64 0] 45) := ⟨_, rfl⟩
  have hbW : Below w.heap.size w W := by rw [hW]; exact ((Below.refl _ _).alloc (Nat.le_refl _) _).alloc (by simp) _
  have hrW : Rw W g M := by rw [hW]; exact (hw.alloc _).alloc _
  rw [← hW, ← hb] at hS1 hS2 hF
  have l1 := hS1.lt
  have l2 := hS2.lt
  have HW : Hid (W = (w.alloc (oS 57 58 k)).alloc (.cells #[.int .u64 0, .int .u64 0, .int .u64 0, .int .u64 0, .int .u64 0, .int .u64 0, .int .u64 0, .int .u64 0] 45)) := hW
  have HB : Hid (b = w.heap.size) := hb
  have hS0 : Hid (T6S b k W.drew) := hS1
  have HS2 : Hid (S8 (b + 1) (fun _ => 0) W) := hS2
  have HF : Hid (∀ j, W.frozen? ⟨b + 1, j, none⟩ = false) := hF
  have HBW : Hid (Below w.heap.size w W) := hbW
  clear hW hb hS1 hS2 hw hp hF hbW
  go_enter Try.func61, Try.ntmps61
  go_wp2
  rw [← HW.out, ← HB.out]
  clear HW
  go_region_held3 (T6S b k) ((first | (with_reducible exact hS5.out) | (with_reducible exact hS0.out) | (with_reducible exact hS6.out)))
    ((go_at_call 58; refine (HP.out _ (by exact hrW)).mono ?_; rintro e5 w5 ⟨rfl, h6⟩; have hS5 : Hid (T6S b k w5) := S3.below hS0.out h6 (by exact l1); obtain ⟨d0, d1, d2, d3, d4, d5, d6, d7⟩ := S8.of (b := b + 1) (s := fun _ => 0) (W := W.drew) HS2.out (h6.block (b + 1) (by exact l2)); have hF5 : ∀ j, w5.frozen? ⟨b + 1, j, none⟩ = false := fun j => (h6.frozen (p := ⟨b + 1, j, none⟩) (by exact l2)).trans (HF.out j); have hS6 : Hid (T6S b k ((((((((w5.setCell ⟨b + 1, 0, none⟩ (.int .u64 (s 0))).setCell ⟨b + 1, 1, none⟩ (.int .u64 (s 1))).setCell ⟨b + 1, 2, none⟩ (.int .u64 (s 2))).setCell ⟨b + 1, 3, none⟩ (.int .u64 (s 3))).setCell ⟨b + 1, 4, none⟩ (.int .u64 (s 4))).setCell ⟨b + 1, 5, none⟩ (.int .u64 (s 5))).setCell ⟨b + 1, 6, none⟩ (.int .u64 (s 6))).setCell ⟨b + 1, 7, none⟩ (.int .u64 (s 7)))) := (S3.set (S3.set (S3.set (S3.set (S3.set (S3.set (S3.set (S3.set hS5.out (by simp)) (by simp)) (by simp)) (by simp)) (by simp)) (by simp)) (by simp)) (by simp))))
  go_wp2
  have hbb : w.heap.size ≤ b + 1 := by rw [← HB.out]; omega
  refine bodyPost_ret (v := sV s) (by simp [results, Try.results61, go_sem, d0, d1, d2, d3, d4, d5, d6, d7]) rfl ⟨rfl, ?_⟩
  exact (((((((((HBW.out.drew.trans (h6.mono HBW.out.size)).setCell (p := ⟨b + 1, 0, none⟩) hbb _).setCell (p := ⟨b + 1, 1, none⟩) hbb _).setCell (p := ⟨b + 1, 2, none⟩) hbb _).setCell (p := ⟨b + 1, 3, none⟩) hbb _).setCell (p := ⟨b + 1, 4, none⟩) hbb _).setCell (p := ⟨b + 1, 5, none⟩) hbb _).setCell (p := ⟨b + 1, 6, none⟩) hbb _).setCell (p := ⟨b + 1, 7, none⟩) hbb _)
end Rt
end Go.Proofs.Ytfgjhljhjclegaa
