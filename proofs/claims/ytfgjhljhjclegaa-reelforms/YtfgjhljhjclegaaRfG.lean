import Derived.Test.YtfgjhljhjclegaaRfE
import Derived.Test.YtfgjhljhjclegaaRtD
namespace Go.Proofs.Ytfgjhljhjclegaa
namespace Rt
open Go.RowKit
set_option linter.unusedVariables false
set_option maxRecDepth 8000
abbrev T6P (b k : Nat) (W : World) : Prop := S3 b (.int .i64 k) (.func (.func 44) #[] #[]) (.func (.func 45) #[] #[]) W
set_option maxHeartbeats 3200000 in
theorem takeP_ok (k g n c : Nat) (x y z : Int) (M : List Int) (w : World) (hw : Rw w g M) (h1 : 1 ≤ k) (h2 : k ≤ 256) (hx : k ≤ n) (hc : n ≤ c) (hcm : c ≤ 1048576)
    (hp : ∀ W, Rw W g M → Calls Try.prog 45 #[.slice (some ⟨g, 0, none⟩) k k] W fun e w' => e = .returned (eV x y z) ∧ Below W.heap.size W w') :
    Calls Try.prog 50 #[fE 44 45 k, .slice (some ⟨g, 0, none⟩) n c] w fun e w' => e = .returned (eV x y z) ∧ Below w.heap.size w w' := by
  have HP : Hid (∀ W, Rw W g M → Calls Try.prog 45 #[.slice (some ⟨g, 0, none⟩) k k] W fun e w' => e = .returned (eV x y z) ∧ Below W.heap.size W w') := hp
  have i1 : (0 : Int) ≤ (k : Int) := by omega
  have i2 : (k : Int) ≤ (n : Int) := by omega
  have i3 : (k : Int) ≤ (c : Int) := by omega
  have i4 : k ≤ c := by omega
  have i5 : IntKind.i64.wrap (k : Int) = (k : Int) := by rw [IntKind.wrap_i64]; omega
  have hlt := hw.lt
  have hS1 := (S3.new w (.int .i64 (k : Int)) (.func (.func 44) #[] #[]) (.func (.func 45) #[] #[]) 49).alloc (.cells #[.int .u32 0, .int .u32 0, .int .u32 0] 40)
  have hS2 := S3.new (w.alloc (oE 44 45 k)) (.int .u32 0) (.int .u32 0) (.int .u32 0) 40
  have hF := fun j => show ((w.alloc (oE 44 45 k)).alloc (.cells #[.int .u32 0, .int .u32 0, .int .u32 0] 40)).frozen? ⟨(w.alloc (oE 44 45 k)).heap.size, j, none⟩ = false from frozen_new _ _ _ _
  rw [show (w.alloc (oE 44 45 k)).heap.size = w.heap.size + 1 by simp] at hS2 hF
  obtain ⟨b, hb⟩ : ∃ b, b = w.heap.size := ⟨_, rfl⟩
  obtain ⟨W, hW⟩ : ∃ W, W = (w.alloc (oE 44 45 k)).alloc (.cells #[.int .u32 0, .int .u32 0, .int .u32 0] 40) := ⟨_, rfl⟩
  have hbW : Below w.heap.size w W := by rw [hW]; exact ((Below.refl _ _).alloc (Nat.le_refl _) _).alloc (by simp) _
  have hrW : Rw W g M := by rw [hW]; exact (hw.alloc _).alloc _
  rw [← hW, ← hb] at hS1 hS2 hF
  have l1 := hS1.lt
  have l2 := hS2.lt
  have HW : Hid (W = (w.alloc (oE 44 45 k)).alloc (.cells #[.int .u32 0, .int .u32 0, .int .u32 0] 40)) := hW
  have HB : Hid (b = w.heap.size) := hb
  have hS0 : Hid (T6P b k W.drew) := hS1
  have HS2 : Hid (S3 (b + 1) (.int .u32 0) (.int .u32 0) (.int .u32 0) W) := hS2
  have HF : Hid (∀ j, W.frozen? ⟨b + 1, j, none⟩ = false) := hF
  have HBW : Hid (Below w.heap.size w W) := hbW
  clear hW hb hS1 hS2 hw hp hF hbW
  go_enter Try.func50, Try.ntmps50
  go_wp2
  rw [← HW.out, ← HB.out]
  clear HW
  go_region_held3 (T6P b k) ((first | (with_reducible exact hS5.out) | (with_reducible exact hS0.out) | (with_reducible exact hS6.out)))
    ((go_at_call 45; refine (HP.out _ (by exact hrW)).mono ?_; rintro e5 w5 ⟨rfl, h6⟩; have hS5 : Hid (T6P b k w5) := S3.below hS0.out h6 (by exact l1); obtain ⟨s50, s51, s52⟩ := S3.below (W := W.drew) HS2.out h6 (by exact l2); have hF5 : ∀ j, w5.frozen? ⟨b + 1, j, none⟩ = false := fun j => (h6.frozen (p := ⟨b + 1, j, none⟩) (by exact l2)).trans (HF.out j); have hS6 : Hid (T6P b k (((w5.setCell ⟨b + 1, 0, none⟩ (.int .u32 x)).setCell ⟨b + 1, 1, none⟩ (.int .u32 y)).setCell ⟨b + 1, 2, none⟩ (.int .u32 z))) := ((S3.set hS5.out (by simp)).set (by simp)).set (by simp)))
  go_wp2
  have hbb : w.heap.size ≤ b + 1 := by rw [← HB.out]; omega
  refine bodyPost_ret (v := eV x y z) (by simp [results, Try.results50, go_sem, s50, s51, s52]) rfl ⟨rfl, ?_⟩
  exact (((HBW.out.drew.trans (h6.mono HBW.out.size)).setCell (p := ⟨b + 1, 0, none⟩) hbb _).setCell (p := ⟨b + 1, 1, none⟩) hbb _).setCell (p := ⟨b + 1, 2, none⟩) hbb _
abbrev T6W (b k : Nat) (W : World) : Prop := S3 b (.int .i64 k) (.func (.func 46) #[] #[]) (.func (.func 47) #[] #[]) W
set_option maxHeartbeats 3200000 in
theorem takeW_ok (k g n c : Nat) (x y z : Int) (M : List Int) (w : World) (hw : Rw w g M) (h1 : 1 ≤ k) (h2 : k ≤ 256) (hx : k ≤ n) (hc : n ≤ c) (hcm : c ≤ 1048576)
    (hp : ∀ W, Rw W g M → Calls Try.prog 47 #[.slice (some ⟨g, 0, none⟩) k k] W fun e w' => e = .returned (eV x y z) ∧ Below W.heap.size W w') :
    Calls Try.prog 50 #[fE 46 47 k, .slice (some ⟨g, 0, none⟩) n c] w fun e w' => e = .returned (eV x y z) ∧ Below w.heap.size w w' := by
  have HP : Hid (∀ W, Rw W g M → Calls Try.prog 47 #[.slice (some ⟨g, 0, none⟩) k k] W fun e w' => e = .returned (eV x y z) ∧ Below W.heap.size W w') := hp
  have i1 : (0 : Int) ≤ (k : Int) := by omega
  have i2 : (k : Int) ≤ (n : Int) := by omega
  have i3 : (k : Int) ≤ (c : Int) := by omega
  have i4 : k ≤ c := by omega
  have i5 : IntKind.i64.wrap (k : Int) = (k : Int) := by rw [IntKind.wrap_i64]; omega
  have hlt := hw.lt
  have hS1 := (S3.new w (.int .i64 (k : Int)) (.func (.func 46) #[] #[]) (.func (.func 47) #[] #[]) 49).alloc (.cells #[.int .u32 0, .int .u32 0, .int .u32 0] 40)
  have hS2 := S3.new (w.alloc (oE 46 47 k)) (.int .u32 0) (.int .u32 0) (.int .u32 0) 40
  have hF := fun j => show ((w.alloc (oE 46 47 k)).alloc (.cells #[.int .u32 0, .int .u32 0, .int .u32 0] 40)).frozen? ⟨(w.alloc (oE 46 47 k)).heap.size, j, none⟩ = false from frozen_new _ _ _ _
  rw [show (w.alloc (oE 46 47 k)).heap.size = w.heap.size + 1 by simp] at hS2 hF
  obtain ⟨b, hb⟩ : ∃ b, b = w.heap.size := ⟨_, rfl⟩
  obtain ⟨W, hW⟩ : ∃ W, W = (w.alloc (oE 46 47 k)).alloc (.cells #[.int .u32 0, .int .u32 0, .int .u32 0] 40) := ⟨_, rfl⟩
  have hbW : Below w.heap.size w W := by rw [hW]; exact ((Below.refl _ _).alloc (Nat.le_refl _) _).alloc (by simp) _
  have hrW : Rw W g M := by rw [hW]; exact (hw.alloc _).alloc _
  rw [← hW, ← hb] at hS1 hS2 hF
  have l1 := hS1.lt
  have l2 := hS2.lt
  have HW : Hid (W = (w.alloc (oE 46 47 k)).alloc (.cells #[.int .u32 0, .int .u32 0, .int .u32 0] 40)) := hW
  have HB : Hid (b = w.heap.size) := hb
  have hS0 : Hid (T6W b k W.drew) := hS1
  have HS2 : Hid (S3 (b + 1) (.int .u32 0) (.int .u32 0) (.int .u32 0) W) := hS2
  have HF : Hid (∀ j, W.frozen? ⟨b + 1, j, none⟩ = false) := hF
  have HBW : Hid (Below w.heap.size w W) := hbW
  clear hW hb hS1 hS2 hw hp hF hbW
  go_enter Try.func50, Try.ntmps50
  go_wp2
  rw [← HW.out, ← HB.out]
  clear HW
  go_region_held3 (T6W b k) ((first | (with_reducible exact hS5.out) | (with_reducible exact hS0.out) | (with_reducible exact hS6.out)))
    ((go_at_call 47; refine (HP.out _ (by exact hrW)).mono ?_; rintro e5 w5 ⟨rfl, h6⟩; have hS5 : Hid (T6W b k w5) := S3.below hS0.out h6 (by exact l1); obtain ⟨s50, s51, s52⟩ := S3.below (W := W.drew) HS2.out h6 (by exact l2); have hF5 : ∀ j, w5.frozen? ⟨b + 1, j, none⟩ = false := fun j => (h6.frozen (p := ⟨b + 1, j, none⟩) (by exact l2)).trans (HF.out j); have hS6 : Hid (T6W b k (((w5.setCell ⟨b + 1, 0, none⟩ (.int .u32 x)).setCell ⟨b + 1, 1, none⟩ (.int .u32 y)).setCell ⟨b + 1, 2, none⟩ (.int .u32 z))) := ((S3.set hS5.out (by simp)).set (by simp)).set (by simp)))
  go_wp2
  have hbb : w.heap.size ≤ b + 1 := by rw [← HB.out]; omega
  refine bodyPost_ret (v := eV x y z) (by simp [results, Try.results50, go_sem, s50, s51, s52]) rfl ⟨rfl, ?_⟩
  exact (((HBW.out.drew.trans (h6.mono HBW.out.size)).setCell (p := ⟨b + 1, 0, none⟩) hbb _).setCell (p := ⟨b + 1, 1, none⟩) hbb _).setCell (p := ⟨b + 1, 2, none⟩) hbb _
abbrev T6U (b k : Nat) (W : World) : Prop := S3 b (.int .i64 k) (.func (.func 52) #[] #[]) (.func (.func 53) #[] #[]) W
set_option maxHeartbeats 3200000 in
theorem takeU_ok (k g n c : Nat) (x y z : Int) (M : List Int) (w : World) (hw : Rw w g M) (h1 : 1 ≤ k) (h2 : k ≤ 256) (hx : k ≤ n) (hc : n ≤ c) (hcm : c ≤ 1048576)
    (hp : ∀ W, Rw W g M → Calls Try.prog 53 #[.slice (some ⟨g, 0, none⟩) k k] W fun e w' => e = .returned (uV x y z) ∧ Below W.heap.size W w') :
    Calls Try.prog 56 #[fU 52 53 k, .slice (some ⟨g, 0, none⟩) n c] w fun e w' => e = .returned (uV x y z) ∧ Below w.heap.size w w' := by
  have HP : Hid (∀ W, Rw W g M → Calls Try.prog 53 #[.slice (some ⟨g, 0, none⟩) k k] W fun e w' => e = .returned (uV x y z) ∧ Below W.heap.size W w') := hp
  have i1 : (0 : Int) ≤ (k : Int) := by omega
  have i2 : (k : Int) ≤ (n : Int) := by omega
  have i3 : (k : Int) ≤ (c : Int) := by omega
  have i4 : k ≤ c := by omega
  have i5 : IntKind.i64.wrap (k : Int) = (k : Int) := by rw [IntKind.wrap_i64]; omega
  have hlt := hw.lt
  have hS1 := (S3.new w (.int .i64 (k : Int)) (.func (.func 52) #[] #[]) (.func (.func 53) #[] #[]) 60).alloc (.cells #[.int .u32 0, .int .u64 0, .int .u64 0] 43)
  have hS2 := S3.new (w.alloc (oU 52 53 k)) (.int .u32 0) (.int .u64 0) (.int .u64 0) 43
  have hF := fun j => show ((w.alloc (oU 52 53 k)).alloc (.cells #[.int .u32 0, .int .u64 0, .int .u64 0] 43)).frozen? ⟨(w.alloc (oU 52 53 k)).heap.size, j, none⟩ = false from frozen_new _ _ _ _
  rw [show (w.alloc (oU 52 53 k)).heap.size = w.heap.size + 1 by simp] at hS2 hF
  obtain ⟨b, hb⟩ : ∃ b, b = w.heap.size := ⟨_, rfl⟩
  obtain ⟨W, hW⟩ : ∃ W, W = (w.alloc (oU 52 53 k)).alloc (.cells #[.int .u32 0, .int .u64 0, .int .u64 0] 43) := ⟨_, rfl⟩
  have hbW : Below w.heap.size w W := by rw [hW]; exact ((Below.refl _ _).alloc (Nat.le_refl _) _).alloc (by simp) _
  have hrW : Rw W g M := by rw [hW]; exact (hw.alloc _).alloc _
  rw [← hW, ← hb] at hS1 hS2 hF
  have l1 := hS1.lt
  have l2 := hS2.lt
  have HW : Hid (W = (w.alloc (oU 52 53 k)).alloc (.cells #[.int .u32 0, .int .u64 0, .int .u64 0] 43)) := hW
  have HB : Hid (b = w.heap.size) := hb
  have hS0 : Hid (T6U b k W.drew) := hS1
  have HS2 : Hid (S3 (b + 1) (.int .u32 0) (.int .u64 0) (.int .u64 0) W) := hS2
  have HF : Hid (∀ j, W.frozen? ⟨b + 1, j, none⟩ = false) := hF
  have HBW : Hid (Below w.heap.size w W) := hbW
  clear hW hb hS1 hS2 hw hp hF hbW
  go_enter Try.func56, Try.ntmps56
  go_wp2
  rw [← HW.out, ← HB.out]
  clear HW
  go_region_held3 (T6U b k) ((first | (with_reducible exact hS5.out) | (with_reducible exact hS0.out) | (with_reducible exact hS6.out)))
    ((go_at_call 53; refine (HP.out _ (by exact hrW)).mono ?_; rintro e5 w5 ⟨rfl, h6⟩; have hS5 : Hid (T6U b k w5) := S3.below hS0.out h6 (by exact l1); obtain ⟨s50, s51, s52⟩ := S3.below (W := W.drew) HS2.out h6 (by exact l2); have hF5 : ∀ j, w5.frozen? ⟨b + 1, j, none⟩ = false := fun j => (h6.frozen (p := ⟨b + 1, j, none⟩) (by exact l2)).trans (HF.out j); have hS6 : Hid (T6U b k (((w5.setCell ⟨b + 1, 0, none⟩ (.int .u32 x)).setCell ⟨b + 1, 1, none⟩ (.int .u64 y)).setCell ⟨b + 1, 2, none⟩ (.int .u64 z))) := ((S3.set hS5.out (by simp)).set (by simp)).set (by simp)))
  go_wp2
  have hbb : w.heap.size ≤ b + 1 := by rw [← HB.out]; omega
  refine bodyPost_ret (v := uV x y z) (by simp [results, Try.results56, go_sem, s50, s51, s52]) rfl ⟨rfl, ?_⟩
  exact (((HBW.out.drew.trans (h6.mono HBW.out.size)).setCell (p := ⟨b + 1, 0, none⟩) hbb _).setCell (p := ⟨b + 1, 1, none⟩) hbb _).setCell (p := ⟨b + 1, 2, none⟩) hbb _
end Rt
end Go.Proofs.Ytfgjhljhjclegaa
