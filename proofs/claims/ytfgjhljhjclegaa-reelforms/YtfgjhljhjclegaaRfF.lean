import Derived.Test.YtfgjhljhjclegaaRfE
import Derived.Test.YtfgjhljhjclegaaRtD
namespace Go.Proofs.Ytfgjhljhjclegaa
namespace Rt
open Go.RowKit
set_option linter.unusedVariables false
set_option maxRecDepth 8000
abbrev S6P (b k : Nat) (x y z : Int) (W : World) : Prop := S3 b (.int .i64 k) (.func (.func 44) #[] #[]) (.func (.func 45) #[] #[]) W ∧ S3 (b + 1) (.int .u32 x) (.int .u32 y) (.int .u32 z) W
set_option maxHeartbeats 3200000 in
theorem layP_ok (k g n c : Nat) (x y z : Int) (L M : List Int) (w : World) (hw : Rw w g L) (h1 : 1 ≤ k) (h2 : k ≤ 256) (hx : k ≤ n) (hc : n ≤ c) (hcm : c ≤ 1048576)
    (hp : ∀ W, Rw W g L → Calls Try.prog 44 #[.slice (some ⟨g, 0, none⟩) k k, eV x y z] W fun e w' => e = .returned (.tuple #[]) ∧ Rw w' g M ∧ Bx g W w') :
    Calls Try.prog 49 #[fE 44 45 k, .slice (some ⟨g, 0, none⟩) n c, eV x y z] w fun e w' => e = .returned (.tuple #[]) ∧ Rw w' g M ∧ Bx g w w' := by
  have HP : Hid (∀ W, Rw W g L → Calls Try.prog 44 #[.slice (some ⟨g, 0, none⟩) k k, eV x y z] W fun e w' => e = .returned (.tuple #[]) ∧ Rw w' g M ∧ Bx g W w') := hp
  have i1 : (0 : Int) ≤ (k : Int) := by omega
  have i2 : (k : Int) ≤ (n : Int) := by omega
  have i3 : (k : Int) ≤ (c : Int) := by omega
  have i4 : k ≤ c := by omega
  have i5 : IntKind.i64.wrap (k : Int) = (k : Int) := by rw [IntKind.wrap_i64]; omega
  have hlt := hw.lt
  have hS1 := (S3.new w (.int .i64 (k : Int)) (.func (.func 44) #[] #[]) (.func (.func 45) #[] #[]) 49).alloc (.cells #[.int .u32 x, .int .u32 y, .int .u32 z] 40)
  have hS2 := S3.new (w.alloc (oE 44 45 k)) (.int .u32 x) (.int .u32 y) (.int .u32 z) 40
  rw [show (w.alloc (oE 44 45 k)).heap.size = w.heap.size + 1 by simp] at hS2
  obtain ⟨b, hb⟩ : ∃ b, b = w.heap.size := ⟨_, rfl⟩
  obtain ⟨W, hW⟩ : ∃ W, W = (w.alloc (oE 44 45 k)).alloc (.cells #[.int .u32 x, .int .u32 y, .int .u32 z] 40) := ⟨_, rfl⟩
  have hbW : Bx g w W := by rw [hW]; exact ((Bx.refl _ _).alloc _).alloc _
  have hrW : Rw W g L := by rw [hW]; exact (hw.alloc _).alloc _
  rw [← hW, ← hb] at hS1 hS2
  have l1 := hS1.lt
  have l2 := hS2.lt
  have HW : Hid (W = (w.alloc (oE 44 45 k)).alloc (.cells #[.int .u32 x, .int .u32 y, .int .u32 z] 40)) := hW
  have HB : Hid (b = w.heap.size) := hb
  have hne : b ≠ g := by omega
  have hne2 : b + 1 ≠ g := by omega
  have hS0 : Hid (S6P b k x y z W.drew) := ⟨hS1, hS2⟩
  clear hW hb hS1 hS2 hw hp
  go_enter Try.func49, Try.ntmps49
  go_wp2
  rw [← HW.out, ← HB.out]
  go_region_held3 (S6P b k x y z) ((first | (with_reducible exact hS5.out) | (with_reducible exact hS0.out)))
    ((go_at_call 44; refine (HP.out _ (by exact hrW)).mono ?_; rintro e5 w5 ⟨rfl, h5, h6⟩; have hS5 : Hid (S6P b k x y z w5) := ⟨S3.on hS0.out.1 h6 l1 hne, S3.on hS0.out.2 h6 l2 hne2⟩))
  go_wp2
  go_returns
  exact ⟨rfl, h5, hbW.drew.trans h6⟩
abbrev S6W (b k : Nat) (x y z : Int) (W : World) : Prop := S3 b (.int .i64 k) (.func (.func 46) #[] #[]) (.func (.func 47) #[] #[]) W ∧ S3 (b + 1) (.int .u32 x) (.int .u32 y) (.int .u32 z) W
set_option maxHeartbeats 3200000 in
theorem layW_ok (k g n c : Nat) (x y z : Int) (L M : List Int) (w : World) (hw : Rw w g L) (h1 : 1 ≤ k) (h2 : k ≤ 256) (hx : k ≤ n) (hc : n ≤ c) (hcm : c ≤ 1048576)
    (hp : ∀ W, Rw W g L → Calls Try.prog 46 #[.slice (some ⟨g, 0, none⟩) k k, eV x y z] W fun e w' => e = .returned (.tuple #[]) ∧ Rw w' g M ∧ Bx g W w') :
    Calls Try.prog 49 #[fE 46 47 k, .slice (some ⟨g, 0, none⟩) n c, eV x y z] w fun e w' => e = .returned (.tuple #[]) ∧ Rw w' g M ∧ Bx g w w' := by
  have HP : Hid (∀ W, Rw W g L → Calls Try.prog 46 #[.slice (some ⟨g, 0, none⟩) k k, eV x y z] W fun e w' => e = .returned (.tuple #[]) ∧ Rw w' g M ∧ Bx g W w') := hp
  have i1 : (0 : Int) ≤ (k : Int) := by omega
  have i2 : (k : Int) ≤ (n : Int) := by omega
  have i3 : (k : Int) ≤ (c : Int) := by omega
  have i4 : k ≤ c := by omega
  have i5 : IntKind.i64.wrap (k : Int) = (k : Int) := by rw [IntKind.wrap_i64]; omega
  have hlt := hw.lt
  have hS1 := (S3.new w (.int .i64 (k : Int)) (.func (.func 46) #[] #[]) (.func (.func 47) #[] #[]) 49).alloc (.cells #[.int .u32 x, .int .u32 y, .int .u32 z] 40)
  have hS2 := S3.new (w.alloc (oE 46 47 k)) (.int .u32 x) (.int .u32 y) (.int .u32 z) 40
  rw [show (w.alloc (oE 46 47 k)).heap.size = w.heap.size + 1 by simp] at hS2
  obtain ⟨b, hb⟩ : ∃ b, b = w.heap.size := ⟨_, rfl⟩
  obtain ⟨W, hW⟩ : ∃ W, W = (w.alloc (oE 46 47 k)).alloc (.cells #[.int .u32 x, .int .u32 y, .int .u32 z] 40) := ⟨_, rfl⟩
  have hbW : Bx g w W := by rw [hW]; exact ((Bx.refl _ _).alloc _).alloc _
  have hrW : Rw W g L := by rw [hW]; exact (hw.alloc _).alloc _
  rw [← hW, ← hb] at hS1 hS2
  have l1 := hS1.lt
  have l2 := hS2.lt
  have HW : Hid (W = (w.alloc (oE 46 47 k)).alloc (.cells #[.int .u32 x, .int .u32 y, .int .u32 z] 40)) := hW
  have HB : Hid (b = w.heap.size) := hb
  have hne : b ≠ g := by omega
  have hne2 : b + 1 ≠ g := by omega
  have hS0 : Hid (S6W b k x y z W.drew) := ⟨hS1, hS2⟩
  clear hW hb hS1 hS2 hw hp
  go_enter Try.func49, Try.ntmps49
  go_wp2
  rw [← HW.out, ← HB.out]
  go_region_held3 (S6W b k x y z) ((first | (with_reducible exact hS5.out) | (with_reducible exact hS0.out)))
    ((go_at_call 46; refine (HP.out _ (by exact hrW)).mono ?_; rintro e5 w5 ⟨rfl, h5, h6⟩; have hS5 : Hid (S6W b k x y z w5) := ⟨S3.on hS0.out.1 h6 l1 hne, S3.on hS0.out.2 h6 l2 hne2⟩))
  go_wp2
  go_returns
  exact ⟨rfl, h5, hbW.drew.trans h6⟩
abbrev S6U (b k : Nat) (x y z : Int) (W : World) : Prop := S3 b (.int .i64 k) (.func (.func 52) #[] #[]) (.func (.func 53) #[] #[]) W ∧ S3 (b + 1) (.int .u32 x) (.int .u64 y) (.int .u64 z) W
set_option maxHeartbeats 3200000 in
theorem layU_ok (k g n c : Nat) (x y z : Int) (L M : List Int) (w : World) (hw : Rw w g L) (h1 : 1 ≤ k) (h2 : k ≤ 256) (hx : k ≤ n) (hc : n ≤ c) (hcm : c ≤ 1048576)
    (hp : ∀ W, Rw W g L → Calls Try.prog 52 #[.slice (some ⟨g, 0, none⟩) k k, uV x y z] W fun e w' => e = .returned (.tuple #[]) ∧ Rw w' g M ∧ Bx g W w') :
    Calls Try.prog 55 #[fU 52 53 k, .slice (some ⟨g, 0, none⟩) n c, uV x y z] w fun e w' => e = .returned (.tuple #[]) ∧ Rw w' g M ∧ Bx g w w' := by
  have HP : Hid (∀ W, Rw W g L → Calls Try.prog 52 #[.slice (some ⟨g, 0, none⟩) k k, uV x y z] W fun e w' => e = .returned (.tuple #[]) ∧ Rw w' g M ∧ Bx g W w') := hp
  have i1 : (0 : Int) ≤ (k : Int) := by omega
  have i2 : (k : Int) ≤ (n : Int) := by omega
  have i3 : (k : Int) ≤ (c : Int) := by omega
  have i4 : k ≤ c := by omega
  have i5 : IntKind.i64.wrap (k : Int) = (k : Int) := by rw [IntKind.wrap_i64]; omega
  have hlt := hw.lt
  have hS1 := (S3.new w (.int .i64 (k : Int)) (.func (.func 52) #[] #[]) (.func (.func 53) #[] #[]) 60).alloc (.cells #[.int .u32 x, .int .u64 y, .int .u64 z] 43)
  have hS2 := S3.new (w.alloc (oU 52 53 k)) (.int .u32 x) (.int .u64 y) (.int .u64 z) 43
  rw [show (w.alloc (oU 52 53 k)).heap.size = w.heap.size + 1 by simp] at hS2
  obtain ⟨b, hb⟩ : ∃ b, b = w.heap.size := ⟨_, rfl⟩
  obtain ⟨W, hW⟩ : ∃ W, W = (w.alloc (oU 52 53 k)).alloc (.cells #[.int .u32 x, .int .u64 y, .int .u64 z] 43) := ⟨_, rfl⟩
  have hbW : Bx g w W := by rw [hW]; exact ((Bx.refl _ _).alloc _).alloc _
  have hrW : Rw W g L := by rw [hW]; exact (hw.alloc _).alloc _
  rw [← hW, ← hb] at hS1 hS2
  have l1 := hS1.lt
  have l2 := hS2.lt
  have HW : Hid (W = (w.alloc (oU 52 53 k)).alloc (.cells #[.int .u32 x, .int .u64 y, .int .u64 z] 43)) := hW
  have HB : Hid (b = w.heap.size) := hb
  have hne : b ≠ g := by omega
  have hne2 : b + 1 ≠ g := by omega
  have hS0 : Hid (S6U b k x y z W.drew) := ⟨hS1, hS2⟩
  clear hW hb hS1 hS2 hw hp
  go_enter Try.func55, Try.ntmps55
  go_wp2
  rw [← HW.out, ← HB.out]
  go_region_held3 (S6U b k x y z) ((first | (with_reducible exact hS5.out) | (with_reducible exact hS0.out)))
    ((go_at_call 52; refine (HP.out _ (by exact hrW)).mono ?_; rintro e5 w5 ⟨rfl, h5, h6⟩; have hS5 : Hid (S6U b k x y z w5) := ⟨S3.on hS0.out.1 h6 l1 hne, S3.on hS0.out.2 h6 l2 hne2⟩))
  go_wp2
  go_returns
  exact ⟨rfl, h5, hbW.drew.trans h6⟩
end Rt
end Go.Proofs.Ytfgjhljhjclegaa
