import Derived.Test.YtfgjhljhjclegaaRfF
import Derived.Test.YtfgjhljhjclegaaRfG
import Derived.Test.YtfgjhljhjclegaaRtD
namespace Go.Proofs.Ytfgjhljhjclegaa
namespace Rt
open Go.RowKit
set_option linter.unusedVariables false
set_option maxRecDepth 8000
set_option maxHeartbeats 3200000 in
theorem LayP_ok (k g n c : Nat) (x y z : Int) (L M : List Int) (w : World) (hw : Rw w g L) (h1 : 1 ≤ k) (h2 : k ≤ 256) (hx : k ≤ n) (hc : n ≤ c) (hcm : c ≤ 1048576)
    (hp : ∀ W, Rw W g L → Calls Try.prog 44 #[.slice (some ⟨g, 0, none⟩) k k, eV x y z] W fun e w' => e = .returned (.tuple #[]) ∧ Rw w' g M ∧ Bx g W w') :
    Calls Try.prog 15 #[fE 44 45 k, .slice (some ⟨g, 0, none⟩) n c, eV x y z] w fun e w' => e = .returned (.int .i64 0) ∧ Rw w' g M ∧ Bx g w w' := by
  have HF : Hid (∀ W, Calls Try.prog 48 #[fE 44 45 k, .slice (some ⟨g, 0, none⟩) n c] W fun e w' => e = .returned (.int .i64 0) ∧ Below W.heap.size W w') := fun W => fitsE_ok _ _ k _ n c W (by omega) h1 h2 hx
  have HL : Hid (∀ W, Rw W g L → Calls Try.prog 49 #[fE 44 45 k, .slice (some ⟨g, 0, none⟩) n c, eV x y z] W fun e w' => e = .returned (.tuple #[]) ∧ Rw w' g M ∧ Bx g W w') := fun W h => layP_ok k g n c x y z L M W h h1 h2 hx hc hcm hp
  have hlt := hw.lt
  have hS1 := (S3.new w (.int .i64 (k : Int)) (.func (.func 44) #[] #[]) (.func (.func 45) #[] #[]) 49).alloc (.cells #[.int .u32 x, .int .u32 y, .int .u32 z] 40)
  have hS2 := S3.new (w.alloc (oE 44 45 k)) (.int .u32 x) (.int .u32 y) (.int .u32 z) 40
  have hr := (hw.alloc (oE 44 45 k)).alloc (.cells #[.int .u32 x, .int .u32 y, .int .u32 z] 40)
  have hbx : Bx g w ((w.alloc (oE 44 45 k)).alloc (.cells #[.int .u32 x, .int .u32 y, .int .u32 z] 40)) := ((Bx.refl _ _).alloc _).alloc _
  rw [show (w.alloc (oE 44 45 k)).heap.size = w.heap.size + 1 by simp] at hS2
  clear hp hw
  go_enter Try.func15, Try.ntmps15
  go_wp2_with (fail)
  refine (HF.out _).mono ?_
  rintro e5 w5 ⟨rfl, b5⟩
  have hr5 := hr.kept b5 hr.lt
  obtain ⟨s50, s51, s52⟩ := hS1.below b5 hS1.lt
  obtain ⟨t50, t51, t52⟩ := hS2.below b5 hS2.lt
  have d5 := hbx.trans (Bx.of b5)
  clear b5 hr hS1 hS2 hbx
  go_wp2_with (fail)
  refine (HL.out _ hr5).mono ?_
  rintro e7 w7 ⟨rfl, h7, b7⟩
  go_wp2
  go_ret
  exact ⟨rfl, h7, d5.trans b7⟩
set_option maxHeartbeats 3200000 in
theorem TakeP_ok (k g n c : Nat) (x y z : Int) (M : List Int) (w : World) (hw : Rw w g M) (h1 : 1 ≤ k) (h2 : k ≤ 256) (hx : k ≤ n) (hc : n ≤ c) (hcm : c ≤ 1048576)
    (hp : ∀ W, Rw W g M → Calls Try.prog 45 #[.slice (some ⟨g, 0, none⟩) k k] W fun e w' => e = .returned (eV x y z) ∧ Below W.heap.size W w') :
    Calls Try.prog 17 #[fE 44 45 k, .slice (some ⟨g, 0, none⟩) n c] w fun e w' => e = .returned (.tuple #[eV x y z, .int .i64 0]) ∧ Below w.heap.size w w' := by
  have HF : Hid (∀ W, Calls Try.prog 48 #[fE 44 45 k, .slice (some ⟨g, 0, none⟩) n c] W fun e w' => e = .returned (.int .i64 0) ∧ Below W.heap.size W w') := fun W => fitsE_ok _ _ k _ n c W (by omega) h1 h2 hx
  have HL : Hid (∀ W, Rw W g M → Calls Try.prog 50 #[fE 44 45 k, .slice (some ⟨g, 0, none⟩) n c] W fun e w' => e = .returned (eV x y z) ∧ Below W.heap.size W w') := fun W h => takeP_ok k g n c x y z M W h h1 h2 hx hc hcm hp
  have hlt := hw.lt
  have hS1 := (S3.new w (.int .i64 (k : Int)) (.func (.func 44) #[] #[]) (.func (.func 45) #[] #[]) 49).alloc (.cells #[.int .u32 0, .int .u32 0, .int .u32 0] 40)
  have hS2 := S3.new (w.alloc (oE 44 45 k)) (.int .u32 0) (.int .u32 0) (.int .u32 0) 40
  have hF := fun j => show ((w.alloc (oE 44 45 k)).alloc (.cells #[.int .u32 0, .int .u32 0, .int .u32 0] 40)).frozen? ⟨(w.alloc (oE 44 45 k)).heap.size, j, none⟩ = false from frozen_new _ _ _ _
  have hr := (hw.alloc (oE 44 45 k)).alloc (.cells #[.int .u32 0, .int .u32 0, .int .u32 0] 40)
  have hbx : Below w.heap.size w ((w.alloc (oE 44 45 k)).alloc (.cells #[.int .u32 0, .int .u32 0, .int .u32 0] 40)) := ((Below.refl _ _).alloc (Nat.le_refl _) _).alloc (by simp) _
  rw [show (w.alloc (oE 44 45 k)).heap.size = w.heap.size + 1 by simp] at hS2 hF
  clear hp hw
  go_enter Try.func17, Try.ntmps17
  go_wp2_with (fail)
  refine (HF.out _).mono ?_
  rintro e5 w5 ⟨rfl, b5⟩
  have hr5 := hr.kept b5 hr.lt
  have S5 := hS1.below b5 hS1.lt
  have T5 := hS2.below b5 hS2.lt
  have F5 : ∀ j, w5.frozen? ⟨w.heap.size + 1, j, none⟩ = false := fun j => (b5.frozen (p := ⟨w.heap.size + 1, j, none⟩) hS2.lt).trans (hF j)
  have d5 := hbx.trans (b5.mono hbx.size)
  have HT5 : Hid (S3 (w.heap.size + 1) (.int .u32 0) (.int .u32 0) (.int .u32 0) w5) := T5
  obtain ⟨s50, s51, s52⟩ := S5
  clear b5 hr hS1 hS2 hbx hF T5
  go_wp2_with (fail)
  refine (HL.out _ hr5).mono ?_
  rintro e7 w7 ⟨rfl, b7⟩
  obtain ⟨t70, t71, t72⟩ := HT5.out.below b7 HT5.out.lt
  have F7 : ∀ j, w7.frozen? ⟨w.heap.size + 1, j, none⟩ = false := fun j => (b7.frozen (p := ⟨w.heap.size + 1, j, none⟩) HT5.out.lt).trans (F5 j)
  have d7 := d5.trans (b7.mono d5.size)
  clear b7 d5 F5 HT5 s50 s51 s52
  go_wp2
  have hbb : w.heap.size ≤ w.heap.size + 1 := by omega
  refine bodyPost_ret (v := .tuple #[eV x y z, .int .i64 0]) (by simp [results, Try.results17, go_sem, t70, t71, t72]) rfl ⟨rfl, ?_⟩
  exact ((d7.setCell (p := ⟨w.heap.size + 1, 0, none⟩) hbb _).setCell (p := ⟨w.heap.size + 1, 1, none⟩) hbb _).setCell (p := ⟨w.heap.size + 1, 2, none⟩) hbb _
set_option maxHeartbeats 3200000 in
theorem LayW_ok (k g n c : Nat) (x y z : Int) (L M : List Int) (w : World) (hw : Rw w g L) (h1 : 1 ≤ k) (h2 : k ≤ 256) (hx : k ≤ n) (hc : n ≤ c) (hcm : c ≤ 1048576)
    (hp : ∀ W, Rw W g L → Calls Try.prog 46 #[.slice (some ⟨g, 0, none⟩) k k, eV x y z] W fun e w' => e = .returned (.tuple #[]) ∧ Rw w' g M ∧ Bx g W w') :
    Calls Try.prog 15 #[fE 46 47 k, .slice (some ⟨g, 0, none⟩) n c, eV x y z] w fun e w' => e = .returned (.int .i64 0) ∧ Rw w' g M ∧ Bx g w w' := by
  have HF : Hid (∀ W, Calls Try.prog 48 #[fE 46 47 k, .slice (some ⟨g, 0, none⟩) n c] W fun e w' => e = .returned (.int .i64 0) ∧ Below W.heap.size W w') := fun W => fitsE_ok _ _ k _ n c W (by omega) h1 h2 hx
  have HL : Hid (∀ W, Rw W g L → Calls Try.prog 49 #[fE 46 47 k, .slice (some ⟨g, 0, none⟩) n c, eV x y z] W fun e w' => e = .returned (.tuple #[]) ∧ Rw w' g M ∧ Bx g W w') := fun W h => layW_ok k g n c x y z L M W h h1 h2 hx hc hcm hp
  have hlt := hw.lt
  have hS1 := (S3.new w (.int .i64 (k : Int)) (.func (.func 46) #[] #[]) (.func (.func 47) #[] #[]) 49).alloc (.cells #[.int .u32 x, .int .u32 y, .int .u32 z] 40)
  have hS2 := S3.new (w.alloc (oE 46 47 k)) (.int .u32 x) (.int .u32 y) (.int .u32 z) 40
  have hr := (hw.alloc (oE 46 47 k)).alloc (.cells #[.int .u32 x, .int .u32 y, .int .u32 z] 40)
  have hbx : Bx g w ((w.alloc (oE 46 47 k)).alloc (.cells #[.int .u32 x, .int .u32 y, .int .u32 z] 40)) := ((Bx.refl _ _).alloc _).alloc _
  rw [show (w.alloc (oE 46 47 k)).heap.size = w.heap.size + 1 by simp] at hS2
  clear hp hw
  go_enter Try.func15, Try.ntmps15
  go_wp2_with (fail)
  refine (HF.out _).mono ?_
  rintro e5 w5 ⟨rfl, b5⟩
  have hr5 := hr.kept b5 hr.lt
  obtain ⟨s50, s51, s52⟩ := hS1.below b5 hS1.lt
  obtain ⟨t50, t51, t52⟩ := hS2.below b5 hS2.lt
  have d5 := hbx.trans (Bx.of b5)
  clear b5 hr hS1 hS2 hbx
  go_wp2_with (fail)
  refine (HL.out _ hr5).mono ?_
  rintro e7 w7 ⟨rfl, h7, b7⟩
  go_wp2
  go_ret
  exact ⟨rfl, h7, d5.trans b7⟩
set_option maxHeartbeats 3200000 in
theorem TakeW_ok (k g n c : Nat) (x y z : Int) (M : List Int) (w : World) (hw : Rw w g M) (h1 : 1 ≤ k) (h2 : k ≤ 256) (hx : k ≤ n) (hc : n ≤ c) (hcm : c ≤ 1048576)
    (hp : ∀ W, Rw W g M → Calls Try.prog 47 #[.slice (some ⟨g, 0, none⟩) k k] W fun e w' => e = .returned (eV x y z) ∧ Below W.heap.size W w') :
    Calls Try.prog 17 #[fE 46 47 k, .slice (some ⟨g, 0, none⟩) n c] w fun e w' => e = .returned (.tuple #[eV x y z, .int .i64 0]) ∧ Below w.heap.size w w' := by
  have HF : Hid (∀ W, Calls Try.prog 48 #[fE 46 47 k, .slice (some ⟨g, 0, none⟩) n c] W fun e w' => e = .returned (.int .i64 0) ∧ Below W.heap.size W w') := fun W => fitsE_ok _ _ k _ n c W (by omega) h1 h2 hx
  have HL : Hid (∀ W, Rw W g M → Calls Try.prog 50 #[fE 46 47 k, .slice (some ⟨g, 0, none⟩) n c] W fun e w' => e = .returned (eV x y z) ∧ Below W.heap.size W w') := fun W h => takeW_ok k g n c x y z M W h h1 h2 hx hc hcm hp
  have hlt := hw.lt
  have hS1 := (S3.new w (.int .i64 (k : Int)) (.func (.func 46) #[] #[]) (.func (.func 47) #[] #[]) 49).alloc (.cells #[.int .u32 0, .int .u32 0, .int .u32 0] 40)
  have hS2 := S3.new (w.alloc (oE 46 47 k)) (.int .u32 0) (.int .u32 0) (.int .u32 0) 40
  have hF := fun j => show ((w.alloc (oE 46 47 k)).alloc (.cells #[.int .u32 0, .int .u32 0, .int .u32 0] 40)).frozen? ⟨(w.alloc (oE 46 47 k)).heap.size, j, none⟩ = false from frozen_new _ _ _ _
  have hr := (hw.alloc (oE 46 47 k)).alloc (.cells #[.int .u32 0, .int .u32 0, .int .u32 0] 40)
  have hbx : Below w.heap.size w ((w.alloc (oE 46 47 k)).alloc (.cells #[.int .u32 0, .int .u32 0, .int .u32 0] 40)) := ((Below.refl _ _).alloc (Nat.le_refl _) _).alloc (by simp) _
  rw [show (w.alloc (oE 46 47 k)).heap.size = w.heap.size + 1 by simp] at hS2 hF
  clear hp hw
  go_enter Try.func17, Try.ntmps17
  go_wp2_with (fail)
  refine (HF.out _).mono ?_
  rintro e5 w5 ⟨rfl, b5⟩
  have hr5 := hr.kept b5 hr.lt
  have S5 := hS1.below b5 hS1.lt
  have T5 := hS2.below b5 hS2.lt
  have F5 : ∀ j, w5.frozen? ⟨w.heap.size + 1, j, none⟩ = false := fun j => (b5.frozen (p := ⟨w.heap.size + 1, j, none⟩) hS2.lt).trans (hF j)
  have d5 := hbx.trans (b5.mono hbx.size)
  have HT5 : Hid (S3 (w.heap.size + 1) (.int .u32 0) (.int .u32 0) (.int .u32 0) w5) := T5
  obtain ⟨s50, s51, s52⟩ := S5
  clear b5 hr hS1 hS2 hbx hF T5
  go_wp2_with (fail)
  refine (HL.out _ hr5).mono ?_
  rintro e7 w7 ⟨rfl, b7⟩
  obtain ⟨t70, t71, t72⟩ := HT5.out.below b7 HT5.out.lt
  have F7 : ∀ j, w7.frozen? ⟨w.heap.size + 1, j, none⟩ = false := fun j => (b7.frozen (p := ⟨w.heap.size + 1, j, none⟩) HT5.out.lt).trans (F5 j)
  have d7 := d5.trans (b7.mono d5.size)
  clear b7 d5 F5 HT5 s50 s51 s52
  go_wp2
  have hbb : w.heap.size ≤ w.heap.size + 1 := by omega
  refine bodyPost_ret (v := .tuple #[eV x y z, .int .i64 0]) (by simp [results, Try.results17, go_sem, t70, t71, t72]) rfl ⟨rfl, ?_⟩
  exact ((d7.setCell (p := ⟨w.heap.size + 1, 0, none⟩) hbb _).setCell (p := ⟨w.heap.size + 1, 1, none⟩) hbb _).setCell (p := ⟨w.heap.size + 1, 2, none⟩) hbb _
set_option maxHeartbeats 3200000 in
theorem LayU_ok (k g n c : Nat) (x y z : Int) (L M : List Int) (w : World) (hw : Rw w g L) (h1 : 1 ≤ k) (h2 : k ≤ 256) (hx : k ≤ n) (hc : n ≤ c) (hcm : c ≤ 1048576)
    (hp : ∀ W, Rw W g L → Calls Try.prog 52 #[.slice (some ⟨g, 0, none⟩) k k, uV x y z] W fun e w' => e = .returned (.tuple #[]) ∧ Rw w' g M ∧ Bx g W w') :
    Calls Try.prog 20 #[fU 52 53 k, .slice (some ⟨g, 0, none⟩) n c, uV x y z] w fun e w' => e = .returned (.int .i64 0) ∧ Rw w' g M ∧ Bx g w w' := by
  have HF : Hid (∀ W, Calls Try.prog 54 #[fU 52 53 k, .slice (some ⟨g, 0, none⟩) n c] W fun e w' => e = .returned (.int .i64 0) ∧ Below W.heap.size W w') := fun W => fitsU_ok _ _ k _ n c W (by omega) h1 h2 hx
  have HL : Hid (∀ W, Rw W g L → Calls Try.prog 55 #[fU 52 53 k, .slice (some ⟨g, 0, none⟩) n c, uV x y z] W fun e w' => e = .returned (.tuple #[]) ∧ Rw w' g M ∧ Bx g W w') := fun W h => layU_ok k g n c x y z L M W h h1 h2 hx hc hcm hp
  have hlt := hw.lt
  have hS1 := (S3.new w (.int .i64 (k : Int)) (.func (.func 52) #[] #[]) (.func (.func 53) #[] #[]) 60).alloc (.cells #[.int .u32 x, .int .u64 y, .int .u64 z] 43)
  have hS2 := S3.new (w.alloc (oU 52 53 k)) (.int .u32 x) (.int .u64 y) (.int .u64 z) 43
  have hr := (hw.alloc (oU 52 53 k)).alloc (.cells #[.int .u32 x, .int .u64 y, .int .u64 z] 43)
  have hbx : Bx g w ((w.alloc (oU 52 53 k)).alloc (.cells #[.int .u32 x, .int .u64 y, .int .u64 z] 43)) := ((Bx.refl _ _).alloc _).alloc _
  rw [show (w.alloc (oU 52 53 k)).heap.size = w.heap.size + 1 by simp] at hS2
  clear hp hw
  go_enter Try.func20, Try.ntmps20
  go_wp2_with (fail)
  refine (HF.out _).mono ?_
  rintro e5 w5 ⟨rfl, b5⟩
  have hr5 := hr.kept b5 hr.lt
  obtain ⟨s50, s51, s52⟩ := hS1.below b5 hS1.lt
  obtain ⟨t50, t51, t52⟩ := hS2.below b5 hS2.lt
  have d5 := hbx.trans (Bx.of b5)
  clear b5 hr hS1 hS2 hbx
  go_wp2_with (fail)
  refine (HL.out _ hr5).mono ?_
  rintro e7 w7 ⟨rfl, h7, b7⟩
  go_wp2
  go_ret
  exact ⟨rfl, h7, d5.trans b7⟩
set_option maxHeartbeats 3200000 in
theorem TakeU_ok (k g n c : Nat) (x y z : Int) (M : List Int) (w : World) (hw : Rw w g M) (h1 : 1 ≤ k) (h2 : k ≤ 256) (hx : k ≤ n) (hc : n ≤ c) (hcm : c ≤ 1048576)
    (hp : ∀ W, Rw W g M → Calls Try.prog 53 #[.slice (some ⟨g, 0, none⟩) k k] W fun e w' => e = .returned (uV x y z) ∧ Below W.heap.size W w') :
    Calls Try.prog 21 #[fU 52 53 k, .slice (some ⟨g, 0, none⟩) n c] w fun e w' => e = .returned (.tuple #[uV x y z, .int .i64 0]) ∧ Below w.heap.size w w' := by
  have HF : Hid (∀ W, Calls Try.prog 54 #[fU 52 53 k, .slice (some ⟨g, 0, none⟩) n c] W fun e w' => e = .returned (.int .i64 0) ∧ Below W.heap.size W w') := fun W => fitsU_ok _ _ k _ n c W (by omega) h1 h2 hx
  have HL : Hid (∀ W, Rw W g M → Calls Try.prog 56 #[fU 52 53 k, .slice (some ⟨g, 0, none⟩) n c] W fun e w' => e = .returned (uV x y z) ∧ Below W.heap.size W w') := fun W h => takeU_ok k g n c x y z M W h h1 h2 hx hc hcm hp
  have hlt := hw.lt
  have hS1 := (S3.new w (.int .i64 (k : Int)) (.func (.func 52) #[] #[]) (.func (.func 53) #[] #[]) 60).alloc (.cells #[.int .u32 0, .int .u64 0, .int .u64 0] 43)
  have hS2 := S3.new (w.alloc (oU 52 53 k)) (.int .u32 0) (.int .u64 0) (.int .u64 0) 43
  have hF := fun j => show ((w.alloc (oU 52 53 k)).alloc (.cells #[.int .u32 0, .int .u64 0, .int .u64 0] 43)).frozen? ⟨(w.alloc (oU 52 53 k)).heap.size, j, none⟩ = false from frozen_new _ _ _ _
  have hr := (hw.alloc (oU 52 53 k)).alloc (.cells #[.int .u32 0, .int .u64 0, .int .u64 0] 43)
  have hbx : Below w.heap.size w ((w.alloc (oU 52 53 k)).alloc (.cells #[.int .u32 0, .int .u64 0, .int .u64 0] 43)) := ((Below.refl _ _).alloc (Nat.le_refl _) _).alloc (by simp) _
  rw [show (w.alloc (oU 52 53 k)).heap.size = w.heap.size + 1 by simp] at hS2 hF
  clear hp hw
  go_enter Try.func21, Try.ntmps21
  go_wp2_with (fail)
  refine (HF.out _).mono ?_
  rintro e5 w5 ⟨rfl, b5⟩
  have hr5 := hr.kept b5 hr.lt
  have S5 := hS1.below b5 hS1.lt
  have T5 := hS2.below b5 hS2.lt
  have F5 : ∀ j, w5.frozen? ⟨w.heap.size + 1, j, none⟩ = false := fun j => (b5.frozen (p := ⟨w.heap.size + 1, j, none⟩) hS2.lt).trans (hF j)
  have d5 := hbx.trans (b5.mono hbx.size)
  have HT5 : Hid (S3 (w.heap.size + 1) (.int .u32 0) (.int .u64 0) (.int .u64 0) w5) := T5
  obtain ⟨s50, s51, s52⟩ := S5
  clear b5 hr hS1 hS2 hbx hF T5
  go_wp2_with (fail)
  refine (HL.out _ hr5).mono ?_
  rintro e7 w7 ⟨rfl, b7⟩
  obtain ⟨t70, t71, t72⟩ := HT5.out.below b7 HT5.out.lt
  have F7 : ∀ j, w7.frozen? ⟨w.heap.size + 1, j, none⟩ = false := fun j => (b7.frozen (p := ⟨w.heap.size + 1, j, none⟩) HT5.out.lt).trans (F5 j)
  have d7 := d5.trans (b7.mono d5.size)
  clear b7 d5 F5 HT5 s50 s51 s52
  go_wp2
  have hbb : w.heap.size ≤ w.heap.size + 1 := by omega
  refine bodyPost_ret (v := .tuple #[uV x y z, .int .i64 0]) (by simp [results, Try.results21, go_sem, t70, t71, t72]) rfl ⟨rfl, ?_⟩
  exact ((d7.setCell (p := ⟨w.heap.size + 1, 0, none⟩) hbb _).setCell (p := ⟨w.heap.size + 1, 1, none⟩) hbb _).setCell (p := ⟨w.heap.size + 1, 2, none⟩) hbb _
end Rt
end Go.Proofs.Ytfgjhljhjclegaa
