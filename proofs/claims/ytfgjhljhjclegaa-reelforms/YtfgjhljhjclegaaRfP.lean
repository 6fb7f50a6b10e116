import Derived.Test.YtfgjhljhjclegaaRfN
import Derived.Test.YtfgjhljhjclegaaRfO
import Derived.Test.YtfgjhljhjclegaaRtD
namespace Go.Proofs.Ytfgjhljhjclegaa
namespace Rt
open Go.RowKit
set_option linter.unusedVariables false
set_option maxRecDepth 8000
set_option maxHeartbeats 6400000 in
theorem LayS_ok (k g n c : Nat) (s : Nat → Int) (L M : List Int) (w : World) (hw : Rw w g L) (h1 : 1 ≤ k) (h2 : k ≤ 256) (hx : k ≤ n) (hc : n ≤ c) (hcm : c ≤ 1048576)
    (hp : ∀ W, Rw W g L → Calls Try.prog 57 #[.slice (some ⟨g, 0, none⟩) k k, sV s] W fun e w' => e = .returned (.tuple #[]) ∧ Rw w' g M ∧ Bx g W w') :
    Calls Try.prog 25 #[fS 57 58 k, .slice (some ⟨g, 0, none⟩) n c, sV s] w fun e w' => e = .returned (.int .i64 0) ∧ Rw w' g M ∧ Bx g w w' := by
  have HF : Hid (∀ W, Calls Try.prog 59 #[fS 57 58 k, .slice (some ⟨g, 0, none⟩) n c] W fun e w' => e = .returned (.int .i64 0) ∧ Below W.heap.size W w') := fun W => fitsS_ok _ _ k _ n c W (by omega) h1 h2 hx
  have HL : Hid (∀ W, Rw W g L → Calls Try.prog 60 #[fS 57 58 k, .slice (some ⟨g, 0, none⟩) n c, sV s] W fun e w' => e = .returned (.tuple #[]) ∧ Rw w' g M ∧ Bx g W w') := fun W h => layS_ok k g n c s L M W h h1 h2 hx hc hcm hp
  have hlt := hw.lt
  have hS1 := (S3.new w (.int .i64 (k : Int)) (.func (.func 57) #[] #[]) (.func (.func 58) #[] #[]) 69).alloc (.cells #[.int .u64 (s 0), .int .u64 (s 1), .int .u64 (s 2), .int .u64 (s 3), .int .u64 (s 4), .int .u64 (s 5), .int .u64 (s 6), .int .u64 (s 7)] 45)
  have hS2 := S8.new (w.alloc (oS 57 58 k)) s 45
  have hr := (hw.alloc (oS 57 58 k)).alloc (.cells #[.int .u64 (s 0), .int .u64 (s 1), .int .u64 (s 2), .int .u64 (s 3), .int .u64 (s 4), .int .u64 (s 5), .int .u64 (s 6), .int .u64 (s 7)] 45)
  have hbx : Bx g w ((w.alloc (oS 57 58 k)).alloc (.cells #[.int .u64 (s 0), .int .u64 (s 1), .int .u64 (s 2), .int .u64 (s 3), .int .u64 (s 4), .int .u64 (s 5), .int .u64 (s 6), .int .u64 (s 7)] 45)) := ((Bx.refl _ _).alloc _).alloc _
  rw [show (w.alloc (oS 57 58 k)).heap.size = w.heap.size + 1 by simp] at hS2
  clear hp hw
  go_enter Try.func25, Try.ntmps25
  go_wp2_with (fail)
  refine (HF.out _).mono ?_
  rintro e5 w5 ⟨rfl, b5⟩
  have hr5 := hr.kept b5 hr.lt
  obtain ⟨s50, s51, s52⟩ := hS1.below b5 hS1.lt
  obtain ⟨d0, d1, d2, d3, d4, d5, d6, d7⟩ := S8.of hS2 (b5.block _ hS2.lt)
  have e5 := hbx.trans (Bx.of b5)
  clear b5 hr hS1 hS2 hbx
  go_wp2_with (fail)
  refine (HL.out _ hr5).mono ?_
  rintro e7 w7 ⟨rfl, h7, b7⟩
  go_wp2
  go_ret
  exact ⟨rfl, h7, e5.trans b7⟩
set_option maxHeartbeats 6400000 in
theorem LayS_zero (a : Option Addr) (n c : Nat) (s : Nat → Int) (w : World) :
    Calls Try.prog 25 #[.agg #[.int .i64 0, .nilFunc, .nilFunc], .slice a n c, sV s] w fun e w' => e = .returned (.int .i64 2) ∧ Below w.heap.size w w' := by
  go_enter Try.func25, Try.ntmps25
  go_wp2_with (fail)
  refine (fitsS_zero a n c _).mono ?_
  rintro e5 w5 ⟨rfl, b5⟩
  go_wp2
  go_ret
  exact ⟨rfl, (((Below.refl _ _).alloc (Nat.le_refl _) _).alloc (by simp) _).trans (b5.mono (by simp; omega))⟩
set_option maxHeartbeats 6400000 in
theorem TakeS_ok (k g n c : Nat) (s : Nat → Int) (M : List Int) (w : World) (hw : Rw w g M) (h1 : 1 ≤ k) (h2 : k ≤ 256) (hx : k ≤ n) (hc : n ≤ c) (hcm : c ≤ 1048576)
    (hp : ∀ W, Rw W g M → Calls Try.prog 58 #[.slice (some ⟨g, 0, none⟩) k k] W fun e w' => e = .returned (sV s) ∧ Below W.heap.size W w') :
    Calls Try.prog 27 #[fS 57 58 k, .slice (some ⟨g, 0, none⟩) n c] w fun e w' => e = .returned (.tuple #[sV s, .int .i64 0]) ∧ Below w.heap.size w w' := by
  have HF : Hid (∀ W, Calls Try.prog 59 #[fS 57 58 k, .slice (some ⟨g, 0, none⟩) n c] W fun e w' => e = .returned (.int .i64 0) ∧ Below W.heap.size W w') := fun W => fitsS_ok _ _ k _ n c W (by omega) h1 h2 hx
  have HL : Hid (∀ W, Rw W g M → Calls Try.prog 61 #[fS 57 58 k, .slice (some ⟨g, 0, none⟩) n c] W fun e w' => e = .returned (sV s) ∧ Below W.heap.size W w') := fun W h => takeS_ok k g n c s M W h h1 h2 hx hc hcm hp
  have hlt := hw.lt
  have hS1 := (S3.new w (.int .i64 (k : Int)) (.func (.func 57) #[] #[]) (.func (.func 58) #[] #[]) 69).alloc (.cells #[.int .u64 0, .int .u64 0, .int .u64 0, .int .u64 0, .int .u64 0, .int .u64 0, .int .u64 0, .int .u64 0] 45)
  have hS2 := S8.new (w.alloc (oS 57 58 k)) (fun _ => 0) 45
  have hF := frozen_new (w.alloc (oS 57 58 k)) #[.int .u64 0, .int .u64 0, .int .u64 0, .int .u64 0, .int .u64 0, .int .u64 0, .int .u64 0, .int .u64 0] 45
  have hr := (hw.alloc (oS 57 58 k)).alloc (.cells #[.int .u64 0, .int .u64 0, .int .u64 0, .int .u64 0, .int .u64 0, .int .u64 0, .int .u64 0, .int .u64 0] 45)
  have hbx : Below w.heap.size w ((w.alloc (oS 57 58 k)).alloc (.cells #[.int .u64 0, .int .u64 0, .int .u64 0, .int .u64 0, .int .u64 0, .int .u64 0, .int .u64 0, .int .u64 0] 45)) := ((Below.refl _ _).alloc (Nat.le_refl _) _).alloc (by simp) _
  rw [show (w.alloc (oS 57 58 k)).heap.size = w.heap.size + 1 by simp] at hS2 hF
  clear hp hw
  go_enter Try.func27, Try.ntmps27
  go_wp2_with (fail)
  refine (HF.out _).mono ?_
  rintro e5 w5 ⟨rfl, b5⟩
  have hr5 := hr.kept b5 hr.lt
  have S5 := hS1.below b5 hS1.lt
  have T5 := S8.of hS2 (b5.block _ hS2.lt)
  have F5 : ∀ j, w5.frozen? ⟨w.heap.size + 1, j, none⟩ = false := fun j => (b5.frozen (p := ⟨w.heap.size + 1, j, none⟩) hS2.lt).trans (hF j)
  have d5 := hbx.trans (b5.mono hbx.size)
  have HT5 : Hid (S8 (w.heap.size + 1) (fun _ => 0) w5) := T5
  obtain ⟨s50, s51, s52⟩ := S5
  clear b5 hr hS1 hS2 hbx hF T5
  go_wp2_with (fail)
  refine (HL.out _ hr5).mono ?_
  rintro e7 w7 ⟨rfl, b7⟩
  obtain ⟨t0, t1, t2, t3, t4, t5, t6, t7⟩ := S8.of HT5.out (b7.block _ HT5.out.lt)
  have F7 : ∀ j, w7.frozen? ⟨w.heap.size + 1, j, none⟩ = false := fun j => (b7.frozen (p := ⟨w.heap.size + 1, j, none⟩) HT5.out.lt).trans (F5 j)
  have d7 := d5.trans (b7.mono d5.size)
  clear b7 d5 F5 HT5 s50 s51 s52
  go_wp2
  have hbb : w.heap.size ≤ w.heap.size + 1 := by omega
  refine bodyPost_ret (v := .tuple #[sV s, .int .i64 0]) (by simp [results, Try.results27, go_sem, t0, t1, t2, t3, t4, t5, t6, t7]) rfl ⟨rfl, ?_⟩
  exact ((((((((d7.setCell (p := ⟨w.heap.size + 1, 0, none⟩) hbb _).setCell (p := ⟨w.heap.size + 1, 1, none⟩) hbb _).setCell (p := ⟨w.heap.size + 1, 2, none⟩) hbb _).setCell (p := ⟨w.heap.size + 1, 3, none⟩) hbb _).setCell (p := ⟨w.heap.size + 1, 4, none⟩) hbb _).setCell (p := ⟨w.heap.size + 1, 5, none⟩) hbb _).setCell (p := ⟨w.heap.size + 1, 6, none⟩) hbb _).setCell (p := ⟨w.heap.size + 1, 7, none⟩) hbb _)
end Rt
end Go.Proofs.Ytfgjhljhjclegaa
