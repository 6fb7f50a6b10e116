import Derived.Test.YtfgjhljhjclegaaRfE
namespace Go.Proofs.Ytfgjhljhjclegaa
namespace Rt
open Go.RowKit
set_option linter.unusedVariables false
set_option maxRecDepth 8000
abbrev zF : Value := .agg #[.int .i64 0, .nilFunc, .nilFunc]
theorem b1 (w : World) (o1 : Obj) : Below w.heap.size w (w.alloc o1) := (Below.refl _ _).alloc (Nat.le_refl _) _
theorem b2 (w : World) (o1 o2 : Obj) : Below w.heap.size w ((w.alloc o1).alloc o2) := (b1 w o1).alloc (by simp) _
theorem b3 (w : World) (o1 o2 o3 : Obj) : Below w.heap.size w (((w.alloc o1).alloc o2).alloc o3) := (b2 w o1 o2).alloc (by simp; omega) _
set_option maxHeartbeats 1600000 in
theorem LayE_zero (a : Option Addr) (n c : Nat) (x y z : Int) (w : World) :
    Calls Try.prog 15 #[zF, .slice a n c, eV x y z] w fun e w' => e = .returned (.int .i64 2) ∧ Below w.heap.size w w' := by
  go_enter Try.func15, Try.ntmps15
  go_wp2_with (fail)
  refine (fitsE_zero a n c _).mono ?_
  rintro e5 w5 ⟨rfl, b5⟩
  go_wp2
  go_ret
  exact ⟨rfl, (b2 w _ _).trans (b5.mono (by simp; omega))⟩
set_option maxHeartbeats 1600000 in
theorem LayU_short (p q k n c : Nat) (a : Option Addr) (x y z : Int) (w : World) (hn : n ≤ 1048576) (h1 : 1 ≤ k) (h2 : k ≤ 256) (hx : n < k) :
    Calls Try.prog 20 #[fU p q k, .slice a n c, uV x y z] w fun e w' => e = .returned (.int .i64 67) ∧ Below w.heap.size w w' := by
  go_enter Try.func20, Try.ntmps20
  go_wp2_with (fail)
  refine (fitsU_short p q k a n c _ hn h1 h2 hx).mono ?_
  rintro e5 w5 ⟨rfl, b5⟩
  go_wp2
  go_ret
  exact ⟨rfl, (b2 w _ _).trans (b5.mono (by simp; omega))⟩
set_option maxHeartbeats 1600000 in
theorem TakeU_short (p q k n c : Nat) (a : Option Addr) (w : World) (hn : n ≤ 1048576) (h1 : 1 ≤ k) (h2 : k ≤ 256) (hx : n < k) :
    Calls Try.prog 21 #[fU p q k, .slice a n c] w fun e w' => e = .returned (.tuple #[uV 0 0 0, .int .i64 67]) ∧ Below w.heap.size w w' := by
  have hS2 := S3.new (w.alloc (oU p q k)) (.int .u32 0) (.int .u64 0) (.int .u64 0) 43
  have hF := fun j => show ((w.alloc (oU p q k)).alloc (.cells #[.int .u32 0, .int .u64 0, .int .u64 0] 43)).frozen? ⟨(w.alloc (oU p q k)).heap.size, j, none⟩ = false from frozen_new _ _ _ _
  rw [show (w.alloc (oU p q k)).heap.size = w.heap.size + 1 by simp] at hS2 hF
  go_enter Try.func21, Try.ntmps21
  go_wp2_with (fail)
  refine (fitsU_short p q k a n c _ hn h1 h2 hx).mono ?_
  rintro e5 w5 ⟨rfl, b5⟩
  have T5 := hS2.below b5 hS2.lt
  have F5 : ∀ j, w5.frozen? ⟨w.heap.size + 1, j, none⟩ = false := fun j => (b5.frozen (p := ⟨w.heap.size + 1, j, none⟩) hS2.lt).trans (hF j)
  have d5 := (b2 w (oU p q k) (.cells #[.int .u32 0, .int .u64 0, .int .u64 0] 43)).trans (b5.mono (by simp; omega))
  have A0 : ∀ o, (w5.alloc o).cell? ⟨w.heap.size + 1, 0, none⟩ = some (.int .u32 0) := fun o => (T5.alloc o).1
  have A1 : ∀ o, (w5.alloc o).cell? ⟨w.heap.size + 1, 1, none⟩ = some (.int .u64 0) := fun o => (T5.alloc o).2.1
  have A2 : ∀ o, (w5.alloc o).cell? ⟨w.heap.size + 1, 2, none⟩ = some (.int .u64 0) := fun o => (T5.alloc o).2.2
  have F : ∀ o j, (w5.alloc o).frozen? ⟨w.heap.size + 1, j, none⟩ = false := fun o j => by
    rw [← F5 j]; exact World.frozen?_of_block (Below.heap_alloc w5 o _ T5.lt)
  clear b5 hS2 hF T5 F5
  go_wp2
  have hbb : w.heap.size ≤ w.heap.size + 1 := by omega
  refine bodyPost_ret (v := .tuple #[uV 0 0 0, .int .i64 67]) (by simp [results, Try.results21, go_sem, A0, A1, A2]) rfl ⟨rfl, ?_⟩
  exact (((d5.alloc d5.size _).setCell (p := ⟨w.heap.size + 1, 0, none⟩) hbb _).setCell (p := ⟨w.heap.size + 1, 1, none⟩) hbb _).setCell (p := ⟨w.heap.size + 1, 2, none⟩) hbb _
theorem edgeForm_1 (w : World) : Calls Try.prog 14 #[.int .i64 1] w fun e w' => e = .returned (.tuple #[fE 44 45 8, .int .i64 0]) ∧ Below w.heap.size w w' := by
  go_enter Try.func14, Try.ntmps14
  go_wp2
  exact bodyPost_ret (v := .tuple #[fE 44 45 8, .int .i64 0]) (by simp [results, Try.results14, go_sem]) rfl ⟨rfl, b1 w _⟩
theorem edgeForm_23 (k : Int) (h : k = 2 ∨ k = 3) (w : World) : Calls Try.prog 14 #[.int .i64 k] w fun e w' => e = .returned (.tuple #[fE 46 47 12, .int .i64 0]) ∧ Below w.heap.size w w' := by
  rcases h with rfl | rfl
  · go_enter Try.func14, Try.ntmps14
    go_wp2
    exact bodyPost_ret (v := .tuple #[fE 46 47 12, .int .i64 0]) (by simp [results, Try.results14, go_sem]) rfl ⟨rfl, b1 w _⟩
  · go_enter Try.func14, Try.ntmps14
    go_wp2
    exact bodyPost_ret (v := .tuple #[fE 46 47 12, .int .i64 0]) (by simp [results, Try.results14, go_sem]) rfl ⟨rfl, b1 w _⟩
theorem edgeForm_no (k : Int) (h : k < 1 ∨ 3 < k) (w : World) : Calls Try.prog 14 #[.int .i64 k] w fun e w' => e = .returned (.tuple #[zF, .int .i64 2]) ∧ Below w.heap.size w w' := by
  have e1 : (k == 1) = false := by simp; omega
  have e2 : (k == 2) = false := by simp; omega
  have e3 : (k == 3) = false := by simp; omega
  clear h
  go_enter Try.func14, Try.ntmps14
  go_wp2
  exact bodyPost_ret (v := .tuple #[zF, .int .i64 2]) (by simp [results, Try.results14, go_sem]) rfl ⟨rfl, b1 w _⟩
theorem updateForm_any (w : World) : Calls Try.prog 19 #[] w fun e w' => e = .returned (fU 52 53 20) ∧ Below w.heap.size w w' := by
  go_enter Try.func19, Try.ntmps19
  go_wp2
  exact bodyPost_ret (v := fU 52 53 20) (by simp [results, Try.results19, go_sem]) rfl ⟨rfl, b1 w _⟩
theorem stateForm_ok (m : Nat) (h1 : 1 ≤ m) (h2 : m ≤ 8) (w : World) : Calls Try.prog 24 #[.int .i64 m] w fun e w' => e = .returned (.tuple #[fS 57 58 (8 * (m : Int)), .int .i64 0]) ∧ Below w.heap.size w w' := by
  go_enter Try.func24, Try.ntmps24
  go_wp2
  exact bodyPost_ret (v := .tuple #[fS 57 58 (8 * (m : Int)), .int .i64 0]) (by simp [results, Try.results24, go_sem]) rfl ⟨rfl, b1 w _⟩
theorem stateForm_no (k : Int) (h : k < 1 ∨ 8 < k) (w : World) : Calls Try.prog 24 #[.int .i64 k] w fun e w' => e = .returned (.tuple #[zF, .int .i64 2]) ∧ Below w.heap.size w w' := by
  rcases h with h | h
  · go_enter Try.func24, Try.ntmps24
    go_wp2
    exact bodyPost_ret (v := .tuple #[zF, .int .i64 2]) (by simp [results, Try.results24, go_sem]) rfl ⟨rfl, b1 w _⟩
  · have h' : ¬ k < 1 := by omega
    go_enter Try.func24, Try.ntmps24
    go_wp2
    exact bodyPost_ret (v := .tuple #[zF, .int .i64 2]) (by simp [results, Try.results24, go_sem]) rfl ⟨rfl, b1 w _⟩
end Rt
end Go.Proofs.Ytfgjhljhjclegaa
