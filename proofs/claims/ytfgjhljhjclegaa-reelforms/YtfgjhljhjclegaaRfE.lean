import Derived.Test.YtfgjhljhjclegaaRfD
import Derived.Test.YtfgjhljhjclegaaRtD
namespace Go.Proofs.Ytfgjhljhjclegaa
namespace Rt
open Go.RowKit
set_option linter.unusedVariables false
set_option maxRecDepth 8000
theorem frozen_new (w : World) (cs : Array Value) (t : TypeId) (j : Nat) : (w.alloc (.cells cs t)).frozen? ⟨w.heap.size, j, none⟩ = false := by
  simp [World.frozen?, World.alloc, -World.alloc_eq]
theorem S3.set {b : Nat} {x y z : Value} {W : World} {p : Addr} {v : Value} (h : S3 b x y z W) (hne : b ≠ p.block) : S3 b x y z (W.setCell p v) :=
  ⟨(World.cell?_of_block (w := W) (Below.heap_setCell W p v b hne)).trans h.1, (World.cell?_of_block (w := W) (Below.heap_setCell W p v b hne)).trans h.2.1, (World.cell?_of_block (w := W) (Below.heap_setCell W p v b hne)).trans h.2.2⟩
/-- A form. -/
abbrev fE (p q : Nat) (x : Int) : Value := .agg #[.int .i64 x, .func (.func p) #[] #[], .func (.func q) #[] #[]]
abbrev oE (p q : Nat) (x : Int) : Obj := .cells #[.int .i64 x, .func (.func p) #[] #[], .func (.func q) #[] #[]] 49
theorem widthE_any (p q : Nat) (x : Int) (w : World) : Calls Try.prog 16 #[fE p q x] w fun e w' => e = .returned (.int .i64 x) ∧ Below w.heap.size w w' := by
  go_enter Try.func16, Try.ntmps16
  go_wp2
  go_ret
  exact ⟨rfl, (Below.refl _ _).alloc (Nat.le_refl _) _⟩
theorem widthE_zero (w : World) : Calls Try.prog 16 #[.agg #[.int .i64 0, .nilFunc, .nilFunc]] w fun e w' => e = .returned (.int .i64 0) ∧ Below w.heap.size w w' := by
  go_enter Try.func16, Try.ntmps16
  go_wp2
  go_ret
  exact ⟨rfl, (Below.refl _ _).alloc (Nat.le_refl _) _⟩
theorem rightE_any (p q x : Nat) (w : World) (h1 : 1 ≤ x) (h2 : x ≤ 256) : Calls Try.prog 79 #[fE p q x] w fun e w' => e = .returned (.bool true) ∧ Below w.heap.size w w' := by
  have n1 := fun w f a c => nf_ne (P := Try.prog) w 46 f a c _ Try.underlying46 ⟨_, _, _, rfl⟩
  have n2 := fun w f a c => nf_ne (P := Try.prog) w 47 f a c _ Try.underlying47 ⟨_, _, _, rfl⟩
  go_enter Try.func79, Try.ntmps79
  go_wp2
  go_ret
  exact ⟨rfl, (Below.refl _ _).alloc (Nat.le_refl _) _⟩
theorem rightE_zero (w : World) : Calls Try.prog 79 #[.agg #[.int .i64 0, .nilFunc, .nilFunc]] w fun e w' => e = .returned (.bool false) ∧ Below w.heap.size w w' := by
  go_enter Try.func79, Try.ntmps79
  go_wp2
  go_ret
  exact ⟨rfl, (Below.refl _ _).alloc (Nat.le_refl _) _⟩
theorem fitsE_ok (p q x : Nat) (a : Option Addr) (n c : Nat) (w : World) (hn : n ≤ 1048576) (h1 : 1 ≤ x) (h2 : x ≤ 256) (hx : x ≤ n) :
    Calls Try.prog 48 #[fE p q x, .slice a n c] w fun e w' => e = .returned (.int .i64 0) ∧ Below w.heap.size w w' := by
  go_enter Try.func48, Try.ntmps48
  go_wp2_with (fail)
  refine (rightE_any p q x _ h1 h2).mono ?_
  rintro e w9 ⟨rfl, hb⟩
  have hc := hb.cell (p := ⟨w.heap.size, 0, none⟩) (by simp)
  go_wp2
  go_ret
  exact ⟨rfl, ((Below.refl _ _).alloc (Nat.le_refl _) _).trans (hb.mono (by simp))⟩
theorem fitsE_short (p q x : Nat) (a : Option Addr) (n c : Nat) (w : World) (hn : n ≤ 1048576) (h1 : 1 ≤ x) (h2 : x ≤ 256) (hx : n < x) :
    Calls Try.prog 48 #[fE p q x, .slice a n c] w fun e w' => e = .returned (.int .i64 67) ∧ Below w.heap.size w w' := by
  go_enter Try.func48, Try.ntmps48
  go_wp2_with (fail)
  refine (rightE_any p q x _ h1 h2).mono ?_
  rintro e w9 ⟨rfl, hb⟩
  have hc := hb.cell (p := ⟨w.heap.size, 0, none⟩) (by simp)
  go_wp2
  go_ret
  exact ⟨rfl, ((Below.refl _ _).alloc (Nat.le_refl _) _).trans (hb.mono (by simp))⟩
theorem fitsE_zero (a : Option Addr) (n c : Nat) (w : World) :
    Calls Try.prog 48 #[.agg #[.int .i64 0, .nilFunc, .nilFunc], .slice a n c] w fun e w' => e = .returned (.int .i64 2) ∧ Below w.heap.size w w' := by
  go_enter Try.func48, Try.ntmps48
  go_wp2_with (fail)
  refine (rightE_zero _).mono ?_
  rintro e w9 ⟨rfl, hb⟩
  go_wp2
  go_ret
  exact ⟨rfl, ((Below.refl _ _).alloc (Nat.le_refl _) _).trans (hb.mono (by simp))⟩
/-- A form. -/
abbrev fU (p q : Nat) (x : Int) : Value := .agg #[.int .i64 x, .func (.func p) #[] #[], .func (.func q) #[] #[]]
abbrev oU (p q : Nat) (x : Int) : Obj := .cells #[.int .i64 x, .func (.func p) #[] #[], .func (.func q) #[] #[]] 60
theorem widthU_any (p q : Nat) (x : Int) (w : World) : Calls Try.prog 23 #[fU p q x] w fun e w' => e = .returned (.int .i64 x) ∧ Below w.heap.size w w' := by
  go_enter Try.func23, Try.ntmps23
  go_wp2
  go_ret
  exact ⟨rfl, (Below.refl _ _).alloc (Nat.le_refl _) _⟩
theorem widthU_zero (w : World) : Calls Try.prog 23 #[.agg #[.int .i64 0, .nilFunc, .nilFunc]] w fun e w' => e = .returned (.int .i64 0) ∧ Below w.heap.size w w' := by
  go_enter Try.func23, Try.ntmps23
  go_wp2
  go_ret
  exact ⟨rfl, (Below.refl _ _).alloc (Nat.le_refl _) _⟩
theorem rightU_any (p q x : Nat) (w : World) (h1 : 1 ≤ x) (h2 : x ≤ 256) : Calls Try.prog 81 #[fU p q x] w fun e w' => e = .returned (.bool true) ∧ Below w.heap.size w w' := by
  have n1 := fun w f a c => nf_ne (P := Try.prog) w 57 f a c _ Try.underlying57 ⟨_, _, _, rfl⟩
  have n2 := fun w f a c => nf_ne (P := Try.prog) w 58 f a c _ Try.underlying58 ⟨_, _, _, rfl⟩
  go_enter Try.func81, Try.ntmps81
  go_wp2
  go_ret
  exact ⟨rfl, (Below.refl _ _).alloc (Nat.le_refl _) _⟩
theorem rightU_zero (w : World) : Calls Try.prog 81 #[.agg #[.int .i64 0, .nilFunc, .nilFunc]] w fun e w' => e = .returned (.bool false) ∧ Below w.heap.size w w' := by
  go_enter Try.func81, Try.ntmps81
  go_wp2
  go_ret
  exact ⟨rfl, (Below.refl _ _).alloc (Nat.le_refl _) _⟩
theorem fitsU_ok (p q x : Nat) (a : Option Addr) (n c : Nat) (w : World) (hn : n ≤ 1048576) (h1 : 1 ≤ x) (h2 : x ≤ 256) (hx : x ≤ n) :
    Calls Try.prog 54 #[fU p q x, .slice a n c] w fun e w' => e = .returned (.int .i64 0) ∧ Below w.heap.size w w' := by
  go_enter Try.func54, Try.ntmps54
  go_wp2_with (fail)
  refine (rightU_any p q x _ h1 h2).mono ?_
  rintro e w9 ⟨rfl, hb⟩
  have hc := hb.cell (p := ⟨w.heap.size, 0, none⟩) (by simp)
  go_wp2
  go_ret
  exact ⟨rfl, ((Below.refl _ _).alloc (Nat.le_refl _) _).trans (hb.mono (by simp))⟩
theorem fitsU_short (p q x : Nat) (a : Option Addr) (n c : Nat) (w : World) (hn : n ≤ 1048576) (h1 : 1 ≤ x) (h2 : x ≤ 256) (hx : n < x) :
    Calls Try.prog 54 #[fU p q x, .slice a n c] w fun e w' => e = .returned (.int .i64 67) ∧ Below w.heap.size w w' := by
  go_enter Try.func54, Try.ntmps54
  go_wp2_with (fail)
  refine (rightU_any p q x _ h1 h2).mono ?_
  rintro e w9 ⟨rfl, hb⟩
  have hc := hb.cell (p := ⟨w.heap.size, 0, none⟩) (by simp)
  go_wp2
  go_ret
  exact ⟨rfl, ((Below.refl _ _).alloc (Nat.le_refl _) _).trans (hb.mono (by simp))⟩
theorem fitsU_zero (a : Option Addr) (n c : Nat) (w : World) :
    Calls Try.prog 54 #[.agg #[.int .i64 0, .nilFunc, .nilFunc], .slice a n c] w fun e w' => e = .returned (.int .i64 2) ∧ Below w.heap.size w w' := by
  go_enter Try.func54, Try.ntmps54
  go_wp2_with (fail)
  refine (rightU_zero _).mono ?_
  rintro e w9 ⟨rfl, hb⟩
  go_wp2
  go_ret
  exact ⟨rfl, ((Below.refl _ _).alloc (Nat.le_refl _) _).trans (hb.mono (by simp))⟩
/-- A form. -/
abbrev fS (p q : Nat) (x : Int) : Value := .agg #[.int .i64 x, .func (.func p) #[] #[], .func (.func q) #[] #[]]
abbrev oS (p q : Nat) (x : Int) : Obj := .cells #[.int .i64 x, .func (.func p) #[] #[], .func (.func q) #[] #[]] 69
theorem widthS_any (p q : Nat) (x : Int) (w : World) : Calls Try.prog 26 #[fS p q x] w fun e w' => e = .returned (.int .i64 x) ∧ Below w.heap.size w w' := by
  go_enter Try.func26, Try.ntmps26
  go_wp2
  go_ret
  exact ⟨rfl, (Below.refl _ _).alloc (Nat.le_refl _) _⟩
theorem widthS_zero (w : World) : Calls Try.prog 26 #[.agg #[.int .i64 0, .nilFunc, .nilFunc]] w fun e w' => e = .returned (.int .i64 0) ∧ Below w.heap.size w w' := by
  go_enter Try.func26, Try.ntmps26
  go_wp2
  go_ret
  exact ⟨rfl, (Below.refl _ _).alloc (Nat.le_refl _) _⟩
theorem rightS_any (p q x : Nat) (w : World) (h1 : 1 ≤ x) (h2 : x ≤ 256) : Calls Try.prog 82 #[fS p q x] w fun e w' => e = .returned (.bool true) ∧ Below w.heap.size w w' := by
  have n1 := fun w f a c => nf_ne (P := Try.prog) w 66 f a c _ Try.underlying66 ⟨_, _, _, rfl⟩
  have n2 := fun w f a c => nf_ne (P := Try.prog) w 67 f a c _ Try.underlying67 ⟨_, _, _, rfl⟩
  go_enter Try.func82, Try.ntmps82
  go_wp2
  go_ret
  exact ⟨rfl, (Below.refl _ _).alloc (Nat.le_refl _) _⟩
theorem rightS_zero (w : World) : Calls Try.prog 82 #[.agg #[.int .i64 0, .nilFunc, .nilFunc]] w fun e w' => e = .returned (.bool false) ∧ Below w.heap.size w w' := by
  go_enter Try.func82, Try.ntmps82
  go_wp2
  go_ret
  exact ⟨rfl, (Below.refl _ _).alloc (Nat.le_refl _) _⟩
theorem fitsS_ok (p q x : Nat) (a : Option Addr) (n c : Nat) (w : World) (hn : n ≤ 1048576) (h1 : 1 ≤ x) (h2 : x ≤ 256) (hx : x ≤ n) :
    Calls Try.prog 59 #[fS p q x, .slice a n c] w fun e w' => e = .returned (.int .i64 0) ∧ Below w.heap.size w w' := by
  go_enter Try.func59, Try.ntmps59
  go_wp2_with (fail)
  refine (rightS_any p q x _ h1 h2).mono ?_
  rintro e w9 ⟨rfl, hb⟩
  have hc := hb.cell (p := ⟨w.heap.size, 0, none⟩) (by simp)
  go_wp2
  go_ret
  exact ⟨rfl, ((Below.refl _ _).alloc (Nat.le_refl _) _).trans (hb.mono (by simp))⟩
theorem fitsS_short (p q x : Nat) (a : Option Addr) (n c : Nat) (w : World) (hn : n ≤ 1048576) (h1 : 1 ≤ x) (h2 : x ≤ 256) (hx : n < x) :
    Calls Try.prog 59 #[fS p q x, .slice a n c] w fun e w' => e = .returned (.int .i64 67) ∧ Below w.heap.size w w' := by
  go_enter Try.func59, Try.ntmps59
  go_wp2_with (fail)
  refine (rightS_any p q x _ h1 h2).mono ?_
  rintro e w9 ⟨rfl, hb⟩
  have hc := hb.cell (p := ⟨w.heap.size, 0, none⟩) (by simp)
  go_wp2
  go_ret
  exact ⟨rfl, ((Below.refl _ _).alloc (Nat.le_refl _) _).trans (hb.mono (by simp))⟩
theorem fitsS_zero (a : Option Addr) (n c : Nat) (w : World) :
    Calls Try.prog 59 #[.agg #[.int .i64 0, .nilFunc, .nilFunc], .slice a n c] w fun e w' => e = .returned (.int .i64 2) ∧ Below w.heap.size w w' := by
  go_enter Try.func59, Try.ntmps59
  go_wp2_with (fail)
  refine (rightS_zero _).mono ?_
  rintro e w9 ⟨rfl, hb⟩
  go_wp2
  go_ret
  exact ⟨rfl, ((Below.refl _ _).alloc (Nat.le_refl _) _).trans (hb.mono (by simp))⟩
end Rt
end Go.Proofs.Ytfgjhljhjclegaa
