import Derived.Test.YtlnbpmhdphcolaaRows
import Derived.WalkKit
import Derived.BigQuiet
import Derived.Deep.QuietTactic
import Derived.WalkSmall
import Derived.Handy
namespace Go.Proofs.Ytlnbpmhdphcolaa
namespace Pc
open Go.RowKit
set_option linter.unusedVariables false
theorem ret_int {k : IntKind} {a b : Int} (h : a = b) : Ending.returned (.int k a) = .returned (.int k b) := by rw [h]
theorem ret_two {k1 k2 : IntKind} {a b c d : Int} (h : a = c) (h2 : b = d) : Ending.returned (.tuple #[.int k1 a, .int k2 b]) = .returned (.tuple #[.int k1 c, .int k2 d]) := by rw [h, h2]
def Bad (n : Int) : Prop := n < 0 ∨ 4194304 < n
instance (n : Int) : Decidable (Bad n) := inferInstanceAs (Decidable (_ ∨ _))
/-- The words of n elements of K bytes each, and the error. -/
def cw (K n : Int) : Int := if Bad n then 0 else (n * K + 7) / 8
def ce (n : Int) : Int := if Bad n then 42 else 0

theorem as5_5 (v : Value) (w : World) : (Instr.typeAssert (.iface 5 v) 20 5 true).run Try.prog w = .ok (.tuple #[v, .bool true]) w := by kernel_rfl
set_option maxHeartbeats 800000 in
theorem width5 (w : World) : Calls Try.prog 17 #[] w fun e w' => e = .returned (.int .i64 1) ∧ Below w.heap.size w w' := by
  have h5 := as5_5
  go_enter Try.func17, Try.ntmps17
  go_wp2
  go_ret
  exact ⟨rfl, by first | exact Below.refl _ _ | exact (Below.refl _ _).alloc (Nat.le_refl _) _ | go_grown⟩
set_option maxHeartbeats 800000 in
theorem cost5 (n : Int) (h0 : -9223372036854775808 ≤ n) (h1 : n ≤ 9223372036854775807) (w : World) : Calls Try.prog 6 #[.int .i64 n] w fun e w' => e = .returned (.tuple #[.int .i64 (cw 1 n), .int .i64 (ce n)]) ∧ Below w.heap.size w w' := by
  by_cases hb : Bad n
  · have e1 : cw 1 n = 0 := if_pos hb
    have e2 : ce n = 42 := if_pos hb
    rw [e1, e2]
    by_cases hn : n < 0
    · clear hb e1 e2
      go_enter Try.func6, Try.ntmps6
      go_wp2
      go_ret2
      exact ⟨rfl, Below.refl _ _⟩
    · have hm : 4194304 < n := by rcases hb with h | h; exact absurd h hn; exact h
      clear hb e1 e2
      go_enter Try.func6, Try.ntmps6
      go_wp2
      go_ret2
      exact ⟨rfl, Below.refl _ _⟩
  · have e1 : cw 1 n = (n * 1 + 7) / 8 := if_neg hb
    have e2 : ce n = 0 := if_neg hb
    rw [e1, e2]
    have hn : 0 ≤ n := by by_cases h : n < 0; exact absurd (Or.inl h) hb; omega
    have hm : n ≤ 4194304 := by by_cases h : 4194304 < n; exact absurd (Or.inr h) hb; omega
    clear hb e1 e2
    go_enter Try.func6, Try.ntmps6
    go_wp2_with (fail)
    refine (width5 w).mono ?_
    rintro e9 w9 ⟨rfl, hg⟩
    go_wp2
    go_ret2
    exact ⟨ret_two (by first | rfl | omega) rfl, hg⟩
theorem as28_5 (v : Value) (w : World) : (Instr.typeAssert (.iface 28 v) 20 5 true).run Try.prog w = .ok (.tuple #[.int .u8 0, .bool false]) w := by kernel_rfl
theorem as28_28 (v : Value) (w : World) : (Instr.typeAssert (.iface 28 v) 20 28 true).run Try.prog w = .ok (.tuple #[v, .bool true]) w := by kernel_rfl
theorem as28_21 (v : Value) (w : World) : (Instr.typeAssert (.iface 28 v) 20 21 true).run Try.prog w = .ok (.tuple #[.int .i32 0, .bool false]) w := by kernel_rfl
theorem as28_31 (v : Value) (w : World) : (Instr.typeAssert (.iface 28 v) 20 31 true).run Try.prog w = .ok (.tuple #[.agg #[.int .u32 0, .int .u32 0, .int .u32 0], .bool false]) w := by kernel_rfl
theorem as28_33 (v : Value) (w : World) : (Instr.typeAssert (.iface 28 v) 20 33 true).run Try.prog w = .ok (.tuple #[.agg #[.int .u32 0, .int .u64 0, .int .u64 0], .bool false]) w := by kernel_rfl
theorem as28_35 (v : Value) (w : World) : (Instr.typeAssert (.iface 28 v) 20 35 true).run Try.prog w = .ok (.tuple #[.agg #[.int .u64 0, .int .u64 0, .int .u64 0, .int .u64 0, .int .u64 0, .int .u64 0, .int .u64 0, .int .u64 0], .bool false]) w := by kernel_rfl
set_option maxHeartbeats 800000 in
theorem width28 (w : World) : Calls Try.prog 18 #[] w fun e w' => e = .returned (.int .i64 4) ∧ Below w.heap.size w w' := by
  have h5 := as28_5
  have h28 := as28_28
  have h21 := as28_21
  have h31 := as28_31
  have h33 := as28_33
  have h35 := as28_35
  go_enter Try.func18, Try.ntmps18
  go_wp2
  go_ret
  exact ⟨rfl, by first | exact Below.refl _ _ | exact (Below.refl _ _).alloc (Nat.le_refl _) _ | go_grown⟩
set_option maxHeartbeats 800000 in
theorem cost28 (n : Int) (h0 : -9223372036854775808 ≤ n) (h1 : n ≤ 9223372036854775807) (w : World) : Calls Try.prog 7 #[.int .i64 n] w fun e w' => e = .returned (.tuple #[.int .i64 (cw 4 n), .int .i64 (ce n)]) ∧ Below w.heap.size w w' := by
  by_cases hb : Bad n
  · have e1 : cw 4 n = 0 := if_pos hb
    have e2 : ce n = 42 := if_pos hb
    rw [e1, e2]
    by_cases hn : n < 0
    · clear hb e1 e2
      go_enter Try.func7, Try.ntmps7
      go_wp2
      go_ret2
      exact ⟨rfl, Below.refl _ _⟩
    · have hm : 4194304 < n := by rcases hb with h | h; exact absurd h hn; exact h
      clear hb e1 e2
      go_enter Try.func7, Try.ntmps7
      go_wp2
      go_ret2
      exact ⟨rfl, Below.refl _ _⟩
  · have e1 : cw 4 n = (n * 4 + 7) / 8 := if_neg hb
    have e2 : ce n = 0 := if_neg hb
    rw [e1, e2]
    have hn : 0 ≤ n := by by_cases h : n < 0; exact absurd (Or.inl h) hb; omega
    have hm : n ≤ 4194304 := by by_cases h : 4194304 < n; exact absurd (Or.inr h) hb; omega
    clear hb e1 e2
    go_enter Try.func7, Try.ntmps7
    go_wp2_with (fail)
    refine (width28 w).mono ?_
    rintro e9 w9 ⟨rfl, hg⟩
    go_wp2
    go_ret2
    exact ⟨ret_two (by first | rfl | omega) rfl, hg⟩
theorem as21_5 (v : Value) (w : World) : (Instr.typeAssert (.iface 21 v) 20 5 true).run Try.prog w = .ok (.tuple #[.int .u8 0, .bool false]) w := by kernel_rfl
theorem as21_28 (v : Value) (w : World) : (Instr.typeAssert (.iface 21 v) 20 28 true).run Try.prog w = .ok (.tuple #[.int .u32 0, .bool false]) w := by kernel_rfl
theorem as21_21 (v : Value) (w : World) : (Instr.typeAssert (.iface 21 v) 20 21 true).run Try.prog w = .ok (.tuple #[v, .bool true]) w := by kernel_rfl
set_option maxHeartbeats 800000 in
theorem width21 (w : World) : Calls Try.prog 19 #[] w fun e w' => e = .returned (.int .i64 4) ∧ Below w.heap.size w w' := by
  have h5 := as21_5
  have h28 := as21_28
  have h21 := as21_21
  go_enter Try.func19, Try.ntmps19
  go_wp2
  go_ret
  exact ⟨rfl, by first | exact Below.refl _ _ | exact (Below.refl _ _).alloc (Nat.le_refl _) _ | go_grown⟩
set_option maxHeartbeats 800000 in
theorem cost21 (n : Int) (h0 : -9223372036854775808 ≤ n) (h1 : n ≤ 9223372036854775807) (w : World) : Calls Try.prog 8 #[.int .i64 n] w fun e w' => e = .returned (.tuple #[.int .i64 (cw 4 n), .int .i64 (ce n)]) ∧ Below w.heap.size w w' := by
  by_cases hb : Bad n
  · have e1 : cw 4 n = 0 := if_pos hb
    have e2 : ce n = 42 := if_pos hb
    rw [e1, e2]
    by_cases hn : n < 0
    · clear hb e1 e2
      go_enter Try.func8, Try.ntmps8
      go_wp2
      go_ret2
      exact ⟨rfl, Below.refl _ _⟩
    · have hm : 4194304 < n := by rcases hb with h | h; exact absurd h hn; exact h
      clear hb e1 e2
      go_enter Try.func8, Try.ntmps8
      go_wp2
      go_ret2
      exact ⟨rfl, Below.refl _ _⟩
  · have e1 : cw 4 n = (n * 4 + 7) / 8 := if_neg hb
    have e2 : ce n = 0 := if_neg hb
    rw [e1, e2]
    have hn : 0 ≤ n := by by_cases h : n < 0; exact absurd (Or.inl h) hb; omega
    have hm : n ≤ 4194304 := by by_cases h : 4194304 < n; exact absurd (Or.inr h) hb; omega
    clear hb e1 e2
    go_enter Try.func8, Try.ntmps8
    go_wp2_with (fail)
    refine (width21 w).mono ?_
    rintro e9 w9 ⟨rfl, hg⟩
    go_wp2
    go_ret2
    exact ⟨ret_two (by first | rfl | omega) rfl, hg⟩
theorem as2_5 (v : Value) (w : World) : (Instr.typeAssert (.iface 2 v) 20 5 true).run Try.prog w = .ok (.tuple #[.int .u8 0, .bool false]) w := by kernel_rfl
theorem as2_28 (v : Value) (w : World) : (Instr.typeAssert (.iface 2 v) 20 28 true).run Try.prog w = .ok (.tuple #[.int .u32 0, .bool false]) w := by kernel_rfl
theorem as2_21 (v : Value) (w : World) : (Instr.typeAssert (.iface 2 v) 20 21 true).run Try.prog w = .ok (.tuple #[.int .i32 0, .bool false]) w := by kernel_rfl
theorem as2_31 (v : Value) (w : World) : (Instr.typeAssert (.iface 2 v) 20 31 true).run Try.prog w = .ok (.tuple #[.agg #[.int .u32 0, .int .u32 0, .int .u32 0], .bool false]) w := by kernel_rfl
theorem as2_33 (v : Value) (w : World) : (Instr.typeAssert (.iface 2 v) 20 33 true).run Try.prog w = .ok (.tuple #[.agg #[.int .u32 0, .int .u64 0, .int .u64 0], .bool false]) w := by kernel_rfl
theorem as2_35 (v : Value) (w : World) : (Instr.typeAssert (.iface 2 v) 20 35 true).run Try.prog w = .ok (.tuple #[.agg #[.int .u64 0, .int .u64 0, .int .u64 0, .int .u64 0, .int .u64 0, .int .u64 0, .int .u64 0, .int .u64 0], .bool false]) w := by kernel_rfl
set_option maxHeartbeats 800000 in
theorem width2 (w : World) : Calls Try.prog 20 #[] w fun e w' => e = .returned (.int .i64 8) ∧ Below w.heap.size w w' := by
  have h5 := as2_5
  have h28 := as2_28
  have h21 := as2_21
  have h31 := as2_31
  have h33 := as2_33
  have h35 := as2_35
  go_enter Try.func20, Try.ntmps20
  go_wp2
  go_ret
  exact ⟨rfl, by first | exact Below.refl _ _ | exact (Below.refl _ _).alloc (Nat.le_refl _) _ | go_grown⟩
set_option maxHeartbeats 800000 in
theorem cost2 (n : Int) (h0 : -9223372036854775808 ≤ n) (h1 : n ≤ 9223372036854775807) (w : World) : Calls Try.prog 9 #[.int .i64 n] w fun e w' => e = .returned (.tuple #[.int .i64 (cw 8 n), .int .i64 (ce n)]) ∧ Below w.heap.size w w' := by
  by_cases hb : Bad n
  · have e1 : cw 8 n = 0 := if_pos hb
    have e2 : ce n = 42 := if_pos hb
    rw [e1, e2]
    by_cases hn : n < 0
    · clear hb e1 e2
      go_enter Try.func9, Try.ntmps9
      go_wp2
      go_ret2
      exact ⟨rfl, Below.refl _ _⟩
    · have hm : 4194304 < n := by rcases hb with h | h; exact absurd h hn; exact h
      clear hb e1 e2
      go_enter Try.func9, Try.ntmps9
      go_wp2
      go_ret2
      exact ⟨rfl, Below.refl _ _⟩
  · have e1 : cw 8 n = (n * 8 + 7) / 8 := if_neg hb
    have e2 : ce n = 0 := if_neg hb
    rw [e1, e2]
    have hn : 0 ≤ n := by by_cases h : n < 0; exact absurd (Or.inl h) hb; omega
    have hm : n ≤ 4194304 := by by_cases h : 4194304 < n; exact absurd (Or.inr h) hb; omega
    clear hb e1 e2
    go_enter Try.func9, Try.ntmps9
    go_wp2_with (fail)
    refine (width2 w).mono ?_
    rintro e9 w9 ⟨rfl, hg⟩
    go_wp2
    go_ret2
    exact ⟨ret_two (by first | rfl | omega) rfl, hg⟩
theorem as29_5 (v : Value) (w : World) : (Instr.typeAssert (.iface 29 v) 20 5 true).run Try.prog w = .ok (.tuple #[.int .u8 0, .bool false]) w := by kernel_rfl
theorem as29_28 (v : Value) (w : World) : (Instr.typeAssert (.iface 29 v) 20 28 true).run Try.prog w = .ok (.tuple #[.int .u32 0, .bool false]) w := by kernel_rfl
theorem as29_21 (v : Value) (w : World) : (Instr.typeAssert (.iface 29 v) 20 21 true).run Try.prog w = .ok (.tuple #[.int .i32 0, .bool false]) w := by kernel_rfl
theorem as29_31 (v : Value) (w : World) : (Instr.typeAssert (.iface 29 v) 20 31 true).run Try.prog w = .ok (.tuple #[.agg #[.int .u32 0, .int .u32 0, .int .u32 0], .bool false]) w := by kernel_rfl
theorem as29_33 (v : Value) (w : World) : (Instr.typeAssert (.iface 29 v) 20 33 true).run Try.prog w = .ok (.tuple #[.agg #[.int .u32 0, .int .u64 0, .int .u64 0], .bool false]) w := by kernel_rfl
theorem as29_35 (v : Value) (w : World) : (Instr.typeAssert (.iface 29 v) 20 35 true).run Try.prog w = .ok (.tuple #[.agg #[.int .u64 0, .int .u64 0, .int .u64 0, .int .u64 0, .int .u64 0, .int .u64 0, .int .u64 0, .int .u64 0], .bool false]) w := by kernel_rfl
set_option maxHeartbeats 800000 in
theorem width29 (w : World) : Calls Try.prog 21 #[] w fun e w' => e = .returned (.int .i64 8) ∧ Below w.heap.size w w' := by
  have h5 := as29_5
  have h28 := as29_28
  have h21 := as29_21
  have h31 := as29_31
  have h33 := as29_33
  have h35 := as29_35
  go_enter Try.func21, Try.ntmps21
  go_wp2
  go_ret
  exact ⟨rfl, by first | exact Below.refl _ _ | exact (Below.refl _ _).alloc (Nat.le_refl _) _ | go_grown⟩
set_option maxHeartbeats 800000 in
theorem cost29 (n : Int) (h0 : -9223372036854775808 ≤ n) (h1 : n ≤ 9223372036854775807) (w : World) : Calls Try.prog 10 #[.int .i64 n] w fun e w' => e = .returned (.tuple #[.int .i64 (cw 8 n), .int .i64 (ce n)]) ∧ Below w.heap.size w w' := by
  by_cases hb : Bad n
  · have e1 : cw 8 n = 0 := if_pos hb
    have e2 : ce n = 42 := if_pos hb
    rw [e1, e2]
    by_cases hn : n < 0
    · clear hb e1 e2
      go_enter Try.func10, Try.ntmps10
      go_wp2
      go_ret2
      exact ⟨rfl, Below.refl _ _⟩
    · have hm : 4194304 < n := by rcases hb with h | h; exact absurd h hn; exact h
      clear hb e1 e2
      go_enter Try.func10, Try.ntmps10
      go_wp2
      go_ret2
      exact ⟨rfl, Below.refl _ _⟩
  · have e1 : cw 8 n = (n * 8 + 7) / 8 := if_neg hb
    have e2 : ce n = 0 := if_neg hb
    rw [e1, e2]
    have hn : 0 ≤ n := by by_cases h : n < 0; exact absurd (Or.inl h) hb; omega
    have hm : n ≤ 4194304 := by by_cases h : 4194304 < n; exact absurd (Or.inr h) hb; omega
    clear hb e1 e2
    go_enter Try.func10, Try.ntmps10
    go_wp2_with (fail)
    refine (width29 w).mono ?_
    rintro e9 w9 ⟨rfl, hg⟩
    go_wp2
    go_ret2
    exact ⟨ret_two (by first | rfl | omega) rfl, hg⟩
theorem as3_5 (v : Value) (w : World) : (Instr.typeAssert (.iface 3 v) 20 5 true).run Try.prog w = .ok (.tuple #[.int .u8 0, .bool false]) w := by kernel_rfl
theorem as3_28 (v : Value) (w : World) : (Instr.typeAssert (.iface 3 v) 20 28 true).run Try.prog w = .ok (.tuple #[.int .u32 0, .bool false]) w := by kernel_rfl
theorem as3_21 (v : Value) (w : World) : (Instr.typeAssert (.iface 3 v) 20 21 true).run Try.prog w = .ok (.tuple #[.int .i32 0, .bool false]) w := by kernel_rfl
theorem as3_31 (v : Value) (w : World) : (Instr.typeAssert (.iface 3 v) 20 31 true).run Try.prog w = .ok (.tuple #[.agg #[.int .u32 0, .int .u32 0, .int .u32 0], .bool false]) w := by kernel_rfl
theorem as3_33 (v : Value) (w : World) : (Instr.typeAssert (.iface 3 v) 20 33 true).run Try.prog w = .ok (.tuple #[.agg #[.int .u32 0, .int .u64 0, .int .u64 0], .bool false]) w := by kernel_rfl
theorem as3_35 (v : Value) (w : World) : (Instr.typeAssert (.iface 3 v) 20 35 true).run Try.prog w = .ok (.tuple #[.agg #[.int .u64 0, .int .u64 0, .int .u64 0, .int .u64 0, .int .u64 0, .int .u64 0, .int .u64 0, .int .u64 0], .bool false]) w := by kernel_rfl
set_option maxHeartbeats 800000 in
theorem width3 (w : World) : Calls Try.prog 22 #[] w fun e w' => e = .returned (.int .i64 8) ∧ Below w.heap.size w w' := by
  have h5 := as3_5
  have h28 := as3_28
  have h21 := as3_21
  have h31 := as3_31
  have h33 := as3_33
  have h35 := as3_35
  go_enter Try.func22, Try.ntmps22
  go_wp2
  go_ret
  exact ⟨rfl, by first | exact Below.refl _ _ | exact (Below.refl _ _).alloc (Nat.le_refl _) _ | go_grown⟩
set_option maxHeartbeats 800000 in
theorem cost3 (n : Int) (h0 : -9223372036854775808 ≤ n) (h1 : n ≤ 9223372036854775807) (w : World) : Calls Try.prog 11 #[.int .i64 n] w fun e w' => e = .returned (.tuple #[.int .i64 (cw 8 n), .int .i64 (ce n)]) ∧ Below w.heap.size w w' := by
  by_cases hb : Bad n
  · have e1 : cw 8 n = 0 := if_pos hb
    have e2 : ce n = 42 := if_pos hb
    rw [e1, e2]
    by_cases hn : n < 0
    · clear hb e1 e2
      go_enter Try.func11, Try.ntmps11
      go_wp2
      go_ret2
      exact ⟨rfl, Below.refl _ _⟩
    · have hm : 4194304 < n := by rcases hb with h | h; exact absurd h hn; exact h
      clear hb e1 e2
      go_enter Try.func11, Try.ntmps11
      go_wp2
      go_ret2
      exact ⟨rfl, Below.refl _ _⟩
  · have e1 : cw 8 n = (n * 8 + 7) / 8 := if_neg hb
    have e2 : ce n = 0 := if_neg hb
    rw [e1, e2]
    have hn : 0 ≤ n := by by_cases h : n < 0; exact absurd (Or.inl h) hb; omega
    have hm : n ≤ 4194304 := by by_cases h : 4194304 < n; exact absurd (Or.inr h) hb; omega
    clear hb e1 e2
    go_enter Try.func11, Try.ntmps11
    go_wp2_with (fail)
    refine (width3 w).mono ?_
    rintro e9 w9 ⟨rfl, hg⟩
    go_wp2
    go_ret2
    exact ⟨ret_two (by first | rfl | omega) rfl, hg⟩
theorem as31_5 (v : Value) (w : World) : (Instr.typeAssert (.iface 31 v) 20 5 true).run Try.prog w = .ok (.tuple #[.int .u8 0, .bool false]) w := by kernel_rfl
theorem as31_28 (v : Value) (w : World) : (Instr.typeAssert (.iface 31 v) 20 28 true).run Try.prog w = .ok (.tuple #[.int .u32 0, .bool false]) w := by kernel_rfl
theorem as31_21 (v : Value) (w : World) : (Instr.typeAssert (.iface 31 v) 20 21 true).run Try.prog w = .ok (.tuple #[.int .i32 0, .bool false]) w := by kernel_rfl
theorem as31_31 (v : Value) (w : World) : (Instr.typeAssert (.iface 31 v) 20 31 true).run Try.prog w = .ok (.tuple #[v, .bool true]) w := by kernel_rfl
set_option maxHeartbeats 800000 in
theorem width31 (w : World) : Calls Try.prog 23 #[] w fun e w' => e = .returned (.int .i64 12) ∧ Below w.heap.size w w' := by
  have h5 := as31_5
  have h28 := as31_28
  have h21 := as31_21
  have h31 := as31_31
  go_enter Try.func23, Try.ntmps23
  go_wp2
  go_ret
  exact ⟨rfl, by first | exact Below.refl _ _ | exact (Below.refl _ _).alloc (Nat.le_refl _) _ | go_grown⟩
set_option maxHeartbeats 800000 in
theorem cost31 (n : Int) (h0 : -9223372036854775808 ≤ n) (h1 : n ≤ 9223372036854775807) (w : World) : Calls Try.prog 12 #[.int .i64 n] w fun e w' => e = .returned (.tuple #[.int .i64 (cw 12 n), .int .i64 (ce n)]) ∧ Below w.heap.size w w' := by
  by_cases hb : Bad n
  · have e1 : cw 12 n = 0 := if_pos hb
    have e2 : ce n = 42 := if_pos hb
    rw [e1, e2]
    by_cases hn : n < 0
    · clear hb e1 e2
      go_enter Try.func12, Try.ntmps12
      go_wp2
      go_ret2
      exact ⟨rfl, Below.refl _ _⟩
    · have hm : 4194304 < n := by rcases hb with h | h; exact absurd h hn; exact h
      clear hb e1 e2
      go_enter Try.func12, Try.ntmps12
      go_wp2
      go_ret2
      exact ⟨rfl, Below.refl _ _⟩
  · have e1 : cw 12 n = (n * 12 + 7) / 8 := if_neg hb
    have e2 : ce n = 0 := if_neg hb
    rw [e1, e2]
    have hn : 0 ≤ n := by by_cases h : n < 0; exact absurd (Or.inl h) hb; omega
    have hm : n ≤ 4194304 := by by_cases h : 4194304 < n; exact absurd (Or.inr h) hb; omega
    clear hb e1 e2
    go_enter Try.func12, Try.ntmps12
    go_wp2_with (fail)
    refine (width31 w).mono ?_
    rintro e9 w9 ⟨rfl, hg⟩
    go_wp2
    go_ret2
    exact ⟨ret_two (by first | rfl | omega) rfl, hg⟩
theorem as33_5 (v : Value) (w : World) : (Instr.typeAssert (.iface 33 v) 20 5 true).run Try.prog w = .ok (.tuple #[.int .u8 0, .bool false]) w := by kernel_rfl
theorem as33_28 (v : Value) (w : World) : (Instr.typeAssert (.iface 33 v) 20 28 true).run Try.prog w = .ok (.tuple #[.int .u32 0, .bool false]) w := by kernel_rfl
theorem as33_21 (v : Value) (w : World) : (Instr.typeAssert (.iface 33 v) 20 21 true).run Try.prog w = .ok (.tuple #[.int .i32 0, .bool false]) w := by kernel_rfl
theorem as33_31 (v : Value) (w : World) : (Instr.typeAssert (.iface 33 v) 20 31 true).run Try.prog w = .ok (.tuple #[.agg #[.int .u32 0, .int .u32 0, .int .u32 0], .bool false]) w := by kernel_rfl
theorem as33_33 (v : Value) (w : World) : (Instr.typeAssert (.iface 33 v) 20 33 true).run Try.prog w = .ok (.tuple #[v, .bool true]) w := by kernel_rfl
set_option maxHeartbeats 800000 in
theorem width33 (w : World) : Calls Try.prog 24 #[] w fun e w' => e = .returned (.int .i64 20) ∧ Below w.heap.size w w' := by
  have h5 := as33_5
  have h28 := as33_28
  have h21 := as33_21
  have h31 := as33_31
  have h33 := as33_33
  go_enter Try.func24, Try.ntmps24
  go_wp2
  go_ret
  exact ⟨rfl, by first | exact Below.refl _ _ | exact (Below.refl _ _).alloc (Nat.le_refl _) _ | go_grown⟩
set_option maxHeartbeats 800000 in
theorem cost33 (n : Int) (h0 : -9223372036854775808 ≤ n) (h1 : n ≤ 9223372036854775807) (w : World) : Calls Try.prog 13 #[.int .i64 n] w fun e w' => e = .returned (.tuple #[.int .i64 (cw 20 n), .int .i64 (ce n)]) ∧ Below w.heap.size w w' := by
  by_cases hb : Bad n
  · have e1 : cw 20 n = 0 := if_pos hb
    have e2 : ce n = 42 := if_pos hb
    rw [e1, e2]
    by_cases hn : n < 0
    · clear hb e1 e2
      go_enter Try.func13, Try.ntmps13
      go_wp2
      go_ret2
      exact ⟨rfl, Below.refl _ _⟩
    · have hm : 4194304 < n := by rcases hb with h | h; exact absurd h hn; exact h
      clear hb e1 e2
      go_enter Try.func13, Try.ntmps13
      go_wp2
      go_ret2
      exact ⟨rfl, Below.refl _ _⟩
  · have e1 : cw 20 n = (n * 20 + 7) / 8 := if_neg hb
    have e2 : ce n = 0 := if_neg hb
    rw [e1, e2]
    have hn : 0 ≤ n := by by_cases h : n < 0; exact absurd (Or.inl h) hb; omega
    have hm : n ≤ 4194304 := by by_cases h : 4194304 < n; exact absurd (Or.inr h) hb; omega
    clear hb e1 e2
    go_enter Try.func13, Try.ntmps13
    go_wp2_with (fail)
    refine (width33 w).mono ?_
    rintro e9 w9 ⟨rfl, hg⟩
    go_wp2
    go_ret2
    exact ⟨ret_two (by first | rfl | omega) rfl, hg⟩
theorem as35_5 (v : Value) (w : World) : (Instr.typeAssert (.iface 35 v) 20 5 true).run Try.prog w = .ok (.tuple #[.int .u8 0, .bool false]) w := by kernel_rfl
theorem as35_28 (v : Value) (w : World) : (Instr.typeAssert (.iface 35 v) 20 28 true).run Try.prog w = .ok (.tuple #[.int .u32 0, .bool false]) w := by kernel_rfl
theorem as35_21 (v : Value) (w : World) : (Instr.typeAssert (.iface 35 v) 20 21 true).run Try.prog w = .ok (.tuple #[.int .i32 0, .bool false]) w := by kernel_rfl
theorem as35_31 (v : Value) (w : World) : (Instr.typeAssert (.iface 35 v) 20 31 true).run Try.prog w = .ok (.tuple #[.agg #[.int .u32 0, .int .u32 0, .int .u32 0], .bool false]) w := by kernel_rfl
theorem as35_33 (v : Value) (w : World) : (Instr.typeAssert (.iface 35 v) 20 33 true).run Try.prog w = .ok (.tuple #[.agg #[.int .u32 0, .int .u64 0, .int .u64 0], .bool false]) w := by kernel_rfl
theorem as35_35 (v : Value) (w : World) : (Instr.typeAssert (.iface 35 v) 20 35 true).run Try.prog w = .ok (.tuple #[v, .bool true]) w := by kernel_rfl
set_option maxHeartbeats 800000 in
theorem width35 (w : World) : Calls Try.prog 25 #[] w fun e w' => e = .returned (.int .i64 64) ∧ Below w.heap.size w w' := by
  have h5 := as35_5
  have h28 := as35_28
  have h21 := as35_21
  have h31 := as35_31
  have h33 := as35_33
  have h35 := as35_35
  go_enter Try.func25, Try.ntmps25
  go_wp2
  go_ret
  exact ⟨rfl, by first | exact Below.refl _ _ | exact (Below.refl _ _).alloc (Nat.le_refl _) _ | go_grown⟩
set_option maxHeartbeats 800000 in
theorem cost35 (n : Int) (h0 : -9223372036854775808 ≤ n) (h1 : n ≤ 9223372036854775807) (w : World) : Calls Try.prog 14 #[.int .i64 n] w fun e w' => e = .returned (.tuple #[.int .i64 (cw 64 n), .int .i64 (ce n)]) ∧ Below w.heap.size w w' := by
  by_cases hb : Bad n
  · have e1 : cw 64 n = 0 := if_pos hb
    have e2 : ce n = 42 := if_pos hb
    rw [e1, e2]
    by_cases hn : n < 0
    · clear hb e1 e2
      go_enter Try.func14, Try.ntmps14
      go_wp2
      go_ret2
      exact ⟨rfl, Below.refl _ _⟩
    · have hm : 4194304 < n := by rcases hb with h | h; exact absurd h hn; exact h
      clear hb e1 e2
      go_enter Try.func14, Try.ntmps14
      go_wp2
      go_ret2
      exact ⟨rfl, Below.refl _ _⟩
  · have e1 : cw 64 n = (n * 64 + 7) / 8 := if_neg hb
    have e2 : ce n = 0 := if_neg hb
    rw [e1, e2]
    have hn : 0 ≤ n := by by_cases h : n < 0; exact absurd (Or.inl h) hb; omega
    have hm : n ≤ 4194304 := by by_cases h : 4194304 < n; exact absurd (Or.inr h) hb; omega
    clear hb e1 e2
    go_enter Try.func14, Try.ntmps14
    go_wp2_with (fail)
    refine (width35 w).mono ?_
    rintro e9 w9 ⟨rfl, hg⟩
    go_wp2
    go_ret2
    exact ⟨ret_two (by first | rfl | omega) rfl, hg⟩
def sz (k : Nat) : Int := match k with
  | 0 => 1
  | 1 => 4
  | 2 => 4
  | 3 => 8
  | 4 => 8
  | 5 => 8
  | 6 => 12
  | 7 => 20
  | 8 => 64
  | _ => 0
set_option maxHeartbeats 1600000 in
theorem cost_any (n : Int) (h0 : -9223372036854775808 ≤ n) (h1 : n ≤ 9223372036854775807) (w : World) : ∀ (k : Nat), k < 9 → Calls Try.prog 4 #[.int .i64 k, .int .i64 n] w fun e w' => e = .returned (.tuple #[.int .i64 (cw (sz k) n), .int .i64 (ce n)]) ∧ Below w.heap.size w w'
  | 0, _ => by
    go_enter Try.func4, Try.ntmps4
    go_wp2_with (fail)
    refine (cost5 n h0 h1 _).mono ?_
    rintro e9 w9 ⟨rfl, hg⟩
    go_wp2
    go_ret2
    exact ⟨rfl, hg⟩
  | 1, _ => by
    go_enter Try.func4, Try.ntmps4
    go_wp2_with (fail)
    refine (cost28 n h0 h1 _).mono ?_
    rintro e9 w9 ⟨rfl, hg⟩
    go_wp2
    go_ret2
    exact ⟨rfl, hg⟩
  | 2, _ => by
    go_enter Try.func4, Try.ntmps4
    go_wp2_with (fail)
    refine (cost21 n h0 h1 _).mono ?_
    rintro e9 w9 ⟨rfl, hg⟩
    go_wp2
    go_ret2
    exact ⟨rfl, hg⟩
  | 3, _ => by
    go_enter Try.func4, Try.ntmps4
    go_wp2_with (fail)
    refine (cost2 n h0 h1 _).mono ?_
    rintro e9 w9 ⟨rfl, hg⟩
    go_wp2
    go_ret2
    exact ⟨rfl, hg⟩
  | 4, _ => by
    go_enter Try.func4, Try.ntmps4
    go_wp2_with (fail)
    refine (cost29 n h0 h1 _).mono ?_
    rintro e9 w9 ⟨rfl, hg⟩
    go_wp2
    go_ret2
    exact ⟨rfl, hg⟩
  | 5, _ => by
    go_enter Try.func4, Try.ntmps4
    go_wp2_with (fail)
    refine (cost3 n h0 h1 _).mono ?_
    rintro e9 w9 ⟨rfl, hg⟩
    go_wp2
    go_ret2
    exact ⟨rfl, hg⟩
  | 6, _ => by
    go_enter Try.func4, Try.ntmps4
    go_wp2_with (fail)
    refine (cost31 n h0 h1 _).mono ?_
    rintro e9 w9 ⟨rfl, hg⟩
    go_wp2
    go_ret2
    exact ⟨rfl, hg⟩
  | 7, _ => by
    go_enter Try.func4, Try.ntmps4
    go_wp2_with (fail)
    refine (cost33 n h0 h1 _).mono ?_
    rintro e9 w9 ⟨rfl, hg⟩
    go_wp2
    go_ret2
    exact ⟨rfl, hg⟩
  | 8, _ => by
    go_enter Try.func4, Try.ntmps4
    go_wp2_with (fail)
    refine (cost35 n h0 h1 _).mono ?_
    rintro e9 w9 ⟨rfl, hg⟩
    go_wp2
    go_ret2
    exact ⟨rfl, hg⟩
theorem rcost0 (n : Int) (h0 : -9223372036854775808 ≤ n) (h1 : n ≤ 9223372036854775807) (w : World) : Calls Try.prog 5 #[.int .i64 0, .int .i64 n] w fun e w' => e = .returned (.tuple #[.int .i64 (cw 1 n), .int .i64 (ce n)]) ∧ Below w.heap.size w w' := by
  by_cases hb : Bad n
  · have e1 : cw 1 n = 0 := if_pos hb
    have e2 : ce n = 42 := if_pos hb
    rw [e1, e2]
    by_cases hn : n < 0
    · clear hb e1 e2
      go_enter Try.func5, Try.ntmps5
      go_wp2
      go_ret2
      exact ⟨rfl, Below.refl _ _⟩
    · have hm : 4194304 < n := by rcases hb with h | h; exact absurd h hn; exact h
      clear hb e1 e2
      go_enter Try.func5, Try.ntmps5
      go_wp2
      go_ret2
      exact ⟨rfl, Below.refl _ _⟩
  · have e1 : cw 1 n = (n * 1 + 7) / 8 := if_neg hb
    have e2 : ce n = 0 := if_neg hb
    rw [e1, e2]
    have hn : 0 ≤ n := by by_cases h : n < 0; exact absurd (Or.inl h) hb; omega
    have hm : n ≤ 4194304 := by by_cases h : 4194304 < n; exact absurd (Or.inr h) hb; omega
    clear hb e1 e2
    by_cases hr : 0 < n * 1 % 8
    · go_enter Try.func5, Try.ntmps5
      go_wp2
      all_goals go_ret2
      all_goals exact ⟨ret_two (by first | rfl | omega) rfl, Below.refl _ _⟩
    · go_enter Try.func5, Try.ntmps5
      go_wp2
      all_goals go_ret2
      all_goals exact ⟨ret_two (by first | rfl | omega) rfl, Below.refl _ _⟩
theorem rcost1 (n : Int) (h0 : -9223372036854775808 ≤ n) (h1 : n ≤ 9223372036854775807) (w : World) : Calls Try.prog 5 #[.int .i64 1, .int .i64 n] w fun e w' => e = .returned (.tuple #[.int .i64 (cw 4 n), .int .i64 (ce n)]) ∧ Below w.heap.size w w' := by
  by_cases hb : Bad n
  · have e1 : cw 4 n = 0 := if_pos hb
    have e2 : ce n = 42 := if_pos hb
    rw [e1, e2]
    by_cases hn : n < 0
    · clear hb e1 e2
      go_enter Try.func5, Try.ntmps5
      go_wp2
      go_ret2
      exact ⟨rfl, Below.refl _ _⟩
    · have hm : 4194304 < n := by rcases hb with h | h; exact absurd h hn; exact h
      clear hb e1 e2
      go_enter Try.func5, Try.ntmps5
      go_wp2
      go_ret2
      exact ⟨rfl, Below.refl _ _⟩
  · have e1 : cw 4 n = (n * 4 + 7) / 8 := if_neg hb
    have e2 : ce n = 0 := if_neg hb
    rw [e1, e2]
    have hn : 0 ≤ n := by by_cases h : n < 0; exact absurd (Or.inl h) hb; omega
    have hm : n ≤ 4194304 := by by_cases h : 4194304 < n; exact absurd (Or.inr h) hb; omega
    clear hb e1 e2
    by_cases hr : 0 < n * 4 % 8
    · go_enter Try.func5, Try.ntmps5
      go_wp2
      all_goals go_ret2
      all_goals exact ⟨ret_two (by first | rfl | omega) rfl, Below.refl _ _⟩
    · go_enter Try.func5, Try.ntmps5
      go_wp2
      all_goals go_ret2
      all_goals exact ⟨ret_two (by first | rfl | omega) rfl, Below.refl _ _⟩
theorem rcost2 (n : Int) (h0 : -9223372036854775808 ≤ n) (h1 : n ≤ 9223372036854775807) (w : World) : Calls Try.prog 5 #[.int .i64 2, .int .i64 n] w fun e w' => e = .returned (.tuple #[.int .i64 (cw 4 n), .int .i64 (ce n)]) ∧ Below w.heap.size w w' := by
  by_cases hb : Bad n
  · have e1 : cw 4 n = 0 := if_pos hb
    have e2 : ce n = 42 := if_pos hb
    rw [e1, e2]
    by_cases hn : n < 0
    · clear hb e1 e2
      go_enter Try.func5, Try.ntmps5
      go_wp2
      go_ret2
      exact ⟨rfl, Below.refl _ _⟩
    · have hm : 4194304 < n := by rcases hb with h | h; exact absurd h hn; exact h
      clear hb e1 e2
      go_enter Try.func5, Try.ntmps5
      go_wp2
      go_ret2
      exact ⟨rfl, Below.refl _ _⟩
  · have e1 : cw 4 n = (n * 4 + 7) / 8 := if_neg hb
    have e2 : ce n = 0 := if_neg hb
    rw [e1, e2]
    have hn : 0 ≤ n := by by_cases h : n < 0; exact absurd (Or.inl h) hb; omega
    have hm : n ≤ 4194304 := by by_cases h : 4194304 < n; exact absurd (Or.inr h) hb; omega
    clear hb e1 e2
    by_cases hr : 0 < n * 4 % 8
    · go_enter Try.func5, Try.ntmps5
      go_wp2
      all_goals go_ret2
      all_goals exact ⟨ret_two (by first | rfl | omega) rfl, Below.refl _ _⟩
    · go_enter Try.func5, Try.ntmps5
      go_wp2
      all_goals go_ret2
      all_goals exact ⟨ret_two (by first | rfl | omega) rfl, Below.refl _ _⟩
theorem rcost3 (n : Int) (h0 : -9223372036854775808 ≤ n) (h1 : n ≤ 9223372036854775807) (w : World) : Calls Try.prog 5 #[.int .i64 3, .int .i64 n] w fun e w' => e = .returned (.tuple #[.int .i64 (cw 8 n), .int .i64 (ce n)]) ∧ Below w.heap.size w w' := by
  by_cases hb : Bad n
  · have e1 : cw 8 n = 0 := if_pos hb
    have e2 : ce n = 42 := if_pos hb
    rw [e1, e2]
    by_cases hn : n < 0
    · clear hb e1 e2
      go_enter Try.func5, Try.ntmps5
      go_wp2
      go_ret2
      exact ⟨rfl, Below.refl _ _⟩
    · have hm : 4194304 < n := by rcases hb with h | h; exact absurd h hn; exact h
      clear hb e1 e2
      go_enter Try.func5, Try.ntmps5
      go_wp2
      go_ret2
      exact ⟨rfl, Below.refl _ _⟩
  · have e1 : cw 8 n = (n * 8 + 7) / 8 := if_neg hb
    have e2 : ce n = 0 := if_neg hb
    rw [e1, e2]
    have hn : 0 ≤ n := by by_cases h : n < 0; exact absurd (Or.inl h) hb; omega
    have hm : n ≤ 4194304 := by by_cases h : 4194304 < n; exact absurd (Or.inr h) hb; omega
    clear hb e1 e2
    by_cases hr : 0 < n * 8 % 8
    · go_enter Try.func5, Try.ntmps5
      go_wp2
      all_goals go_ret2
      all_goals exact ⟨ret_two (by first | rfl | omega) rfl, Below.refl _ _⟩
    · go_enter Try.func5, Try.ntmps5
      go_wp2
      all_goals go_ret2
      all_goals exact ⟨ret_two (by first | rfl | omega) rfl, Below.refl _ _⟩
theorem rcost4 (n : Int) (h0 : -9223372036854775808 ≤ n) (h1 : n ≤ 9223372036854775807) (w : World) : Calls Try.prog 5 #[.int .i64 4, .int .i64 n] w fun e w' => e = .returned (.tuple #[.int .i64 (cw 8 n), .int .i64 (ce n)]) ∧ Below w.heap.size w w' := by
  by_cases hb : Bad n
  · have e1 : cw 8 n = 0 := if_pos hb
    have e2 : ce n = 42 := if_pos hb
    rw [e1, e2]
    by_cases hn : n < 0
    · clear hb e1 e2
      go_enter Try.func5, Try.ntmps5
      go_wp2
      go_ret2
      exact ⟨rfl, Below.refl _ _⟩
    · have hm : 4194304 < n := by rcases hb with h | h; exact absurd h hn; exact h
      clear hb e1 e2
      go_enter Try.func5, Try.ntmps5
      go_wp2
      go_ret2
      exact ⟨rfl, Below.refl _ _⟩
  · have e1 : cw 8 n = (n * 8 + 7) / 8 := if_neg hb
    have e2 : ce n = 0 := if_neg hb
    rw [e1, e2]
    have hn : 0 ≤ n := by by_cases h : n < 0; exact absurd (Or.inl h) hb; omega
    have hm : n ≤ 4194304 := by by_cases h : 4194304 < n; exact absurd (Or.inr h) hb; omega
    clear hb e1 e2
    by_cases hr : 0 < n * 8 % 8
    · go_enter Try.func5, Try.ntmps5
      go_wp2
      all_goals go_ret2
      all_goals exact ⟨ret_two (by first | rfl | omega) rfl, Below.refl _ _⟩
    · go_enter Try.func5, Try.ntmps5
      go_wp2
      all_goals go_ret2
      all_goals exact ⟨ret_two (by first | rfl | omega) rfl, Below.refl _ _⟩
theorem rcost5 (n : Int) (h0 : -9223372036854775808 ≤ n) (h1 : n ≤ 9223372036854775807) (w : World) : Calls Try.prog 5 #[.int .i64 5, .int .i64 n] w fun e w' => e = .returned (.tuple #[.int .i64 (cw 8 n), .int .i64 (ce n)]) ∧ Below w.heap.size w w' := by
  by_cases hb : Bad n
  · have e1 : cw 8 n = 0 := if_pos hb
    have e2 : ce n = 42 := if_pos hb
    rw [e1, e2]
    by_cases hn : n < 0
    · clear hb e1 e2
      go_enter Try.func5, Try.ntmps5
      go_wp2
      go_ret2
      exact ⟨rfl, Below.refl _ _⟩
    · have hm : 4194304 < n := by rcases hb with h | h; exact absurd h hn; exact h
      clear hb e1 e2
      go_enter Try.func5, Try.ntmps5
      go_wp2
      go_ret2
      exact ⟨rfl, Below.refl _ _⟩
  · have e1 : cw 8 n = (n * 8 + 7) / 8 := if_neg hb
    have e2 : ce n = 0 := if_neg hb
    rw [e1, e2]
    have hn : 0 ≤ n := by by_cases h : n < 0; exact absurd (Or.inl h) hb; omega
    have hm : n ≤ 4194304 := by by_cases h : 4194304 < n; exact absurd (Or.inr h) hb; omega
    clear hb e1 e2
    by_cases hr : 0 < n * 8 % 8
    · go_enter Try.func5, Try.ntmps5
      go_wp2
      all_goals go_ret2
      all_goals exact ⟨ret_two (by first | rfl | omega) rfl, Below.refl _ _⟩
    · go_enter Try.func5, Try.ntmps5
      go_wp2
      all_goals go_ret2
      all_goals exact ⟨ret_two (by first | rfl | omega) rfl, Below.refl _ _⟩
theorem rcost6 (n : Int) (h0 : -9223372036854775808 ≤ n) (h1 : n ≤ 9223372036854775807) (w : World) : Calls Try.prog 5 #[.int .i64 6, .int .i64 n] w fun e w' => e = .returned (.tuple #[.int .i64 (cw 12 n), .int .i64 (ce n)]) ∧ Below w.heap.size w w' := by
  by_cases hb : Bad n
  · have e1 : cw 12 n = 0 := if_pos hb
    have e2 : ce n = 42 := if_pos hb
    rw [e1, e2]
    by_cases hn : n < 0
    · clear hb e1 e2
      go_enter Try.func5, Try.ntmps5
      go_wp2
      go_ret2
      exact ⟨rfl, Below.refl _ _⟩
    · have hm : 4194304 < n := by rcases hb with h | h; exact absurd h hn; exact h
      clear hb e1 e2
      go_enter Try.func5, Try.ntmps5
      go_wp2
      go_ret2
      exact ⟨rfl, Below.refl _ _⟩
  · have e1 : cw 12 n = (n * 12 + 7) / 8 := if_neg hb
    have e2 : ce n = 0 := if_neg hb
    rw [e1, e2]
    have hn : 0 ≤ n := by by_cases h : n < 0; exact absurd (Or.inl h) hb; omega
    have hm : n ≤ 4194304 := by by_cases h : 4194304 < n; exact absurd (Or.inr h) hb; omega
    clear hb e1 e2
    by_cases hr : 0 < n * 12 % 8
    · go_enter Try.func5, Try.ntmps5
      go_wp2
      all_goals go_ret2
      all_goals exact ⟨ret_two (by first | rfl | omega) rfl, Below.refl _ _⟩
    · go_enter Try.func5, Try.ntmps5
      go_wp2
      all_goals go_ret2
      all_goals exact ⟨ret_two (by first | rfl | omega) rfl, Below.refl _ _⟩
theorem rcost7 (n : Int) (h0 : -9223372036854775808 ≤ n) (h1 : n ≤ 9223372036854775807) (w : World) : Calls Try.prog 5 #[.int .i64 7, .int .i64 n] w fun e w' => e = .returned (.tuple #[.int .i64 (cw 20 n), .int .i64 (ce n)]) ∧ Below w.heap.size w w' := by
  by_cases hb : Bad n
  · have e1 : cw 20 n = 0 := if_pos hb
    have e2 : ce n = 42 := if_pos hb
    rw [e1, e2]
    by_cases hn : n < 0
    · clear hb e1 e2
      go_enter Try.func5, Try.ntmps5
      go_wp2
      go_ret2
      exact ⟨rfl, Below.refl _ _⟩
    · have hm : 4194304 < n := by rcases hb with h | h; exact absurd h hn; exact h
      clear hb e1 e2
      go_enter Try.func5, Try.ntmps5
      go_wp2
      go_ret2
      exact ⟨rfl, Below.refl _ _⟩
  · have e1 : cw 20 n = (n * 20 + 7) / 8 := if_neg hb
    have e2 : ce n = 0 := if_neg hb
    rw [e1, e2]
    have hn : 0 ≤ n := by by_cases h : n < 0; exact absurd (Or.inl h) hb; omega
    have hm : n ≤ 4194304 := by by_cases h : 4194304 < n; exact absurd (Or.inr h) hb; omega
    clear hb e1 e2
    by_cases hr : 0 < n * 20 % 8
    · go_enter Try.func5, Try.ntmps5
      go_wp2
      all_goals go_ret2
      all_goals exact ⟨ret_two (by first | rfl | omega) rfl, Below.refl _ _⟩
    · go_enter Try.func5, Try.ntmps5
      go_wp2
      all_goals go_ret2
      all_goals exact ⟨ret_two (by first | rfl | omega) rfl, Below.refl _ _⟩
theorem rcost8 (n : Int) (h0 : -9223372036854775808 ≤ n) (h1 : n ≤ 9223372036854775807) (w : World) : Calls Try.prog 5 #[.int .i64 8, .int .i64 n] w fun e w' => e = .returned (.tuple #[.int .i64 (cw 64 n), .int .i64 (ce n)]) ∧ Below w.heap.size w w' := by
  by_cases hb : Bad n
  · have e1 : cw 64 n = 0 := if_pos hb
    have e2 : ce n = 42 := if_pos hb
    rw [e1, e2]
    by_cases hn : n < 0
    · clear hb e1 e2
      go_enter Try.func5, Try.ntmps5
      go_wp2
      go_ret2
      exact ⟨rfl, Below.refl _ _⟩
    · have hm : 4194304 < n := by rcases hb with h | h; exact absurd h hn; exact h
      clear hb e1 e2
      go_enter Try.func5, Try.ntmps5
      go_wp2
      go_ret2
      exact ⟨rfl, Below.refl _ _⟩
  · have e1 : cw 64 n = (n * 64 + 7) / 8 := if_neg hb
    have e2 : ce n = 0 := if_neg hb
    rw [e1, e2]
    have hn : 0 ≤ n := by by_cases h : n < 0; exact absurd (Or.inl h) hb; omega
    have hm : n ≤ 4194304 := by by_cases h : 4194304 < n; exact absurd (Or.inr h) hb; omega
    clear hb e1 e2
    by_cases hr : 0 < n * 64 % 8
    · go_enter Try.func5, Try.ntmps5
      go_wp2
      all_goals go_ret2
      all_goals exact ⟨ret_two (by first | rfl | omega) rfl, Below.refl _ _⟩
    · go_enter Try.func5, Try.ntmps5
      go_wp2
      all_goals go_ret2
      all_goals exact ⟨ret_two (by first | rfl | omega) rfl, Below.refl _ _⟩
theorem rcost_any (n : Int) (h0 : -9223372036854775808 ≤ n) (h1 : n ≤ 9223372036854775807) (w : World) : ∀ (k : Nat), k < 9 → Calls Try.prog 5 #[.int .i64 k, .int .i64 n] w fun e w' => e = .returned (.tuple #[.int .i64 (cw (sz k) n), .int .i64 (ce n)]) ∧ Below w.heap.size w w'
  | 0, _ => rcost0 n h0 h1 w
  | 1, _ => rcost1 n h0 h1 w
  | 2, _ => rcost2 n h0 h1 w
  | 3, _ => rcost3 n h0 h1 w
  | 4, _ => rcost4 n h0 h1 w
  | 5, _ => rcost5 n h0 h1 w
  | 6, _ => rcost6 n h0 h1 w
  | 7, _ => rcost7 n h0 h1 w
  | 8, _ => rcost8 n h0 h1 w
set_option maxHeartbeats 800000 in
theorem law (n : Int) (h0 : -9223372036854775808 ≤ n) (h1 : n ≤ 9223372036854775807) (w : World) : Calls Try.prog 3 #[.int .i64 n] w fun e w' => e = .returned (.bool true) ∧ Below w.heap.size w w' := by
  go_enter Try.func3, Try.ntmps3
  go_wp2
  go_loopw [3] (fun i wr => ∃ k : Nat, k ≤ 9 ∧ i = .int .i64 k ∧ Below w.heap.size w wr) (fun i _ => 9 - (intOf i).toNat)
  case atStart => exact ⟨0, by omega, rfl, Below.refl _ _⟩
  case round =>
    obtain ⟨k, hk, rfl, hb⟩ := hrel
    by_cases hlt : k < 9
    · have HA : Hid (∀ w, Calls Try.prog 4 #[.int .i64 k, .int .i64 n] w fun e w' => e = .returned (.tuple #[.int .i64 (cw (sz k) n), .int .i64 (ce n)]) ∧ Below w.heap.size w w') := fun w => cost_any n h0 h1 w k hlt
      have HB : Hid (∀ w, Calls Try.prog 5 #[.int .i64 k, .int .i64 n] w fun e w' => e = .returned (.tuple #[.int .i64 (cw (sz k) n), .int .i64 (ce n)]) ∧ Below w.heap.size w w') := fun w => rcost_any n h0 h1 w k hlt
      go_wp2_with (fail)
      refine (HA.out _).mono ?_
      rintro e9 w9 ⟨rfl, hg⟩
      have hb2 := hb.trans (hg.mono hb.size)
      clear hb hg
      go_wp2_with (fail)
      refine (HB.out _).mono ?_
      rintro e8 w8 ⟨rfl, hg⟩
      have hb3 := hb2.trans (hg.mono hb2.size)
      clear hb2 hg
      go_wp2
      go_roundw
      case rel => exact ⟨k + 1, by omega, by go_num, hb3⟩
      case measure => simp [intOf]; omega
    · obtain rfl : k = 9 := by omega
      go_wp2
      go_ret
      exact ⟨rfl, hb⟩
end Pc
end Go.Proofs.Ytlnbpmhdphcolaa
