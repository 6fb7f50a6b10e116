import Derived.Test.YtdfgknmajcehiaaPnD
import Derived.Test.YtdfgknmajcehiaaPeC
namespace Go.Proofs.Ytdfgknmajcehiaa
namespace Pe
open Go.RowKit
set_option linter.unusedVariables false
set_option maxRecDepth 8000
abbrev Z8 (b : Nat) (w : World) : Prop := w.cell? ⟨b, 0, none⟩ = some (.int .u64 0) ∧ w.cell? ⟨b, 1, none⟩ = some (.int .u64 0) ∧ w.cell? ⟨b, 2, none⟩ = some (.int .u64 0) ∧ w.cell? ⟨b, 3, none⟩ = some (.int .u64 0) ∧ w.cell? ⟨b, 4, none⟩ = some (.int .u64 0) ∧ w.cell? ⟨b, 5, none⟩ = some (.int .u64 0) ∧ w.cell? ⟨b, 6, none⟩ = some (.int .u64 0) ∧ w.cell? ⟨b, 7, none⟩ = some (.int .u64 0)
abbrev Z4 (b : Nat) (w : World) : Prop := w.cell? ⟨b, 0, none⟩ = some (.int .u64 0) ∧ w.cell? ⟨b, 1, none⟩ = some (.int .u64 0) ∧ w.cell? ⟨b, 2, none⟩ = some (.int .u64 0) ∧ w.cell? ⟨b, 3, none⟩ = some (.int .u64 0)
theorem zz8 {w : World} {b : Nat} {t : TypeId} (h : w.heap[b]? = some (.cells z8 t (0, 0))) : Z8 b w := k8 (c := fun _ => 0) h
theorem zz4 {w : World} {b : Nat} {t : TypeId} (h : w.heap[b]? = some (.cells z4 t (0, 0))) : Z4 b w := k4 (c := fun _ => 0) h
theorem eq24 (w : World) : (Op.equalIn 10000 24 (.agg z8) (.agg z8)).run Try.prog w = .ok true w := by
  have uU := Try.underlying22
  have aU := Try.isAgg22
  have zU := Try.sizeOf22
  rw [show (10000 : Nat) = 9999 + 1 from rfl, Op.equalIn]
  simp only [Sem.run_bind, run_underlying Try.underlying24, Result.andThen_ok]
  simp only [Std.Legacy.Range.forIn_eq_forIn_range', Std.Legacy.Range.size, Nat.sub_zero, Nat.add_sub_cancel, Nat.div_one, List.range'_succ, List.range'_zero, List.forIn_cons, List.forIn_nil]
  go_simp
theorem eq38 (w : World) : (Op.equalIn 10000 38 (.agg z4) (.agg z4)).run Try.prog w = .ok true w := by
  have uU := Try.underlying22
  have aU := Try.isAgg22
  have zU := Try.sizeOf22
  rw [show (10000 : Nat) = 9999 + 1 from rfl, Op.equalIn]
  simp only [Sem.run_bind, run_underlying Try.underlying38, Result.andThen_ok]
  simp only [Std.Legacy.Range.forIn_eq_forIn_range', Std.Legacy.Range.size, Nat.sub_zero, Nat.add_sub_cancel, Nat.div_one, List.range'_succ, List.range'_zero, List.forIn_cons, List.forIn_nil]
  go_simp
theorem kept {n b : Nat} {w w' : World} {o : Obj} (h : w.heap[b]? = some o) (hb : b < n) (B : Below n w w') : w'.heap[b]? = some o := (B.block b hb).trans h
def k5 : Nat → Int | 0 => 5 | _ => 0
def k0 : Nat → Int | _ => 0
abbrev v8 : Array Value := #[.int .u64 5, .int .u64 0, .int .u64 0, .int .u64 0, .int .u64 0, .int .u64 0, .int .u64 0, .int .u64 0]
abbrev v4 : Array Value := #[.int .u64 5, .int .u64 0, .int .u64 0, .int .u64 0]
theorem apply_c (w : World) : Calls Try.prog 11 #[.pointer none, .agg z4, .agg z8, .int .u32 1, .agg v8] w fun e w' => e = .returned (.tuple #[.agg z8, .bool false, .int .i64 1]) ∧ Below w.heap.size w w' := apply_none k0 k0 1 k5 w
theorem fold_c (w : World) : Calls Try.prog 12 #[.pointer none, .agg z4, .agg v8, .int .u32 1, .agg z8] w fun e w' => e = .returned (.tuple #[.agg z8, .int .i64 1]) ∧ Below w.heap.size w w' := fold_none k0 k5 1 k0 w
theorem turn_c (w : World) : Calls Try.prog 13 #[.pointer none, .agg v4, .agg z8, .int .u64 1, .int .i64 1] w fun e w' => e = .returned (.tuple #[.agg z4, .bool false, .int .i64 1]) ∧ Below w.heap.size w w' := turn_none k5 k0 1 1 w
theorem scatter_c (w : World) : Calls Try.prog 10 #[.pointer none, .agg z4, .agg z8, .agg #[.int .u32 0, .int .u32 1, .int .u32 0], .bool false] w fun e w' => e = .returned (.tuple #[.int .u64 0, .int .u64 0, .bool false, .int .i64 1]) ∧ Below w.heap.size w w' := scatter_none k0 k0 0 1 0 false w
set_option maxHeartbeats 8000000 in
theorem names_any (w : World) : Calls Try.prog 4 #[] w fun e w' => e = .returned (.bool true) ∧ Below w.heap.size w w' := by
  have H1 := hide (start_none 1 3 0)
  have H2 := hide scatter_c
  have H3 := hide apply_c
  have H4 := hide fold_c
  have H5 := hide turn_c
  have H6 := hide words_none
  have H7 := hide both_none
  have H8 := hide sink_none
  have HU := hide num_any
  have E8 := eq24
  have E4 := eq38
  go_enter Try.func4, Try.ntmps4
  go_wp2_with (fail)
  refine (H1.out _).mono ?_
  rintro e1 w1 ⟨rfl, hB1⟩
  have A1 := hide (bA hB1 hB1.size (.cells z8 24))
  have Q1 := hide (at0 w1 (.cells z8 24))
  have S1 : Hid (w.heap.size ≤ w1.heap.size) := hB1.size
  clear hB1
  go_wp2_with (fail)
  refine (H2.out _).mono ?_
  rintro e2 w2 ⟨rfl, hB2⟩
  have A2 := hide (A1.out.trans (hB2.mono (by simp only [World.size_alloc]; exact Nat.le_succ_of_le S1.out)))
  have P2 := hide (kept Q1.out (by simp) hB2)
  have S2 : Hid (w1.heap.size + 1 ≤ w2.heap.size) := by show _ ≤ _; have h := hB2.size; simpa using h
  clear hB2
  go_wp2_with (fail)
  refine (H3.out _).mono ?_
  rintro e3 w3 ⟨rfl, hB3⟩
  have S3' : Hid (w2.heap.size ≤ w3.heap.size) := hB3.size
  have A3 := hide (bA (A2.out.trans (hB3.mono (by have := S1.out; have := S2.out; omega))) (by have := S1.out; have := S2.out; have := S3'.out; omega) (.cells z8 24))
  have P3 := hide (keep (.cells z8 24) (kept P2.out (by have := S2.out; omega) hB3))
  have Q3 := hide (at0 w3 (.cells z8 24))
  clear hB3
  go_wp2_with (fail)
  refine (H4.out _).mono ?_
  rintro e4 w4 ⟨rfl, hB4⟩
  have S4 : Hid (w3.heap.size + 1 ≤ w4.heap.size) := by show _ ≤ _; have h := hB4.size; simpa using h
  have A4 := hide (bA (A3.out.trans (hB4.mono (by simp only [World.size_alloc]; have := S1.out; have := S2.out; have := S3'.out; omega))) (by have := S1.out; have := S2.out; have := S3'.out; have := S4.out; omega) (.cells z8 24))
  have P4a := hide (keep (.cells z8 24) (kept P3.out (by simp only [World.size_alloc]; have := S2.out; have := S3'.out; omega) hB4))
  have P4b := hide (keep (.cells z8 24) (kept Q3.out (by simp only [World.size_alloc]; omega) hB4))
  have Q4 := hide (at0 w4 (.cells z8 24))
  clear hB4
  go_wp2_with (fail)
  refine (H5.out _).mono ?_
  rintro e5 w5 ⟨rfl, hB5⟩
  have S5 : Hid (w4.heap.size + 1 ≤ w5.heap.size) := by show _ ≤ _; have h := hB5.size; simpa using h
  have A5 := hide (bA (A4.out.trans (hB5.mono (by simp only [World.size_alloc]; have := S1.out; have := S2.out; have := S3'.out; have := S4.out; omega))) (by have := S1.out; have := S2.out; have := S3'.out; have := S4.out; have := S5.out; omega) (.cells z4 38))
  have f1 := zz8 (keep (.cells z4 38) (kept P4a.out (by simp only [World.size_alloc]; have := S2.out; have := S3'.out; have := S4.out; omega) hB5))
  have f3 := zz8 (keep (.cells z4 38) (kept P4b.out (by simp only [World.size_alloc]; have := S4.out; omega) hB5))
  have f4 := zz8 (keep (.cells z4 38) (kept Q4.out (by simp only [World.size_alloc]; omega) hB5))
  have f5 := zz4 (at0 w5 (.cells z4 38))
  clear hB5
  have HSE : Hid (w.heap.size ≤ w5.heap.size) := by show _ ≤ _; have := S1.out; have := S2.out; have := S3'.out; have := S4.out; have := S5.out; omega
  clear A1 A2 A3 A4 P2 P3 P4a P4b Q1 Q3 Q4 S1 S2 S3' S4 S5 H1 H2 H3 H4 H5
  go_wp2_with (first | (go_at_call 14; refine (HU.out _ _).mono ?_; rintro e9 w9 ⟨rfl, hw9⟩; subst w9) | (go_at_call 15; refine (H6.out _).mono ?_; rintro e9 w9 ⟨rfl, hw9⟩; subst w9) | (go_at_call 16; refine (H7.out _).mono ?_; rintro e9 w9 ⟨rfl, hw9⟩; subst w9) | (go_at_call 17; refine (H8.out _).mono ?_; rintro e9 w9 ⟨rfl, hw9⟩; subst w9))
  all_goals go_ret
  all_goals exact ⟨rfl, by repeat first | exact A5.out | refine bA ?_ (by simp only [World.size_alloc]; have := HSE.out; omega) _⟩
end Pe
end Go.Proofs.Ytdfgknmajcehiaa
