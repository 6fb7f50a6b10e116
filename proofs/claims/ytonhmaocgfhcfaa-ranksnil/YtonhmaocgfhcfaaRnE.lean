import Derived.Test.YtonhmaocgfhcfaaRnD
namespace Go.Proofs.Ytonhmaocgfhcfaa
namespace Rn
open Go.RowKit
set_option linter.unusedVariables false
set_option maxRecDepth 8000
theorem num_an (e : Int) (w : World) : Calls Try.prog 10 #[.int .i64 e] w fun e' w' => e' = .returned (.int .i64 e) ∧ w' = w := by
  go_enter Try.func10, Try.ntmps10
  go_wp2
  go_ret
  exact ⟨rfl, rfl⟩
abbrev Z8 (b : Nat) (w : World) : Prop := w.cell? ⟨b, 0, none⟩ = some (.int .u64 0) ∧ w.cell? ⟨b, 1, none⟩ = some (.int .u64 0) ∧ w.cell? ⟨b, 2, none⟩ = some (.int .u64 0) ∧ w.cell? ⟨b, 3, none⟩ = some (.int .u64 0) ∧ w.cell? ⟨b, 4, none⟩ = some (.int .u64 0) ∧ w.cell? ⟨b, 5, none⟩ = some (.int .u64 0) ∧ w.cell? ⟨b, 6, none⟩ = some (.int .u64 0) ∧ w.cell? ⟨b, 7, none⟩ = some (.int .u64 0)
abbrev Z4 (b : Nat) (w : World) : Prop := w.cell? ⟨b, 0, none⟩ = some (.int .u64 0) ∧ w.cell? ⟨b, 1, none⟩ = some (.int .u64 0) ∧ w.cell? ⟨b, 2, none⟩ = some (.int .u64 0) ∧ w.cell? ⟨b, 3, none⟩ = some (.int .u64 0)
theorem zz8 {w : World} {b : Nat} {t : TypeId} (h : w.heap[b]? = some (.cells z8 t (0, 0))) : Z8 b w := k8 (c := fun _ => 0) h
theorem zz4 {w : World} {b : Nat} {t : TypeId} (h : w.heap[b]? = some (.cells z4 t (0, 0))) : Z4 b w := k4 (c := fun _ => 0) h
theorem eq24 (w : World) : (Op.equalIn 10000 24 (.agg z8) (.agg z8)).run Try.prog w = .ok true w := by
  have uU := Try.underlying22
  have aU := Try.isAgg22
  have zU := Try.sizeOf22
  rw [show (10000 : Nat) = 9999 + 1 from rfl, Op.equalIn]
  simp only [Sem.run_bind, run_underlying Try.underlying24, Result.andThen_ok]
  simp only [Std.Legacy.Range.forIn_eq_forIn_range', Std.Legacy.Range.size, Nat.sub_zero, Nat.add_sub_cancel, Nat.div_one, List.range'_succ, List.range'_zero, List.forIn_cons, List.forIn_nil]
  go_simp
theorem eq26 (w : World) : (Op.equalIn 10000 26 (.agg z4) (.agg z4)).run Try.prog w = .ok true w := by
  have uU := Try.underlying22
  have aU := Try.isAgg22
  have zU := Try.sizeOf22
  rw [show (10000 : Nat) = 9999 + 1 from rfl, Op.equalIn]
  simp only [Sem.run_bind, run_underlying Try.underlying26, Result.andThen_ok]
  simp only [Std.Legacy.Range.forIn_eq_forIn_range', Std.Legacy.Range.size, Nat.sub_zero, Nat.add_sub_cancel, Nat.div_one, List.range'_succ, List.range'_zero, List.forIn_cons, List.forIn_nil]
  go_simp
/-- The law's own variables lie in the first three blocks. -/
abbrev V3 (b : Nat) (s c : Nat → Int) (x y z : Int) (W : World) : Prop := K8 b s W ∧ K4 (b + 1) c W ∧ K3 (b + 1 + 1) x y z W
/-- A world that has grown. -/
def Gr (n : Nat) (w w' : World) : Prop := Below n w w'
theorem kept {n b : Nat} {w w' : World} {o : Obj} (h : w.heap[b]? = some o) (hb : b < n) (B : Below n w w') : w'.heap[b]? = some o := (B.block b hb).trans h
set_option maxHeartbeats 8000000 in
theorem nil_any (s c : Nat → Int) (x y z v : Int) (w : World) : Calls Try.prog 3 #[.agg (sv s), .agg (cv c), .agg (ev x y z), .int .u32 v] w fun e w' => e = .returned (.bool true) ∧ Below w.heap.size w w' := by
  have H1 := hide (start_none v 0 0)
  have H2 := hide (scatter_none c s x y z false)
  have H3 := hide (apply_none c s v s)
  have H4 := hide (fold_none c s v s)
  have H5 := hide (turn_none c s 1 1)
  have H6 := hide words_none
  have H7 := hide both_none
  have H8 := hide sink_none
  have HU := hide num_an
  have E8 := eq24
  have E4 := eq26
  have HZ : Hid ((((w.alloc (.cells (sv s) 24)).alloc (.cells (cv c) 26)).alloc (.cells (ev x y z) 29)).heap.size = w.heap.size + 1 + 1 + 1) := by show _ = _; simp only [World.size_alloc]
  have HV : Hid (∀ W, Below (w.heap.size + 1 + 1 + 1) (((w.alloc (.cells (sv s) 24)).alloc (.cells (cv c) 26)).alloc (.cells (ev x y z) 29)) W → V3 w.heap.size s c x y z W) := fun W hB => by
    refine ⟨K8.on (k8 (t := 24) (keep _ (keep _ (at0 _ _)))) hB (by omega), ?_, ?_⟩
    · have h1 := keep (.cells (ev x y z) 29) (at0 (w.alloc (.cells (sv s) 24)) (.cells (cv c) 26))
      simp only [World.size_alloc] at h1; exact K4.on (k4 (t := 26) h1) hB (by omega)
    · have h1 := at0 ((w.alloc (.cells (sv s) 24)).alloc (.cells (cv c) 26)) (.cells (ev x y z) 29)
      simp only [World.size_alloc] at h1; exact K3.on (k3 (t := 29) h1) hB (by omega)
  have HB0 : Hid (Below w.heap.size w (((w.alloc (.cells (sv s) 24)).alloc (.cells (cv c) 26)).alloc (.cells (ev x y z) 29))) := by repeat first | exact Below.refl _ _ | refine belowD ?_ | refine belowN ?_ _ | refine bA ?_ (by first | exact Nat.le_refl _ | (simp only [World.size_alloc]; omega)) _
  go_enter Try.func3, Try.ntmps3
  go_wp2_with (fail)
  refine (H1.out _).mono ?_
  rintro e1 w1 ⟨rfl, hB1⟩
  rw [HZ.out] at hB1
  have S1 := hide hB1.size
  rw [HZ.out] at S1
  have A1 := hide (bA hB1 S1.out (.cells z8 24))
  have Q1 := hide (at0 w1 (.cells z8 24))
  have hv := HV.out _ A1.out
  clear hB1
  go_wp2_with (fail)
  refine (H2.out _).mono ?_
  rintro e2 w2 ⟨rfl, hB2⟩
  have A2 := hide (A1.out.trans (hB2.mono (by simp only [World.size_alloc]; exact Nat.le_succ_of_le S1.out)))
  have P2 := hide (kept Q1.out (by simp) hB2)
  have S2 : Hid (w1.heap.size + 1 ≤ w2.heap.size) := by show _ ≤ _; have h := hB2.size; simpa using h
  clear hv hB2
  have hv := HV.out _ A2.out
  go_wp2_with (fail)
  refine (H3.out _).mono ?_
  rintro e3 w3 ⟨rfl, hB3⟩
  have S3' : Hid (w2.heap.size ≤ w3.heap.size) := hB3.size
  have A3 := hide (bA (A2.out.trans (hB3.mono (by have := S1.out; have := S2.out; omega))) (by have := S1.out; have := S2.out; have := S3'.out; omega) (.cells z8 24))
  have P3 := hide (keep (.cells z8 24) (kept P2.out (by have := S2.out; omega) hB3))
  have Q3 := hide (at0 w3 (.cells z8 24))
  clear hv hB3
  have hv := HV.out _ A3.out
  go_wp2_with (fail)
  refine (H4.out _).mono ?_
  rintro e4 w4 ⟨rfl, hB4⟩
  have S4 : Hid (w3.heap.size + 1 ≤ w4.heap.size) := by show _ ≤ _; have h := hB4.size; simpa using h
  have A4 := hide (bA (A3.out.trans (hB4.mono (by simp only [World.size_alloc]; have := S1.out; have := S2.out; have := S3'.out; omega))) (by have := S1.out; have := S2.out; have := S3'.out; have := S4.out; omega) (.cells z8 24))
  have P4a := hide (keep (.cells z8 24) (kept P3.out (by simp only [World.size_alloc]; have := S2.out; have := S3'.out; omega) hB4))
  have P4b := hide (keep (.cells z8 24) (kept Q3.out (by simp only [World.size_alloc]; omega) hB4))
  have Q4 := hide (at0 w4 (.cells z8 24))
  clear hv hB4
  have hv := HV.out _ A4.out
  go_wp2_with (fail)
  refine (H5.out _).mono ?_
  rintro e5 w5 ⟨rfl, hB5⟩
  have S5 : Hid (w4.heap.size + 1 ≤ w5.heap.size) := by show _ ≤ _; have h := hB5.size; simpa using h
  have A5 := hide (bA (bA (A4.out.trans (hB5.mono (by simp only [World.size_alloc]; have := S1.out; have := S2.out; have := S3'.out; have := S4.out; omega))) (by have := S1.out; have := S2.out; have := S3'.out; have := S4.out; have := S5.out; omega) (.cells z4 26)) (by simp only [World.size_alloc]; have := S1.out; have := S2.out; have := S3'.out; have := S4.out; have := S5.out; omega) (.cells z8 24))
  have f1 := zz8 (keep (.cells z8 24) (keep (.cells z4 26) (kept P4a.out (by simp only [World.size_alloc]; have := S2.out; have := S3'.out; have := S4.out; omega) hB5)))
  have f3 := zz8 (keep (.cells z8 24) (keep (.cells z4 26) (kept P4b.out (by simp only [World.size_alloc]; have := S4.out; omega) hB5)))
  have f4 := zz8 (keep (.cells z8 24) (keep (.cells z4 26) (kept Q4.out (by simp only [World.size_alloc]; omega) hB5)))
  have f5 := zz4 (keep (.cells z8 24) (at0 w5 (.cells z4 26)))
  have f6 := zz8 (at0 (w5.alloc (.cells z4 26)) (.cells z8 24))
  rw [World.size_alloc] at f6
  clear hv hB5
  have HBE : Hid (Below w.heap.size w ((w5.alloc (.cells z4 26)).alloc (.cells z8 24))) := HB0.out.trans (A5.out.mono (by omega))
  have HSE : Hid (w.heap.size ≤ w5.heap.size) := by show _ ≤ _; have := S1.out; have := S2.out; have := S3'.out; have := S4.out; have := S5.out; omega
  clear A1 A2 A3 A4 A5 P2 P3 P4a P4b Q1 Q3 Q4 S1 S2 S3' S4 S5 H1 H2 H3 H4 H5
  go_wp2_with (first | (go_at_call 10; refine (HU.out _ _).mono ?_; rintro e9 w9 ⟨rfl, hw9⟩; subst w9) | (go_at_call 11; refine (H6.out _).mono ?_; rintro e9 w9 ⟨rfl, hw9⟩; subst w9) | (go_at_call 12; refine (H7.out _).mono ?_; rintro e9 w9 ⟨rfl, hw9⟩; subst w9) | (go_at_call 13; refine (H8.out _).mono ?_; rintro e9 w9 ⟨rfl, hw9⟩; subst w9))
  all_goals go_ret
  all_goals exact ⟨rfl, by repeat first | exact HBE.out | refine bA ?_ (by simp only [World.size_alloc]; have := HSE.out; omega) _⟩
end Rn
end Go.Proofs.Ytonhmaocgfhcfaa
