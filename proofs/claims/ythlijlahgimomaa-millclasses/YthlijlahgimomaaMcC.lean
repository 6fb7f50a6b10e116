import Derived.Test.YthlijlahgimomaaMcB
namespace Go.Proofs.Ythlijlahgimomaa
namespace Mc
open Go.RowKit
set_option linter.unusedVariables false
set_option maxRecDepth 8000
theorem bAll {B : Nat} {w w1 w2 : World} (h : Below B w w1) (hb : B ≤ w1.heap.size) (v : Array Value) (t : TypeId) (h2 : w2 = w1.alloc (.cells v t)) : Below B w w2 := by rw [h2]; exact h.alloc hb _
set_option maxHeartbeats 8000000 in
theorem rclass_any (e : Int) (w : World) : Calls Try.prog 5 #[.int .i64 e] w fun r w' => r = .returned (.int .i64 (cl e)) ∧ Below w.heap.size w w' := by
  have HI := hide in_any
  have R3 := hide rw3
  have R4 := hide rw4
  have R5 := hide rw5
  have R6 := hide rw6
  have A0 : Hid (Below w.heap.size w w) := Below.refl _ w
  by_cases h0 : e = 0
  · subst h0
    have HR : Hid (cl 0 = 0) := by rfl
    go_enter Try.func5, Try.ntmps5
    go_wp2
    all_goals go_ret
    all_goals exact ⟨ret_int HR.out.symm, A0.out⟩
  have b0 : (e == 0) = false := by simpa using h0
  by_cases g3 : e = 41 ∨ e = 42 ∨ e = 94 ∨ e = 67
  · have HR : Hid (cl e = 3) := by
      show cl e = 3
      unfold cl
      rw [if_neg h0, if_pos g3]
    have k3 : Hid (decide (e ∈ ([41, 42, 94, 67] : List Int)) = true) := decide_eq_true (by simp only [List.mem_cons, List.not_mem_nil, or_false]; exact g3)
    clear h0 g3
    go_enter Try.func5, Try.ntmps5
    go_wp2_with (fail)
    refine (HI.out _ w.heap.size [41, 42, 94, 67] 4 rfl (by omega) (R3.out w) e true k3.out).mono ?_
    rintro r1 w1 ⟨rfl, hw⟩
    have A1 : Hid (Below w.heap.size w w1) := bAll A0.out A0.out.size _ _ hw
    clear hw A0
    go_wp2
    all_goals go_ret
    all_goals exact ⟨ret_int HR.out.symm, A1.out⟩
  have k3 : Hid (decide (e ∈ ([41, 42, 94, 67] : List Int)) = false) := decide_eq_false (by simp only [List.mem_cons, List.not_mem_nil, or_false]; exact g3)
  by_cases g4 : e = 33 ∨ e = 32
  · have HR : Hid (cl e = 4) := by
      show cl e = 4
      unfold cl
      rw [if_neg h0, if_neg g3, if_pos g4]
    have k4 : Hid (decide (e ∈ ([33, 32] : List Int)) = true) := decide_eq_true (by simp only [List.mem_cons, List.not_mem_nil, or_false]; exact g4)
    clear h0 g3 g4
    go_enter Try.func5, Try.ntmps5
    go_wp2_with (fail)
    refine (HI.out _ w.heap.size [41, 42, 94, 67] 4 rfl (by omega) (R3.out w) e false k3.out).mono ?_
    rintro r1 w1 ⟨rfl, hw⟩
    have A1 : Hid (Below w.heap.size w w1) := bAll A0.out A0.out.size _ _ hw
    clear hw A0
    go_wp2_with (fail)
    refine (HI.out _ w1.heap.size [33, 32] 2 rfl (by omega) (R4.out w1) e true k4.out).mono ?_
    rintro r2 w2 ⟨rfl, hw⟩
    have A2 : Hid (Below w.heap.size w w2) := bAll A1.out A1.out.size _ _ hw
    clear hw A1
    go_wp2
    all_goals go_ret
    all_goals exact ⟨ret_int HR.out.symm, A2.out⟩
  have k4 : Hid (decide (e ∈ ([33, 32] : List Int)) = false) := decide_eq_false (by simp only [List.mem_cons, List.not_mem_nil, or_false]; exact g4)
  by_cases g5 : e = 35 ∨ e = 34 ∨ e = 51 ∨ e = 53 ∨ e = 52
  · have HR : Hid (cl e = 5) := by
      show cl e = 5
      unfold cl
      rw [if_neg h0, if_neg g3, if_neg g4, if_pos g5]
    have k5 : Hid (decide (e ∈ ([35, 34, 51, 53, 52] : List Int)) = true) := decide_eq_true (by simp only [List.mem_cons, List.not_mem_nil, or_false]; exact g5)
    clear h0 g3 g4 g5
    go_enter Try.func5, Try.ntmps5
    go_wp2_with (fail)
    refine (HI.out _ w.heap.size [41, 42, 94, 67] 4 rfl (by omega) (R3.out w) e false k3.out).mono ?_
    rintro r1 w1 ⟨rfl, hw⟩
    have A1 : Hid (Below w.heap.size w w1) := bAll A0.out A0.out.size _ _ hw
    clear hw A0
    go_wp2_with (fail)
    refine (HI.out _ w1.heap.size [33, 32] 2 rfl (by omega) (R4.out w1) e false k4.out).mono ?_
    rintro r2 w2 ⟨rfl, hw⟩
    have A2 : Hid (Below w.heap.size w w2) := bAll A1.out A1.out.size _ _ hw
    clear hw A1
    go_wp2_with (fail)
    refine (HI.out _ w2.heap.size [35, 34, 51, 53, 52] 5 rfl (by omega) (R5.out w2) e true k5.out).mono ?_
    rintro r3 w3 ⟨rfl, hw⟩
    have A3 : Hid (Below w.heap.size w w3) := bAll A2.out A2.out.size _ _ hw
    clear hw A2
    go_wp2
    all_goals go_ret
    all_goals exact ⟨ret_int HR.out.symm, A3.out⟩
  have k5 : Hid (decide (e ∈ ([35, 34, 51, 53, 52] : List Int)) = false) := decide_eq_false (by simp only [List.mem_cons, List.not_mem_nil, or_false]; exact g5)
  by_cases g6 : e = 60 ∨ e = 61 ∨ e = 62 ∨ e = 63 ∨ e = 64 ∨ e = 65 ∨ e = 66 ∨ e = 78 ∨ e = 31
  · have HR : Hid (cl e = 6) := by
      show cl e = 6
      unfold cl
      rw [if_neg h0, if_neg g3, if_neg g4, if_neg g5, if_pos g6]
    have k6 : Hid (decide (e ∈ ([60, 61, 62, 63, 64, 65, 66, 78, 31] : List Int)) = true) := decide_eq_true (by simp only [List.mem_cons, List.not_mem_nil, or_false]; exact g6)
    clear h0 g3 g4 g5 g6
    go_enter Try.func5, Try.ntmps5
    go_wp2_with (fail)
    refine (HI.out _ w.heap.size [41, 42, 94, 67] 4 rfl (by omega) (R3.out w) e false k3.out).mono ?_
    rintro r1 w1 ⟨rfl, hw⟩
    have A1 : Hid (Below w.heap.size w w1) := bAll A0.out A0.out.size _ _ hw
    clear hw A0
    go_wp2_with (fail)
    refine (HI.out _ w1.heap.size [33, 32] 2 rfl (by omega) (R4.out w1) e false k4.out).mono ?_
    rintro r2 w2 ⟨rfl, hw⟩
    have A2 : Hid (Below w.heap.size w w2) := bAll A1.out A1.out.size _ _ hw
    clear hw A1
    go_wp2_with (fail)
    refine (HI.out _ w2.heap.size [35, 34, 51, 53, 52] 5 rfl (by omega) (R5.out w2) e false k5.out).mono ?_
    rintro r3 w3 ⟨rfl, hw⟩
    have A3 : Hid (Below w.heap.size w w3) := bAll A2.out A2.out.size _ _ hw
    clear hw A2
    go_wp2_with (fail)
    refine (HI.out _ w3.heap.size [60, 61, 62, 63, 64, 65, 66, 78, 31] 9 rfl (by omega) (R6.out w3) e true k6.out).mono ?_
    rintro r4 w4 ⟨rfl, hw⟩
    have A4 : Hid (Below w.heap.size w w4) := bAll A3.out A3.out.size _ _ hw
    clear hw A3
    go_wp2
    all_goals go_ret
    all_goals exact ⟨ret_int HR.out.symm, A4.out⟩
  have k6 : Hid (decide (e ∈ ([60, 61, 62, 63, 64, 65, 66, 78, 31] : List Int)) = false) := decide_eq_false (by simp only [List.mem_cons, List.not_mem_nil, or_false]; exact g6)
  have HV : ∀ v : Int, (¬ e = 0 → cl e = v) → Hid (cl e = v) := fun v h => h h0
  have HC : cl e = if e = 36 then 7 else if (80 ≤ e ∧ e ≤ 87) ∨ e = 91 ∨ e = 95 then 2 else if (111 ≤ e ∧ e ≤ 114) ∨ e = 121 ∨ e = 141 ∨ e = 13 then 8 else 1 := by
    rw [cl, if_neg h0, if_neg g3, if_neg g4, if_neg g5, if_neg g6]
  clear h0 g3 g4 g5 g6 HV
  have HD := hide HC
  clear HC
  have HC := HD
  clear HD
  by_cases h36 : e = 36
  · have HR : Hid (cl e = 7) := by
      have := HC.out
      rw [h36] at this ⊢
      exact this
    have q : (e == 36) = true := by simpa using h36
    clear HC h36
    go_enter Try.func5, Try.ntmps5
    go_wp2_with (fail)
    refine (HI.out _ w.heap.size [41, 42, 94, 67] 4 rfl (by omega) (R3.out w) e false k3.out).mono ?_
    rintro r1 w1 ⟨rfl, hw⟩
    have A1 : Hid (Below w.heap.size w w1) := bAll A0.out A0.out.size _ _ hw
    clear hw A0
    go_wp2_with (fail)
    refine (HI.out _ w1.heap.size [33, 32] 2 rfl (by omega) (R4.out w1) e false k4.out).mono ?_
    rintro r2 w2 ⟨rfl, hw⟩
    have A2 : Hid (Below w.heap.size w w2) := bAll A1.out A1.out.size _ _ hw
    clear hw A1
    go_wp2_with (fail)
    refine (HI.out _ w2.heap.size [35, 34, 51, 53, 52] 5 rfl (by omega) (R5.out w2) e false k5.out).mono ?_
    rintro r3 w3 ⟨rfl, hw⟩
    have A3 : Hid (Below w.heap.size w w3) := bAll A2.out A2.out.size _ _ hw
    clear hw A2
    go_wp2_with (fail)
    refine (HI.out _ w3.heap.size [60, 61, 62, 63, 64, 65, 66, 78, 31] 9 rfl (by omega) (R6.out w3) e false k6.out).mono ?_
    rintro r4 w4 ⟨rfl, hw⟩
    have A4 : Hid (Below w.heap.size w w4) := bAll A3.out A3.out.size _ _ hw
    clear hw A3
    go_wp2
    all_goals go_ret
    all_goals exact ⟨ret_int HR.out.symm, A4.out⟩
  have b36 : (e == 36) = false := by simpa using h36
  by_cases h91 : e = 91
  · have HR : Hid (cl e = 2) := by
      have := HC.out
      rw [h91] at this ⊢
      exact this
    have q : (e == 91) = true := by simpa using h91
    have f0 : 80 ≤ e := by omega
    have f1 : 87 < e := by omega
    clear HC h91
    go_enter Try.func5, Try.ntmps5
    go_wp2_with (fail)
    refine (HI.out _ w.heap.size [41, 42, 94, 67] 4 rfl (by omega) (R3.out w) e false k3.out).mono ?_
    rintro r1 w1 ⟨rfl, hw⟩
    have A1 : Hid (Below w.heap.size w w1) := bAll A0.out A0.out.size _ _ hw
    clear hw A0
    go_wp2_with (fail)
    refine (HI.out _ w1.heap.size [33, 32] 2 rfl (by omega) (R4.out w1) e false k4.out).mono ?_
    rintro r2 w2 ⟨rfl, hw⟩
    have A2 : Hid (Below w.heap.size w w2) := bAll A1.out A1.out.size _ _ hw
    clear hw A1
    go_wp2_with (fail)
    refine (HI.out _ w2.heap.size [35, 34, 51, 53, 52] 5 rfl (by omega) (R5.out w2) e false k5.out).mono ?_
    rintro r3 w3 ⟨rfl, hw⟩
    have A3 : Hid (Below w.heap.size w w3) := bAll A2.out A2.out.size _ _ hw
    clear hw A2
    go_wp2_with (fail)
    refine (HI.out _ w3.heap.size [60, 61, 62, 63, 64, 65, 66, 78, 31] 9 rfl (by omega) (R6.out w3) e false k6.out).mono ?_
    rintro r4 w4 ⟨rfl, hw⟩
    have A4 : Hid (Below w.heap.size w w4) := bAll A3.out A3.out.size _ _ hw
    clear hw A3
    go_wp2
    all_goals go_ret
    all_goals exact ⟨ret_int HR.out.symm, A4.out⟩
  have b91 : (e == 91) = false := by simpa using h91
  by_cases h95 : e = 95
  · have HR : Hid (cl e = 2) := by
      have := HC.out
      rw [h95] at this ⊢
      exact this
    have q : (e == 95) = true := by simpa using h95
    have f0 : 80 ≤ e := by omega
    have f1 : 87 < e := by omega
    clear HC h95
    go_enter Try.func5, Try.ntmps5
    go_wp2_with (fail)
    refine (HI.out _ w.heap.size [41, 42, 94, 67] 4 rfl (by omega) (R3.out w) e false k3.out).mono ?_
    rintro r1 w1 ⟨rfl, hw⟩
    have A1 : Hid (Below w.heap.size w w1) := bAll A0.out A0.out.size _ _ hw
    clear hw A0
    go_wp2_with (fail)
    refine (HI.out _ w1.heap.size [33, 32] 2 rfl (by omega) (R4.out w1) e false k4.out).mono ?_
    rintro r2 w2 ⟨rfl, hw⟩
    have A2 : Hid (Below w.heap.size w w2) := bAll A1.out A1.out.size _ _ hw
    clear hw A1
    go_wp2_with (fail)
    refine (HI.out _ w2.heap.size [35, 34, 51, 53, 52] 5 rfl (by omega) (R5.out w2) e false k5.out).mono ?_
    rintro r3 w3 ⟨rfl, hw⟩
    have A3 : Hid (Below w.heap.size w w3) := bAll A2.out A2.out.size _ _ hw
    clear hw A2
    go_wp2_with (fail)
    refine (HI.out _ w3.heap.size [60, 61, 62, 63, 64, 65, 66, 78, 31] 9 rfl (by omega) (R6.out w3) e false k6.out).mono ?_
    rintro r4 w4 ⟨rfl, hw⟩
    have A4 : Hid (Below w.heap.size w w4) := bAll A3.out A3.out.size _ _ hw
    clear hw A3
    go_wp2
    all_goals go_ret
    all_goals exact ⟨ret_int HR.out.symm, A4.out⟩
  have b95 : (e == 95) = false := by simpa using h95
  by_cases h121 : e = 121
  · have HR : Hid (cl e = 8) := by
      have := HC.out
      rw [h121] at this ⊢
      exact this
    have q : (e == 121) = true := by simpa using h121
    have f0 : 80 ≤ e := by omega
    have f1 : 87 < e := by omega
    have f2 : 111 ≤ e := by omega
    have f3 : 114 < e := by omega
    clear HC h121
    go_enter Try.func5, Try.ntmps5
    go_wp2_with (fail)
    refine (HI.out _ w.heap.size [41, 42, 94, 67] 4 rfl (by omega) (R3.out w) e false k3.out).mono ?_
    rintro r1 w1 ⟨rfl, hw⟩
    have A1 : Hid (Below w.heap.size w w1) := bAll A0.out A0.out.size _ _ hw
    clear hw A0
    go_wp2_with (fail)
    refine (HI.out _ w1.heap.size [33, 32] 2 rfl (by omega) (R4.out w1) e false k4.out).mono ?_
    rintro r2 w2 ⟨rfl, hw⟩
    have A2 : Hid (Below w.heap.size w w2) := bAll A1.out A1.out.size _ _ hw
    clear hw A1
    go_wp2_with (fail)
    refine (HI.out _ w2.heap.size [35, 34, 51, 53, 52] 5 rfl (by omega) (R5.out w2) e false k5.out).mono ?_
    rintro r3 w3 ⟨rfl, hw⟩
    have A3 : Hid (Below w.heap.size w w3) := bAll A2.out A2.out.size _ _ hw
    clear hw A2
    go_wp2_with (fail)
    refine (HI.out _ w3.heap.size [60, 61, 62, 63, 64, 65, 66, 78, 31] 9 rfl (by omega) (R6.out w3) e false k6.out).mono ?_
    rintro r4 w4 ⟨rfl, hw⟩
    have A4 : Hid (Below w.heap.size w w4) := bAll A3.out A3.out.size _ _ hw
    clear hw A3
    go_wp2
    all_goals go_ret
    all_goals exact ⟨ret_int HR.out.symm, A4.out⟩
  have b121 : (e == 121) = false := by simpa using h121
  by_cases h141 : e = 141
  · have HR : Hid (cl e = 8) := by
      have := HC.out
      rw [h141] at this ⊢
      exact this
    have q : (e == 141) = true := by simpa using h141
    have f0 : 80 ≤ e := by omega
    have f1 : 87 < e := by omega
    have f2 : 111 ≤ e := by omega
    have f3 : 114 < e := by omega
    clear HC h141
    go_enter Try.func5, Try.ntmps5
    go_wp2_with (fail)
    refine (HI.out _ w.heap.size [41, 42, 94, 67] 4 rfl (by omega) (R3.out w) e false k3.out).mono ?_
    rintro r1 w1 ⟨rfl, hw⟩
    have A1 : Hid (Below w.heap.size w w1) := bAll A0.out A0.out.size _ _ hw
    clear hw A0
    go_wp2_with (fail)
    refine (HI.out _ w1.heap.size [33, 32] 2 rfl (by omega) (R4.out w1) e false k4.out).mono ?_
    rintro r2 w2 ⟨rfl, hw⟩
    have A2 : Hid (Below w.heap.size w w2) := bAll A1.out A1.out.size _ _ hw
    clear hw A1
    go_wp2_with (fail)
    refine (HI.out _ w2.heap.size [35, 34, 51, 53, 52] 5 rfl (by omega) (R5.out w2) e false k5.out).mono ?_
    rintro r3 w3 ⟨rfl, hw⟩
    have A3 : Hid (Below w.heap.size w w3) := bAll A2.out A2.out.size _ _ hw
    clear hw A2
    go_wp2_with (fail)
    refine (HI.out _ w3.heap.size [60, 61, 62, 63, 64, 65, 66, 78, 31] 9 rfl (by omega) (R6.out w3) e false k6.out).mono ?_
    rintro r4 w4 ⟨rfl, hw⟩
    have A4 : Hid (Below w.heap.size w w4) := bAll A3.out A3.out.size _ _ hw
    clear hw A3
    go_wp2
    all_goals go_ret
    all_goals exact ⟨ret_int HR.out.symm, A4.out⟩
  have b141 : (e == 141) = false := by simpa using h141
  by_cases h13 : e = 13
  · have HR : Hid (cl e = 8) := by
      have := HC.out
      rw [h13] at this ⊢
      exact this
    have q : (e == 13) = true := by simpa using h13
    have f0 : e < 80 := by omega
    have f1 : e < 111 := by omega
    clear HC h13
    go_enter Try.func5, Try.ntmps5
    go_wp2_with (fail)
    refine (HI.out _ w.heap.size [41, 42, 94, 67] 4 rfl (by omega) (R3.out w) e false k3.out).mono ?_
    rintro r1 w1 ⟨rfl, hw⟩
    have A1 : Hid (Below w.heap.size w w1) := bAll A0.out A0.out.size _ _ hw
    clear hw A0
    go_wp2_with (fail)
    refine (HI.out _ w1.heap.size [33, 32] 2 rfl (by omega) (R4.out w1) e false k4.out).mono ?_
    rintro r2 w2 ⟨rfl, hw⟩
    have A2 : Hid (Below w.heap.size w w2) := bAll A1.out A1.out.size _ _ hw
    clear hw A1
    go_wp2_with (fail)
    refine (HI.out _ w2.heap.size [35, 34, 51, 53, 52] 5 rfl (by omega) (R5.out w2) e false k5.out).mono ?_
    rintro r3 w3 ⟨rfl, hw⟩
    have A3 : Hid (Below w.heap.size w w3) := bAll A2.out A2.out.size _ _ hw
    clear hw A2
    go_wp2_with (fail)
    refine (HI.out _ w3.heap.size [60, 61, 62, 63, 64, 65, 66, 78, 31] 9 rfl (by omega) (R6.out w3) e false k6.out).mono ?_
    rintro r4 w4 ⟨rfl, hw⟩
    have A4 : Hid (Below w.heap.size w w4) := bAll A3.out A3.out.size _ _ hw
    clear hw A3
    go_wp2
    all_goals go_ret
    all_goals exact ⟨ret_int HR.out.symm, A4.out⟩
  have b13 : (e == 13) = false := by simpa using h13
  by_cases c1 : 80 ≤ e ∧ e ≤ 87
  · have HR : Hid (cl e = 2) := by
      have := HC.out
      rw [if_neg h36, if_pos (Or.inl c1)] at this
      exact this
    obtain ⟨d1, d2⟩ := c1
    clear HC h36 h91 h95 h121 h141 h13
    go_enter Try.func5, Try.ntmps5
    go_wp2_with (fail)
    refine (HI.out _ w.heap.size [41, 42, 94, 67] 4 rfl (by omega) (R3.out w) e false k3.out).mono ?_
    rintro r1 w1 ⟨rfl, hw⟩
    have A1 : Hid (Below w.heap.size w w1) := bAll A0.out A0.out.size _ _ hw
    clear hw A0
    go_wp2_with (fail)
    refine (HI.out _ w1.heap.size [33, 32] 2 rfl (by omega) (R4.out w1) e false k4.out).mono ?_
    rintro r2 w2 ⟨rfl, hw⟩
    have A2 : Hid (Below w.heap.size w w2) := bAll A1.out A1.out.size _ _ hw
    clear hw A1
    go_wp2_with (fail)
    refine (HI.out _ w2.heap.size [35, 34, 51, 53, 52] 5 rfl (by omega) (R5.out w2) e false k5.out).mono ?_
    rintro r3 w3 ⟨rfl, hw⟩
    have A3 : Hid (Below w.heap.size w w3) := bAll A2.out A2.out.size _ _ hw
    clear hw A2
    go_wp2_with (fail)
    refine (HI.out _ w3.heap.size [60, 61, 62, 63, 64, 65, 66, 78, 31] 9 rfl (by omega) (R6.out w3) e false k6.out).mono ?_
    rintro r4 w4 ⟨rfl, hw⟩
    have A4 : Hid (Below w.heap.size w w4) := bAll A3.out A3.out.size _ _ hw
    clear hw A3
    go_wp2
    all_goals go_ret
    all_goals exact ⟨ret_int HR.out.symm, A4.out⟩
  by_cases c2 : 111 ≤ e ∧ e ≤ 114
  · have HR : Hid (cl e = 8) := by
      have := HC.out
      rw [if_neg h36, if_neg (by omega), if_pos (Or.inl c2)] at this
      exact this
    obtain ⟨d1, d2⟩ := c2
    clear HC h36 h91 h95 h121 h141 h13 c1
    go_enter Try.func5, Try.ntmps5
    go_wp2_with (fail)
    refine (HI.out _ w.heap.size [41, 42, 94, 67] 4 rfl (by omega) (R3.out w) e false k3.out).mono ?_
    rintro r1 w1 ⟨rfl, hw⟩
    have A1 : Hid (Below w.heap.size w w1) := bAll A0.out A0.out.size _ _ hw
    clear hw A0
    go_wp2_with (fail)
    refine (HI.out _ w1.heap.size [33, 32] 2 rfl (by omega) (R4.out w1) e false k4.out).mono ?_
    rintro r2 w2 ⟨rfl, hw⟩
    have A2 : Hid (Below w.heap.size w w2) := bAll A1.out A1.out.size _ _ hw
    clear hw A1
    go_wp2_with (fail)
    refine (HI.out _ w2.heap.size [35, 34, 51, 53, 52] 5 rfl (by omega) (R5.out w2) e false k5.out).mono ?_
    rintro r3 w3 ⟨rfl, hw⟩
    have A3 : Hid (Below w.heap.size w w3) := bAll A2.out A2.out.size _ _ hw
    clear hw A2
    go_wp2_with (fail)
    refine (HI.out _ w3.heap.size [60, 61, 62, 63, 64, 65, 66, 78, 31] 9 rfl (by omega) (R6.out w3) e false k6.out).mono ?_
    rintro r4 w4 ⟨rfl, hw⟩
    have A4 : Hid (Below w.heap.size w w4) := bAll A3.out A3.out.size _ _ hw
    clear hw A3
    go_wp2
    all_goals go_ret
    all_goals exact ⟨ret_int HR.out.symm, A4.out⟩
  have HR : Hid (cl e = 1) := by
    have := HC.out
    rw [if_neg h36, if_neg (by omega), if_neg (by omega)] at this
    exact this
  have hc : e < 80 ∨ (87 < e ∧ e < 111) ∨ 114 < e := by omega
  clear HC h36 h91 h95 h121 h141 h13 c1 c2
  go_enter Try.func5, Try.ntmps5
  go_wp2_with (fail)
  refine (HI.out _ w.heap.size [41, 42, 94, 67] 4 rfl (by omega) (R3.out w) e false k3.out).mono ?_
  rintro r1 w1 ⟨rfl, hw⟩
  have A1 : Hid (Below w.heap.size w w1) := bAll A0.out A0.out.size _ _ hw
  clear hw A0
  go_wp2_with (fail)
  refine (HI.out _ w1.heap.size [33, 32] 2 rfl (by omega) (R4.out w1) e false k4.out).mono ?_
  rintro r2 w2 ⟨rfl, hw⟩
  have A2 : Hid (Below w.heap.size w w2) := bAll A1.out A1.out.size _ _ hw
  clear hw A1
  go_wp2_with (fail)
  refine (HI.out _ w2.heap.size [35, 34, 51, 53, 52] 5 rfl (by omega) (R5.out w2) e false k5.out).mono ?_
  rintro r3 w3 ⟨rfl, hw⟩
  have A3 : Hid (Below w.heap.size w w3) := bAll A2.out A2.out.size _ _ hw
  clear hw A2
  go_wp2_with (fail)
  refine (HI.out _ w3.heap.size [60, 61, 62, 63, 64, 65, 66, 78, 31] 9 rfl (by omega) (R6.out w3) e false k6.out).mono ?_
  rintro r4 w4 ⟨rfl, hw⟩
  have A4 : Hid (Below w.heap.size w w4) := bAll A3.out A3.out.size _ _ hw
  clear hw A3
  rcases hc with c1 | ⟨c1, c2⟩ | c1
  all_goals go_wp2
  all_goals go_ret
  all_goals exact ⟨ret_int HR.out.symm, A4.out⟩
end Mc
end Go.Proofs.Ythlijlahgimomaa
