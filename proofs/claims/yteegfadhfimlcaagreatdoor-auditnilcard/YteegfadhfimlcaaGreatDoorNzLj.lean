import Derived.Test.YteegfadhfimlcaaGreatDoorNzLi
namespace Go.Proofs.YteegfadhfimlcaaGreatDoor
namespace Rn
open Go.RowKit
set_option linter.unusedVariables false
set_option maxRecDepth 8000
theorem cell1 (w : World) (t : TypeId) (v : Value) : (w.alloc (.cells #[v] t)).cell? ⟨w.heap.size, 0, none⟩ = some v := (cell_of_row _ _ _ _ _ _ (at0 w (.cells #[v] t))).trans rfl
theorem resn4 (T : Array Value) (b : Nat) (a c d : Value) (W : World) (h10 : T[10]? = some (.pointer (some ⟨b, 0, none⟩))) {E : Int} (h11 : T[11]? = some (.int .i64 E)) (h : W.heap[b]? = some (.cells #[a, c, d] 36 (0, 0))) :
    (results Tryz.f4 T).run Tryz.prog W = .ok (.tuple #[.agg #[a, c, d], .int .i64 E]) W := by
  have h0 : W.cell? ⟨b, 0, none⟩ = some a := (cell_of_row _ _ _ _ _ _ h).trans rfl
  have h1 : W.cell? ⟨b, 1, none⟩ = some c := (cell_of_row _ _ _ _ _ _ h).trans rfl
  have h2 : W.cell? ⟨b, 2, none⟩ = some d := (cell_of_row _ _ _ _ _ _ h).trans rfl
  simp [results, Tryz.f4, go_sem, h10, h11, h0, h1, h2]
theorem resn5 (T : Array Value) (b : Nat) (a c d : Value) (W : World) (h10 : T[10]? = some (.pointer (some ⟨b, 0, none⟩))) {E : Int} (h11 : T[11]? = some (.int .i64 E)) (h : W.heap[b]? = some (.cells #[a, c, d] 36 (0, 0))) :
    (results Tryz.f5 T).run Tryz.prog W = .ok (.tuple #[.agg #[a, c, d], .int .i64 E]) W := by
  have h0 : W.cell? ⟨b, 0, none⟩ = some a := (cell_of_row _ _ _ _ _ _ h).trans rfl
  have h1 : W.cell? ⟨b, 1, none⟩ = some c := (cell_of_row _ _ _ _ _ _ h).trans rfl
  have h2 : W.cell? ⟨b, 2, none⟩ = some d := (cell_of_row _ _ _ _ _ _ h).trans rfl
  simp [results, Tryz.f5, go_sem, h10, h11, h0, h1, h2]
theorem resn7 (T : Array Value) (b : Nat) (a c d : Value) (W : World) (h10 : T[12]? = some (.pointer (some ⟨b, 0, none⟩))) {E : Int} (h11 : T[13]? = some (.int .i64 E)) (h : W.heap[b]? = some (.cells #[a, c, d] 36 (0, 0))) :
    (results Tryz.f7 T).run Tryz.prog W = .ok (.tuple #[.agg #[a, c, d], .int .i64 E]) W := by
  have h0 : W.cell? ⟨b, 0, none⟩ = some a := (cell_of_row _ _ _ _ _ _ h).trans rfl
  have h1 : W.cell? ⟨b, 1, none⟩ = some c := (cell_of_row _ _ _ _ _ _ h).trans rfl
  have h2 : W.cell? ⟨b, 2, none⟩ = some d := (cell_of_row _ _ _ _ _ _ h).trans rfl
  simp [results, Tryz.f7, go_sem, h10, h11, h0, h1, h2]
set_option maxHeartbeats 4000000 in
theorem nil4 (n q : Int) (sa : Option Addr) (sn sc : Nat) (ra : Option Addr) (rn rc : Nat) (w : World) : Calls Tryz.prog 4 #[.int .u32 n, .int .u32 q, .nilFunc, .slice sa sn sc, .slice ra rn rc] w fun e w' => An w e w' := by
  have HL := hide (nil21 n q (w.heap.size + 1) 1 20 #[] sa sn sc ra rn rc ((w.alloc (.cells z3 36)).alloc (.cells (#[.int .u32 q] : Array Value) 22)) (by have := cell1 (w.alloc (.cells z3 36)) 22 (.int .u32 q); simp only [World.size_alloc] at this; exact this) (by simp))
  go_enter Tryz.func4, Tryz.ntmps4
  go_wp2_with (fail)
  refine HL.out.mono ?_
  rintro e1 w1 ⟨rfl, hB1⟩
  have HW : Hid (Below ((w.alloc (.cells z3 36)).alloc (.cells (#[.int .u32 q] : Array Value) 22)).drew.heap.size ((w.alloc (.cells z3 36)).alloc (.cells (#[.int .u32 q] : Array Value) 22)).drew w1) := ⟨hB1.os, hB1.tape, hB1.output, hB1.size, hB1.block⟩
  have hzJ : ((w.alloc (.cells z3 36)).alloc (.cells (#[.int .u32 q] : Array Value) 22)).heap[w.heap.size]? = some (.cells z3 36 (0, 0)) := by exact keep _ (at0 w _)
  have hz1 : w1.heap[w.heap.size]? = some (.cells z3 36 (0, 0)) := (hB1.block _ (by simp only [World.size_alloc]; omega)).trans hzJ
  have HE2 := hide (fin3 (w := w) hzJ (by omega) (by repeat first | exact Below.refl _ _ | refine bA ?_ (by first | exact Nat.le_refl _ | (simp only [World.size_alloc]; omega)) _) HW.out (.bool false) (.int .u32 0) (.int .i64 0))
  have f0 : w1.frozen? ⟨w.heap.size, 0, none⟩ = false := frozen_of_row _ _ _ _ _ hz1
  have f1 : w1.frozen? ⟨w.heap.size, 1, none⟩ = false := frozen_of_row _ _ _ _ _ hz1
  have f2 : w1.frozen? ⟨w.heap.size, 2, none⟩ = false := frozen_of_row _ _ _ _ _ hz1
  have g0 : w1.cell? ⟨w.heap.size, 0, none⟩ = some (.bool false) := (cell_of_row _ _ _ _ _ _ hz1).trans rfl
  have g1 : w1.cell? ⟨w.heap.size, 1, none⟩ = some (.int .u32 0) := (cell_of_row _ _ _ _ _ _ hz1).trans rfl
  have g2 : w1.cell? ⟨w.heap.size, 2, none⟩ = some (.int .i64 0) := (cell_of_row _ _ _ _ _ _ hz1).trans rfl
  clear hz1 hzJ hB1 HW HL
  go_wp2
  all_goals (refine bodyPost_ret (v := .tuple #[.agg z3, .int .i64 1]) ?_ rfl ?_)
  all_goals first | exact resn4 _ _ _ _ _ _ rfl rfl HE2.out.1 | exact ⟨rfl, HE2.out.2⟩
set_option maxHeartbeats 4000000 in
theorem nil5 (n q : Int) (lb lc : Nat) (sa : Option Addr) (sn sc : Nat) (ra : Option Addr) (rn rc : Nat) (w : World) (hc : w.cell? ⟨lb, 0, none⟩ = some (.int .u32 q)) (hlt : lb < w.heap.size) : Calls Tryz.prog 5 #[.int .u32 n, .nilFunc, .slice sa sn sc, .slice ra rn rc, .slice (some ⟨lb, 0, none⟩) 1 lc] w fun e w' => An w e w' := by
  have hB : Below w.heap.size w ((w.alloc (.cells (#[.slice sa sn sc] : Array Value) 23)).alloc (.cells z3 36)) := by repeat first | exact Below.refl _ _ | refine bA ?_ (by first | exact Nat.le_refl _ | (simp only [World.size_alloc]; omega)) _
  have HL := hide (nil21 n q lb lc 22 #[.pointer (some ⟨w.heap.size, 0, none⟩)] sa sn sc ra rn rc ((w.alloc (.cells (#[.slice sa sn sc] : Array Value) 23)).alloc (.cells z3 36)) ((hB.cell hlt).trans hc) (Nat.lt_of_lt_of_le hlt hB.size))
  clear hc hB
  go_enter Tryz.func5, Tryz.ntmps5
  go_wp2_with (fail)
  refine HL.out.mono ?_
  rintro e1 w1 ⟨rfl, hB1⟩
  have HW : Hid (Below ((w.alloc (.cells (#[.slice sa sn sc] : Array Value) 23)).alloc (.cells z3 36)).drew.heap.size ((w.alloc (.cells (#[.slice sa sn sc] : Array Value) 23)).alloc (.cells z3 36)).drew w1) := ⟨hB1.os, hB1.tape, hB1.output, hB1.size, hB1.block⟩
  have hzJ : ((w.alloc (.cells (#[.slice sa sn sc] : Array Value) 23)).alloc (.cells z3 36)).heap[w.heap.size + 1]? = some (.cells z3 36 (0, 0)) := by have := at0 (w.alloc (.cells (#[.slice sa sn sc] : Array Value) 23)) (.cells z3 36); simpa using this
  have hz1 : w1.heap[w.heap.size + 1]? = some (.cells z3 36 (0, 0)) := (hB1.block _ (by simp only [World.size_alloc]; omega)).trans hzJ
  have HE2 := hide (fin3 (w := w) hzJ (by omega) (by repeat first | exact Below.refl _ _ | refine bA ?_ (by first | exact Nat.le_refl _ | (simp only [World.size_alloc]; omega)) _) HW.out (.bool false) (.int .u32 0) (.int .i64 0))
  have f0 : w1.frozen? ⟨w.heap.size + 1, 0, none⟩ = false := frozen_of_row _ _ _ _ _ hz1
  have f1 : w1.frozen? ⟨w.heap.size + 1, 1, none⟩ = false := frozen_of_row _ _ _ _ _ hz1
  have f2 : w1.frozen? ⟨w.heap.size + 1, 2, none⟩ = false := frozen_of_row _ _ _ _ _ hz1
  have g0 : w1.cell? ⟨w.heap.size + 1, 0, none⟩ = some (.bool false) := (cell_of_row _ _ _ _ _ _ hz1).trans rfl
  have g1 : w1.cell? ⟨w.heap.size + 1, 1, none⟩ = some (.int .u32 0) := (cell_of_row _ _ _ _ _ _ hz1).trans rfl
  have g2 : w1.cell? ⟨w.heap.size + 1, 2, none⟩ = some (.int .i64 0) := (cell_of_row _ _ _ _ _ _ hz1).trans rfl
  clear hz1 hzJ hB1 HW HL
  go_wp2
  all_goals (refine bodyPost_ret (v := .tuple #[.agg z3, .int .i64 1]) ?_ rfl ?_)
  all_goals first | exact resn5 _ _ _ _ _ _ rfl rfl HE2.out.1 | exact ⟨rfl, HE2.out.2⟩
set_option maxHeartbeats 4000000 in
theorem nil7 (n q k : Int) (sa : Option Addr) (sn sc : Nat) (ra : Option Addr) (rn rc : Nat) (w : World) : Calls Tryz.prog 7 #[.int .u32 n, .int .u32 q, .int .i64 k, .nilFunc, .slice sa sn sc, .slice ra rn rc] w fun e w' => An w e w' := by
  have HS := hide (sourced_one (w.heap.size + 3) 1 n q ((((w.alloc (.cells (#[.int .u32 q] : Array Value) 22)).alloc (.cells (#[.slice sa sn sc] : Array Value) 23)).alloc (.cells z3 36)).alloc (.cells (#[.int .u32 q] : Array Value) 22)) (by have := cell1 (((w.alloc (.cells (#[.int .u32 q] : Array Value) 22)).alloc (.cells (#[.slice sa sn sc] : Array Value) 23)).alloc (.cells z3 36)) 22 (.int .u32 q); simp only [World.size_alloc] at this; exact this))
  have HJ := hide judge_nil
  generalize sce n q = E at *
  by_cases k1 : k = 1
  · subst k1
    go_enter Tryz.func7, Tryz.ntmps7
    go_wp2_with (first | (go_at_call 33; refine HS.out.mono ?_; rintro e9 w9 ⟨rfl, hw9⟩; subst w9) | fail)
    refine (HJ.out _ _ _ _ _ _ _ _ _ _ _ _).mono ?_
    rintro e1 w1 ⟨rfl, hB1⟩
    have HW : Hid (Below (((((w.alloc (.cells (#[.int .u32 q] : Array Value) 22)).alloc (.cells (#[.slice sa sn sc] : Array Value) 23)).alloc (.cells z3 36)).alloc (.cells (#[.int .u32 q] : Array Value) 22)).alloc (.cells (iq n 1 (.slice sa sn sc)) 58)).drew.heap.size (((((w.alloc (.cells (#[.int .u32 q] : Array Value) 22)).alloc (.cells (#[.slice sa sn sc] : Array Value) 23)).alloc (.cells z3 36)).alloc (.cells (#[.int .u32 q] : Array Value) 22)).alloc (.cells (iq n 1 (.slice sa sn sc)) 58)).drew w1) := ⟨hB1.os, hB1.tape, hB1.output, hB1.size, hB1.block⟩
    have hzJ : (((((w.alloc (.cells (#[.int .u32 q] : Array Value) 22)).alloc (.cells (#[.slice sa sn sc] : Array Value) 23)).alloc (.cells z3 36)).alloc (.cells (#[.int .u32 q] : Array Value) 22)).alloc (.cells (iq n 1 (.slice sa sn sc)) 58)).heap[w.heap.size + 2]? = some (.cells z3 36 (0, 0)) := by refine keep _ (keep _ ?_); have := at0 ((w.alloc (.cells (#[.int .u32 q] : Array Value) 22)).alloc (.cells (#[.slice sa sn sc] : Array Value) 23)) (.cells z3 36); simpa using this
    have hz1 : w1.heap[w.heap.size + 2]? = some (.cells z3 36 (0, 0)) := (hB1.block _ (by simp only [World.size_alloc]; omega)).trans hzJ
    have HE2 := hide (fin3 (w := w) hzJ (by omega) (by repeat first | exact Below.refl _ _ | refine bA ?_ (by first | exact Nat.le_refl _ | (simp only [World.size_alloc]; omega)) _) HW.out (.bool false) (.int .u32 0) (.int .i64 0))
    have f0 : w1.frozen? ⟨w.heap.size + 2, 0, none⟩ = false := frozen_of_row _ _ _ _ _ hz1
    have f1 : w1.frozen? ⟨w.heap.size + 2, 1, none⟩ = false := frozen_of_row _ _ _ _ _ hz1
    have f2 : w1.frozen? ⟨w.heap.size + 2, 2, none⟩ = false := frozen_of_row _ _ _ _ _ hz1
    have g0 : w1.cell? ⟨w.heap.size + 2, 0, none⟩ = some (.bool false) := (cell_of_row _ _ _ _ _ _ hz1).trans rfl
    have g1 : w1.cell? ⟨w.heap.size + 2, 1, none⟩ = some (.int .u32 0) := (cell_of_row _ _ _ _ _ _ hz1).trans rfl
    have g2 : w1.cell? ⟨w.heap.size + 2, 2, none⟩ = some (.int .i64 0) := (cell_of_row _ _ _ _ _ _ hz1).trans rfl
    clear hz1 hzJ hB1 HW HS HJ
    go_wp2
    all_goals (refine bodyPost_ret (v := .tuple #[.agg z3, .int .i64 1]) ?_ rfl ?_)
    all_goals first | exact resn7 _ _ _ _ _ _ rfl rfl HE2.out.1 | exact ⟨rfl, HE2.out.2⟩
  · have hk1 : (k != 1) = true := by simpa using k1
    by_cases k2 : k = 2
    · subst k2
      go_enter Tryz.func7, Tryz.ntmps7
      go_wp2_with (first | (go_at_call 33; refine HS.out.mono ?_; rintro e9 w9 ⟨rfl, hw9⟩; subst w9) | fail)
      refine (HJ.out _ _ _ _ _ _ _ _ _ _ _ _).mono ?_
      rintro e1 w1 ⟨rfl, hB1⟩
      have HW : Hid (Below (((((w.alloc (.cells (#[.int .u32 q] : Array Value) 22)).alloc (.cells (#[.slice sa sn sc] : Array Value) 23)).alloc (.cells z3 36)).alloc (.cells (#[.int .u32 q] : Array Value) 22)).alloc (.cells (iq n 2 (.slice sa sn sc)) 58)).drew.heap.size (((((w.alloc (.cells (#[.int .u32 q] : Array Value) 22)).alloc (.cells (#[.slice sa sn sc] : Array Value) 23)).alloc (.cells z3 36)).alloc (.cells (#[.int .u32 q] : Array Value) 22)).alloc (.cells (iq n 2 (.slice sa sn sc)) 58)).drew w1) := ⟨hB1.os, hB1.tape, hB1.output, hB1.size, hB1.block⟩
      have hzJ : (((((w.alloc (.cells (#[.int .u32 q] : Array Value) 22)).alloc (.cells (#[.slice sa sn sc] : Array Value) 23)).alloc (.cells z3 36)).alloc (.cells (#[.int .u32 q] : Array Value) 22)).alloc (.cells (iq n 2 (.slice sa sn sc)) 58)).heap[w.heap.size + 2]? = some (.cells z3 36 (0, 0)) := by refine keep _ (keep _ ?_); have := at0 ((w.alloc (.cells (#[.int .u32 q] : Array Value) 22)).alloc (.cells (#[.slice sa sn sc] : Array Value) 23)) (.cells z3 36); simpa using this
      have hz1 : w1.heap[w.heap.size + 2]? = some (.cells z3 36 (0, 0)) := (hB1.block _ (by simp only [World.size_alloc]; omega)).trans hzJ
      have HE2 := hide (fin3 (w := w) hzJ (by omega) (by repeat first | exact Below.refl _ _ | refine bA ?_ (by first | exact Nat.le_refl _ | (simp only [World.size_alloc]; omega)) _) HW.out (.bool false) (.int .u32 0) (.int .i64 0))
      have f0 : w1.frozen? ⟨w.heap.size + 2, 0, none⟩ = false := frozen_of_row _ _ _ _ _ hz1
      have f1 : w1.frozen? ⟨w.heap.size + 2, 1, none⟩ = false := frozen_of_row _ _ _ _ _ hz1
      have f2 : w1.frozen? ⟨w.heap.size + 2, 2, none⟩ = false := frozen_of_row _ _ _ _ _ hz1
      have g0 : w1.cell? ⟨w.heap.size + 2, 0, none⟩ = some (.bool false) := (cell_of_row _ _ _ _ _ _ hz1).trans rfl
      have g1 : w1.cell? ⟨w.heap.size + 2, 1, none⟩ = some (.int .u32 0) := (cell_of_row _ _ _ _ _ _ hz1).trans rfl
      have g2 : w1.cell? ⟨w.heap.size + 2, 2, none⟩ = some (.int .i64 0) := (cell_of_row _ _ _ _ _ _ hz1).trans rfl
      clear hz1 hzJ hB1 HW HS HJ
      go_wp2
      all_goals (refine bodyPost_ret (v := .tuple #[.agg z3, .int .i64 1]) ?_ rfl ?_)
      all_goals first | exact resn7 _ _ _ _ _ _ rfl rfl HE2.out.1 | exact ⟨rfl, HE2.out.2⟩
    · have hk2 : (k != 2) = true := by simpa using k2
      go_enter Tryz.func7, Tryz.ntmps7
      go_wp2_with (first | (go_at_call 33; refine HS.out.mono ?_; rintro e9 w9 ⟨rfl, hw9⟩; subst w9) | fail)
      refine (HJ.out _ _ _ _ _ _ _ _ _ _ _ _).mono ?_
      rintro e1 w1 ⟨rfl, hB1⟩
      have HW : Hid (Below (((((w.alloc (.cells (#[.int .u32 q] : Array Value) 22)).alloc (.cells (#[.slice sa sn sc] : Array Value) 23)).alloc (.cells z3 36)).alloc (.cells (#[.int .u32 q] : Array Value) 22)).alloc (.cells (iq n k (.slice sa sn sc)) 58)).drew.heap.size (((((w.alloc (.cells (#[.int .u32 q] : Array Value) 22)).alloc (.cells (#[.slice sa sn sc] : Array Value) 23)).alloc (.cells z3 36)).alloc (.cells (#[.int .u32 q] : Array Value) 22)).alloc (.cells (iq n k (.slice sa sn sc)) 58)).drew w1) := ⟨hB1.os, hB1.tape, hB1.output, hB1.size, hB1.block⟩
      have hzJ : (((((w.alloc (.cells (#[.int .u32 q] : Array Value) 22)).alloc (.cells (#[.slice sa sn sc] : Array Value) 23)).alloc (.cells z3 36)).alloc (.cells (#[.int .u32 q] : Array Value) 22)).alloc (.cells (iq n k (.slice sa sn sc)) 58)).heap[w.heap.size + 2]? = some (.cells z3 36 (0, 0)) := by refine keep _ (keep _ ?_); have := at0 ((w.alloc (.cells (#[.int .u32 q] : Array Value) 22)).alloc (.cells (#[.slice sa sn sc] : Array Value) 23)) (.cells z3 36); simpa using this
      have hz1 : w1.heap[w.heap.size + 2]? = some (.cells z3 36 (0, 0)) := (hB1.block _ (by simp only [World.size_alloc]; omega)).trans hzJ
      have HE2 := hide (fin3 (w := w) hzJ (by omega) (by repeat first | exact Below.refl _ _ | refine bA ?_ (by first | exact Nat.le_refl _ | (simp only [World.size_alloc]; omega)) _) HW.out (.bool false) (.int .u32 0) (.int .i64 0))
      have f0 : w1.frozen? ⟨w.heap.size + 2, 0, none⟩ = false := frozen_of_row _ _ _ _ _ hz1
      have f1 : w1.frozen? ⟨w.heap.size + 2, 1, none⟩ = false := frozen_of_row _ _ _ _ _ hz1
      have f2 : w1.frozen? ⟨w.heap.size + 2, 2, none⟩ = false := frozen_of_row _ _ _ _ _ hz1
      have g0 : w1.cell? ⟨w.heap.size + 2, 0, none⟩ = some (.bool false) := (cell_of_row _ _ _ _ _ _ hz1).trans rfl
      have g1 : w1.cell? ⟨w.heap.size + 2, 1, none⟩ = some (.int .u32 0) := (cell_of_row _ _ _ _ _ _ hz1).trans rfl
      have g2 : w1.cell? ⟨w.heap.size + 2, 2, none⟩ = some (.int .i64 0) := (cell_of_row _ _ _ _ _ _ hz1).trans rfl
      clear hz1 hzJ hB1 HW HS HJ
      go_wp2
      all_goals (refine bodyPost_ret (v := .tuple #[.agg z3, .int .i64 1]) ?_ rfl ?_)
      all_goals first | exact resn7 _ _ _ _ _ _ rfl rfl HE2.out.1 | exact ⟨rfl, HE2.out.2⟩
end Rn
end Go.Proofs.YteegfadhfimlcaaGreatDoor
