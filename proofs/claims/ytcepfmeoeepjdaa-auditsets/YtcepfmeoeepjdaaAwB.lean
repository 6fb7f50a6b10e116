import Derived.Test.YtcepfmeoeepjdaaAwA
import Derived.Test.YtcepfmeoeepjdaaAuT
namespace Go.Proofs.Ytcepfmeoeepjdaa
namespace Au
open Go.RowKit
set_option linter.unusedVariables false
set_option maxRecDepth 8000
theorem errof_any (p : Value) (x : Int) (w : World) : Calls Try.prog 58 #[p, .int .i64 x] w fun e w' => e = .returned (.int .i64 x) ∧ w' = w := by
  go_enter Try.func58, Try.ntmps58
  go_wp2
  all_goals go_ret
  all_goals exact ⟨rfl, rfl⟩
set_option maxHeartbeats 2000000 in
theorem set_any (N A C : Nat) (hN : N < 4294967296) (hA : A < 4294967296) (w : World) : Calls Try.prog 59 #[.agg (rk N A C)] w fun e w' => (∃ p, e = .returned (.tuple #[p, .int .i64 (ck N A C)])) ∧ Below w.heap.size w w' := by
  have HC := hide (check_any N A C hN hA)
  have HB0 : Hid (Below w.heap.size w (w.alloc (.cells (rk N A C) 27))) := b1 _ _ _
  have hk := k3 (t := 27) (at0 w (.cells (rk N A C) 27))
  by_cases ho : Ord N A C
  · have e1 : ck N A C = 0 := if_pos ho
    rw [e1] at HC ⊢
    clear e1 ho
    go_enter Try.func59, Try.ntmps59
    go_wp2_with (fail)
    refine (HC.out _).mono ?_
    rintro e9 w1 ⟨rfl, hw1⟩
    have hk1 := hk.on hw1 (by simp [World.size_alloc])
    have HB1 : Hid (Below w.heap.size w w1) := HB0.out.trans (hw1.mono (by simp only [World.size_alloc]; omega))
    clear hk hw1
    go_wp2
    all_goals go_ret2
    all_goals exact ⟨⟨_, rfl⟩, bA2 HB1.out _⟩
  · have e1 : ck N A C = 140 := if_neg ho
    rw [e1] at HC ⊢
    clear e1 ho
    go_enter Try.func59, Try.ntmps59
    go_wp2_with (fail)
    refine (HC.out _).mono ?_
    rintro e9 w1 ⟨rfl, hw1⟩
    have HB1 : Hid (Below w.heap.size w w1) := HB0.out.trans (hw1.mono (by simp only [World.size_alloc]; omega))
    clear hk hw1
    go_wp2
    all_goals go_ret2
    all_goals exact ⟨⟨_, rfl⟩, HB1.out⟩
set_option maxHeartbeats 2000000 in
theorem colour_any (N A C : Nat) (hN : N < 4294967296) (hA : A < 4294967296) (w : World) : Calls Try.prog 67 #[.agg (rk N A C)] w fun e w' => (∃ p, e = .returned (.tuple #[p, .int .i64 (ck N A C)])) ∧ Below w.heap.size w w' := by
  have HC := hide (check_any N A C hN hA)
  have HB0 : Hid (Below w.heap.size w (w.alloc (.cells (rk N A C) 27))) := b1 _ _ _
  have hk := k3 (t := 27) (at0 w (.cells (rk N A C) 27))
  by_cases ho : Ord N A C
  · have e1 : ck N A C = 0 := if_pos ho
    rw [e1] at HC ⊢
    clear e1 ho
    go_enter Try.func67, Try.ntmps67
    go_wp2_with (fail)
    refine (HC.out _).mono ?_
    rintro e9 w1 ⟨rfl, hw1⟩
    have hk1 := hk.on hw1 (by simp [World.size_alloc])
    have HB1 : Hid (Below w.heap.size w w1) := HB0.out.trans (hw1.mono (by simp only [World.size_alloc]; omega))
    clear hk hw1
    go_wp2
    all_goals go_ret2
    all_goals exact ⟨⟨_, rfl⟩, bA2 HB1.out _⟩
  · have e1 : ck N A C = 140 := if_neg ho
    rw [e1] at HC ⊢
    clear e1 ho
    go_enter Try.func67, Try.ntmps67
    go_wp2_with (fail)
    refine (HC.out _).mono ?_
    rintro e9 w1 ⟨rfl, hw1⟩
    have HB1 : Hid (Below w.heap.size w w1) := HB0.out.trans (hw1.mono (by simp only [World.size_alloc]; omega))
    clear hk hw1
    go_wp2
    all_goals go_ret2
    all_goals exact ⟨⟨_, rfl⟩, HB1.out⟩
end Au
end Go.Proofs.Ytcepfmeoeepjdaa
