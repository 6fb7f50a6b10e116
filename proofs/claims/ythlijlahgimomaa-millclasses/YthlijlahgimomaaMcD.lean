import Derived.Test.YthlijlahgimomaaMcC
namespace Go.Proofs.Ythlijlahgimomaa
namespace Mc
open Go.RowKit
set_option linter.unusedVariables false
set_option maxRecDepth 8000
set_option maxHeartbeats 4000000 in
theorem law_any (e : Int) (w : World) : Calls Try.prog 3 #[.int .i64 e] w fun r w' => r = .returned (.bool true) ∧ Below w.heap.size w w' := by
  have HA := hide class_any
  have HB := hide rclass_any
  have A0 : Hid (Below w.heap.size w w) := Below.refl _ w
  go_enter Try.func3, Try.ntmps3
  go_wp2_with (fail)
  go_loopw [3] (fun v wr => ∃ j : Nat, j ≤ 210 ∧ v = .int .i64 j ∧ Hid (Below w.heap.size w wr)) (fun v _ => 210 - (intOf v).toNat)
  case atStart => exact ⟨0, Nat.zero_le _, rfl, A0⟩
  case round =>
    clear A0
    obtain ⟨j, hj, rfl, A1⟩ := hrel
    by_cases cc : j < 210
    · obtain ⟨c, HC⟩ : ∃ c, Hid (cl (j : Int) = c) := ⟨_, rfl⟩
      go_wp2_with (fail)
      refine (HA.out _ _).mono ?_
      rintro r1 w1 ⟨rfl, hw⟩
      subst w1
      go_wp2_with (fail)
      refine (HB.out _ _).mono ?_
      rintro r2 w2 ⟨rfl, hw⟩
      have A2 : Hid (Below w.heap.size w w2) := A1.out.trans (hw.mono A1.out.size)
      clear hw A1
      rw [HC.out]
      go_wp2
      exact ⟨⟨j + 1, cc, by go_num, A2⟩, by simp [intOf]; omega⟩
    · have hjn : j = 210 := by omega
      subst hjn
      clear hj cc
      obtain ⟨c, HC⟩ : ∃ c, Hid (cl e = c) := ⟨_, rfl⟩
      go_wp2_with (fail)
      refine (HA.out _ _).mono ?_
      rintro r1 w1 ⟨rfl, hw⟩
      subst w1
      go_wp2_with (fail)
      refine (HB.out _ _).mono ?_
      rintro r2 w2 ⟨rfl, hw⟩
      have A2 : Hid (Below w.heap.size w w2) := A1.out.trans (hw.mono A1.out.size)
      clear hw A1
      rw [HC.out]
      go_wp2
      all_goals go_ret
      all_goals exact ⟨rfl, A2.out⟩
end Mc
end Go.Proofs.Ythlijlahgimomaa
