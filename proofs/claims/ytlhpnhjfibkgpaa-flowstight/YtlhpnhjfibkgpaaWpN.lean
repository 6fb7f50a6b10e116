import Derived.Test.YtlhpnhjfibkgpaaWpJ2
namespace Go.Proofs.Ytlhpnhjfibkgpaa
namespace Wp
open Go.RowKit
set_option linter.unusedVariables false
set_option maxRecDepth 8000
set_option maxHeartbeats 2000000 in
theorem sane_L (n : Int) (fb : Nat) (w : World) (hF : FL n fb w) : Calls Try.prog 30 #[.pointer (some ⟨fb, 0, none⟩)] w fun e w' => e = .returned (.bool true) ∧ Below w.heap.size w w' := by
  have HW := hide (words_L n fb w hF)
  have HF := hide hF
  clear hF
  go_enter Try.func30, Try.ntmps30
  go_wp2_with (fail)
  refine HW.out.mono ?_
  rintro e1 w1 ⟨rfl, hw1⟩
  have HB1 := hide hw1
  have HK := hide (sink_L n fb w1 (HF.out.on hw1))
  clear hw1 HW
  go_wp2_with (fail)
  refine HK.out.mono ?_
  rintro e2 w2 ⟨rfl, hw2⟩
  have HB2 := hide hw2
  clear hw2 HK
  go_wp2
  all_goals go_ret
  all_goals exact ⟨rfl, bA (HB1.out.trans (HB2.out.mono HB1.out.size)) (Nat.le_trans HB1.out.size HB2.out.size) _⟩
end Wp
end Go.Proofs.Ytlhpnhjfibkgpaa
