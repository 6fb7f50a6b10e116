import Derived.Test.YtonhmaocgfhcfaaRkB
namespace Go.Proofs.Ytonhmaocgfhcfaa
namespace Rn
open Go.RowKit
set_option linter.unusedVariables false
set_option maxRecDepth 8000
theorem num_x (e : Int) (w : World) : Calls Try.prog 10 #[.int .i64 e] w fun e' w' => e' = .returned (.int .i64 e) ∧ w' = w := by
  go_enter Try.func10, Try.ntmps10
  go_wp2
  go_ret
  exact ⟨rfl, rfl⟩
theorem ptr_none (W : World) : (binOp .eql 30 (.pointer none) (.pointer none)).run Try.prog W = .ok (.bool true) W := rfl
end Rn
end Go.Proofs.Ytonhmaocgfhcfaa
