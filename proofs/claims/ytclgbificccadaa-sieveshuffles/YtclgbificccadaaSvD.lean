import Derived.Test.YtclgbificccadaaSvC
namespace Go.Proofs.Ytclgbificccadaa
namespace Sv
open Go.RowKit
set_option linter.unusedVariables false
abbrev eV (a b c : Int) : Value := .agg #[.int .u32 a, .int .u32 b, .int .u32 c]
abbrev uV (a b c : Int) : Value := .agg #[.int .u32 a, .int .u64 b, .int .u64 c]
set_option maxHeartbeats 1000000 in
theorem bySrc_any (n k a b c : Int) (h : Rg n k ∨ n ≤ a) (h0 : 0 ≤ a) (h1 : a ≤ 4294967295) (w : World) : Calls Try.prog 22 #[rg n k, eV a b c] w fun e w' => e = .returned (.int .i64 (pt n k a)) ∧ Below w.heap.size w w' := by
  go_enter Try.func22, Try.ntmps22
  go_wp2_with (fail)
  refine (part_any n k a h h0 h1 _).mono ?_
  rintro e9 w9 ⟨rfl, hg⟩
  go_wp2
  go_ret
  exact ⟨rfl, (b2 w _ _ _ _).trans (hg.mono (b2 w _ _ _ _).size)⟩
set_option maxHeartbeats 1000000 in
theorem byDst_any (n k a b c : Int) (h : Rg n k ∨ n ≤ b) (h0 : 0 ≤ b) (h1 : b ≤ 4294967295) (w : World) : Calls Try.prog 23 #[rg n k, eV a b c] w fun e w' => e = .returned (.int .i64 (pt n k b)) ∧ Below w.heap.size w w' := by
  go_enter Try.func23, Try.ntmps23
  go_wp2_with (fail)
  refine (part_any n k b h h0 h1 _).mono ?_
  rintro e9 w9 ⟨rfl, hg⟩
  go_wp2
  go_ret
  exact ⟨rfl, (b2 w _ _ _ _).trans (hg.mono (b2 w _ _ _ _).size)⟩
set_option maxHeartbeats 1000000 in
theorem byTo_any (n k a b c : Int) (h : Rg n k ∨ n ≤ a) (h0 : 0 ≤ a) (h1 : a ≤ 4294967295) (w : World) : Calls Try.prog 14 #[rg n k, uV a b c] w fun e w' => e = .returned (.int .i64 (pt n k a)) ∧ Below w.heap.size w w' := by
  go_enter Try.func14, Try.ntmps14
  go_wp2_with (fail)
  refine (part_any n k a h h0 h1 _).mono ?_
  rintro e9 w9 ⟨rfl, hg⟩
  go_wp2
  go_ret
  exact ⟨rfl, (b2 w _ _ _ _).trans (hg.mono (b2 w _ _ _ _).size)⟩
end Sv
end Go.Proofs.Ytclgbificccadaa
