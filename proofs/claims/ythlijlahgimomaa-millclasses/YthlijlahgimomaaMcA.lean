import Derived.Test.YthlijlahgimomaaRows
import Derived.WalkKit
import Derived.BigQuiet
import Derived.BigRegion
import Derived.Deep.QuietTactic
import Derived.WalkSmall
import Derived.Handy
import Derived.Below
import Derived.OwnWalk
import Derived.Deep.RegionWith
namespace Go.Proofs.Ythlijlahgimomaa
namespace Mc
open Go.RowKit
set_option linter.unusedVariables false
set_option maxRecDepth 8000
theorem ret_int {k : IntKind} {a b : Int} (h : a = b) : Ending.returned (.int k a) = .returned (.int k b) := by rw [h]
theorem ret_bool {a b : Bool} (h : a = b) : Ending.returned (.bool a) = .returned (.bool b) := by rw [h]
theorem b1 (w : World) (t : TypeId) (v : Array Value) : Below w.heap.size w (w.alloc (.cells v t)) := (Below.refl _ w).alloc (Nat.le_refl _) _
theorem at0 (w : World) (o : Obj) : (w.alloc o).heap[w.heap.size]? = some o := by
  show (w.heap.push o)[w.heap.size]? = _; simp
theorem hide {p : Prop} (h : p) : Hid p := h
/-- The class of a number. -/
def cl (e : Int) : Int :=
  if e = 0 then 0 else if e = 41 ∨ e = 42 ∨ e = 94 ∨ e = 67 then 3 else if e = 33 ∨ e = 32 then 4 else if e = 35 ∨ e = 34 ∨ e = 51 ∨ e = 53 ∨ e = 52 then 5
  else if e = 60 ∨ e = 61 ∨ e = 62 ∨ e = 63 ∨ e = 64 ∨ e = 65 ∨ e = 66 ∨ e = 78 ∨ e = 31 then 6 else if e = 36 then 7
  else if (80 ≤ e ∧ e ≤ 87) ∨ e = 91 ∨ e = 95 then 2 else if (111 ≤ e ∧ e ≤ 114) ∨ e = 121 ∨ e = 141 ∨ e = 13 then 8 else 1
theorem cl_one {e : Int} (h0 : ¬ e = 0) (h41 : ¬ e = 41) (h42 : ¬ e = 42) (h94 : ¬ e = 94) (h67 : ¬ e = 67) (h33 : ¬ e = 33) (h32 : ¬ e = 32) (h35 : ¬ e = 35) (h34 : ¬ e = 34) (h51 : ¬ e = 51) (h53 : ¬ e = 53) (h52 : ¬ e = 52) (h60 : ¬ e = 60) (h61 : ¬ e = 61) (h62 : ¬ e = 62) (h63 : ¬ e = 63) (h64 : ¬ e = 64) (h65 : ¬ e = 65) (h66 : ¬ e = 66) (h78 : ¬ e = 78) (h31 : ¬ e = 31) (h36 : ¬ e = 36) (h80 : ¬ e = 80) (h81 : ¬ e = 81) (h82 : ¬ e = 82) (h83 : ¬ e = 83) (h84 : ¬ e = 84) (h85 : ¬ e = 85) (h86 : ¬ e = 86) (h87 : ¬ e = 87) (h91 : ¬ e = 91) (h95 : ¬ e = 95) (h111 : ¬ e = 111) (h112 : ¬ e = 112) (h113 : ¬ e = 113) (h114 : ¬ e = 114) (h121 : ¬ e = 121) (h141 : ¬ e = 141) (h13 : ¬ e = 13) : cl e = 1 := by
  unfold cl
  rw [if_neg h0, if_neg (by omega), if_neg (by omega), if_neg (by omega), if_neg (by omega), if_neg h36, if_neg (by omega), if_neg (by omega)]
set_option maxHeartbeats 4000000 in
theorem class_any (e : Int) (w : World) : Calls Try.prog 4 #[.int .i64 e] w fun r w' => r = .returned (.int .i64 (cl e)) ∧ w' = w := by
  by_cases h0 : e = 0
  · subst h0
    have HR : Hid (cl 0 = 0) := by rfl
    go_enter Try.func4, Try.ntmps4
    go_wp2
    all_goals go_ret
    all_goals exact ⟨ret_int HR.out.symm, rfl⟩
  by_cases h41 : e = 41
  · subst h41
    have HR : Hid (cl 41 = 3) := by rfl
    go_enter Try.func4, Try.ntmps4
    go_wp2
    all_goals go_ret
    all_goals exact ⟨ret_int HR.out.symm, rfl⟩
  by_cases h42 : e = 42
  · subst h42
    have HR : Hid (cl 42 = 3) := by rfl
    go_enter Try.func4, Try.ntmps4
    go_wp2
    all_goals go_ret
    all_goals exact ⟨ret_int HR.out.symm, rfl⟩
  by_cases h94 : e = 94
  · subst h94
    have HR : Hid (cl 94 = 3) := by rfl
    go_enter Try.func4, Try.ntmps4
    go_wp2
    all_goals go_ret
    all_goals exact ⟨ret_int HR.out.symm, rfl⟩
  by_cases h67 : e = 67
  · subst h67
    have HR : Hid (cl 67 = 3) := by rfl
    go_enter Try.func4, Try.ntmps4
    go_wp2
    all_goals go_ret
    all_goals exact ⟨ret_int HR.out.symm, rfl⟩
  by_cases h33 : e = 33
  · subst h33
    have HR : Hid (cl 33 = 4) := by rfl
    go_enter Try.func4, Try.ntmps4
    go_wp2
    all_goals go_ret
    all_goals exact ⟨ret_int HR.out.symm, rfl⟩
  by_cases h32 : e = 32
  · subst h32
    have HR : Hid (cl 32 = 4) := by rfl
    go_enter Try.func4, Try.ntmps4
    go_wp2
    all_goals go_ret
    all_goals exact ⟨ret_int HR.out.symm, rfl⟩
  by_cases h35 : e = 35
  · subst h35
    have HR : Hid (cl 35 = 5) := by rfl
    go_enter Try.func4, Try.ntmps4
    go_wp2
    all_goals go_ret
    all_goals exact ⟨ret_int HR.out.symm, rfl⟩
  by_cases h34 : e = 34
  · subst h34
    have HR : Hid (cl 34 = 5) := by rfl
    go_enter Try.func4, Try.ntmps4
    go_wp2
    all_goals go_ret
    all_goals exact ⟨ret_int HR.out.symm, rfl⟩
  by_cases h51 : e = 51
  · subst h51
    have HR : Hid (cl 51 = 5) := by rfl
    go_enter Try.func4, Try.ntmps4
    go_wp2
    all_goals go_ret
    all_goals exact ⟨ret_int HR.out.symm, rfl⟩
  by_cases h53 : e = 53
  · subst h53
    have HR : Hid (cl 53 = 5) := by rfl
    go_enter Try.func4, Try.ntmps4
    go_wp2
    all_goals go_ret
    all_goals exact ⟨ret_int HR.out.symm, rfl⟩
  by_cases h52 : e = 52
  · subst h52
    have HR : Hid (cl 52 = 5) := by rfl
    go_enter Try.func4, Try.ntmps4
    go_wp2
    all_goals go_ret
    all_goals exact ⟨ret_int HR.out.symm, rfl⟩
  by_cases h60 : e = 60
  · subst h60
    have HR : Hid (cl 60 = 6) := by rfl
    go_enter Try.func4, Try.ntmps4
    go_wp2
    all_goals go_ret
    all_goals exact ⟨ret_int HR.out.symm, rfl⟩
  by_cases h61 : e = 61
  · subst h61
    have HR : Hid (cl 61 = 6) := by rfl
    go_enter Try.func4, Try.ntmps4
    go_wp2
    all_goals go_ret
    all_goals exact ⟨ret_int HR.out.symm, rfl⟩
  by_cases h62 : e = 62
  · subst h62
    have HR : Hid (cl 62 = 6) := by rfl
    go_enter Try.func4, Try.ntmps4
    go_wp2
    all_goals go_ret
    all_goals exact ⟨ret_int HR.out.symm, rfl⟩
  by_cases h63 : e = 63
  · subst h63
    have HR : Hid (cl 63 = 6) := by rfl
    go_enter Try.func4, Try.ntmps4
    go_wp2
    all_goals go_ret
    all_goals exact ⟨ret_int HR.out.symm, rfl⟩
  by_cases h64 : e = 64
  · subst h64
    have HR : Hid (cl 64 = 6) := by rfl
    go_enter Try.func4, Try.ntmps4
    go_wp2
    all_goals go_ret
    all_goals exact ⟨ret_int HR.out.symm, rfl⟩
  by_cases h65 : e = 65
  · subst h65
    have HR : Hid (cl 65 = 6) := by rfl
    go_enter Try.func4, Try.ntmps4
    go_wp2
    all_goals go_ret
    all_goals exact ⟨ret_int HR.out.symm, rfl⟩
  by_cases h66 : e = 66
  · subst h66
    have HR : Hid (cl 66 = 6) := by rfl
    go_enter Try.func4, Try.ntmps4
    go_wp2
    all_goals go_ret
    all_goals exact ⟨ret_int HR.out.symm, rfl⟩
  by_cases h78 : e = 78
  · subst h78
    have HR : Hid (cl 78 = 6) := by rfl
    go_enter Try.func4, Try.ntmps4
    go_wp2
    all_goals go_ret
    all_goals exact ⟨ret_int HR.out.symm, rfl⟩
  by_cases h31 : e = 31
  · subst h31
    have HR : Hid (cl 31 = 6) := by rfl
    go_enter Try.func4, Try.ntmps4
    go_wp2
    all_goals go_ret
    all_goals exact ⟨ret_int HR.out.symm, rfl⟩
  by_cases h36 : e = 36
  · subst h36
    have HR : Hid (cl 36 = 7) := by rfl
    go_enter Try.func4, Try.ntmps4
    go_wp2
    all_goals go_ret
    all_goals exact ⟨ret_int HR.out.symm, rfl⟩
  by_cases h80 : e = 80
  · subst h80
    have HR : Hid (cl 80 = 2) := by rfl
    go_enter Try.func4, Try.ntmps4
    go_wp2
    all_goals go_ret
    all_goals exact ⟨ret_int HR.out.symm, rfl⟩
  by_cases h81 : e = 81
  · subst h81
    have HR : Hid (cl 81 = 2) := by rfl
    go_enter Try.func4, Try.ntmps4
    go_wp2
    all_goals go_ret
    all_goals exact ⟨ret_int HR.out.symm, rfl⟩
  by_cases h82 : e = 82
  · subst h82
    have HR : Hid (cl 82 = 2) := by rfl
    go_enter Try.func4, Try.ntmps4
    go_wp2
    all_goals go_ret
    all_goals exact ⟨ret_int HR.out.symm, rfl⟩
  by_cases h83 : e = 83
  · subst h83
    have HR : Hid (cl 83 = 2) := by rfl
    go_enter Try.func4, Try.ntmps4
    go_wp2
    all_goals go_ret
    all_goals exact ⟨ret_int HR.out.symm, rfl⟩
  by_cases h84 : e = 84
  · subst h84
    have HR : Hid (cl 84 = 2) := by rfl
    go_enter Try.func4, Try.ntmps4
    go_wp2
    all_goals go_ret
    all_goals exact ⟨ret_int HR.out.symm, rfl⟩
  by_cases h85 : e = 85
  · subst h85
    have HR : Hid (cl 85 = 2) := by rfl
    go_enter Try.func4, Try.ntmps4
    go_wp2
    all_goals go_ret
    all_goals exact ⟨ret_int HR.out.symm, rfl⟩
  by_cases h86 : e = 86
  · subst h86
    have HR : Hid (cl 86 = 2) := by rfl
    go_enter Try.func4, Try.ntmps4
    go_wp2
    all_goals go_ret
    all_goals exact ⟨ret_int HR.out.symm, rfl⟩
  by_cases h87 : e = 87
  · subst h87
    have HR : Hid (cl 87 = 2) := by rfl
    go_enter Try.func4, Try.ntmps4
    go_wp2
    all_goals go_ret
    all_goals exact ⟨ret_int HR.out.symm, rfl⟩
  by_cases h91 : e = 91
  · subst h91
    have HR : Hid (cl 91 = 2) := by rfl
    go_enter Try.func4, Try.ntmps4
    go_wp2
    all_goals go_ret
    all_goals exact ⟨ret_int HR.out.symm, rfl⟩
  by_cases h95 : e = 95
  · subst h95
    have HR : Hid (cl 95 = 2) := by rfl
    go_enter Try.func4, Try.ntmps4
    go_wp2
    all_goals go_ret
    all_goals exact ⟨ret_int HR.out.symm, rfl⟩
  by_cases h111 : e = 111
  · subst h111
    have HR : Hid (cl 111 = 8) := by rfl
    go_enter Try.func4, Try.ntmps4
    go_wp2
    all_goals go_ret
    all_goals exact ⟨ret_int HR.out.symm, rfl⟩
  by_cases h112 : e = 112
  · subst h112
    have HR : Hid (cl 112 = 8) := by rfl
    go_enter Try.func4, Try.ntmps4
    go_wp2
    all_goals go_ret
    all_goals exact ⟨ret_int HR.out.symm, rfl⟩
  by_cases h113 : e = 113
  · subst h113
    have HR : Hid (cl 113 = 8) := by rfl
    go_enter Try.func4, Try.ntmps4
    go_wp2
    all_goals go_ret
    all_goals exact ⟨ret_int HR.out.symm, rfl⟩
  by_cases h114 : e = 114
  · subst h114
    have HR : Hid (cl 114 = 8) := by rfl
    go_enter Try.func4, Try.ntmps4
    go_wp2
    all_goals go_ret
    all_goals exact ⟨ret_int HR.out.symm, rfl⟩
  by_cases h121 : e = 121
  · subst h121
    have HR : Hid (cl 121 = 8) := by rfl
    go_enter Try.func4, Try.ntmps4
    go_wp2
    all_goals go_ret
    all_goals exact ⟨ret_int HR.out.symm, rfl⟩
  by_cases h141 : e = 141
  · subst h141
    have HR : Hid (cl 141 = 8) := by rfl
    go_enter Try.func4, Try.ntmps4
    go_wp2
    all_goals go_ret
    all_goals exact ⟨ret_int HR.out.symm, rfl⟩
  by_cases h13 : e = 13
  · subst h13
    have HR : Hid (cl 13 = 8) := by rfl
    go_enter Try.func4, Try.ntmps4
    go_wp2
    all_goals go_ret
    all_goals exact ⟨ret_int HR.out.symm, rfl⟩
  have HR : Hid (cl e = 1) := cl_one h0 h41 h42 h94 h67 h33 h32 h35 h34 h51 h53 h52 h60 h61 h62 h63 h64 h65 h66 h78 h31 h36 h80 h81 h82 h83 h84 h85 h86 h87 h91 h95 h111 h112 h113 h114 h121 h141 h13
  have b0 : (e == 0) = false := by simpa using h0
  have b41 : (e == 41) = false := by simpa using h41
  have b42 : (e == 42) = false := by simpa using h42
  have b94 : (e == 94) = false := by simpa using h94
  have b67 : (e == 67) = false := by simpa using h67
  have b33 : (e == 33) = false := by simpa using h33
  have b32 : (e == 32) = false := by simpa using h32
  have b35 : (e == 35) = false := by simpa using h35
  have b34 : (e == 34) = false := by simpa using h34
  have b51 : (e == 51) = false := by simpa using h51
  have b53 : (e == 53) = false := by simpa using h53
  have b52 : (e == 52) = false := by simpa using h52
  have b60 : (e == 60) = false := by simpa using h60
  have b61 : (e == 61) = false := by simpa using h61
  have b62 : (e == 62) = false := by simpa using h62
  have b63 : (e == 63) = false := by simpa using h63
  have b64 : (e == 64) = false := by simpa using h64
  have b65 : (e == 65) = false := by simpa using h65
  have b66 : (e == 66) = false := by simpa using h66
  have b78 : (e == 78) = false := by simpa using h78
  have b31 : (e == 31) = false := by simpa using h31
  have b36 : (e == 36) = false := by simpa using h36
  have b80 : (e == 80) = false := by simpa using h80
  have b81 : (e == 81) = false := by simpa using h81
  have b82 : (e == 82) = false := by simpa using h82
  have b83 : (e == 83) = false := by simpa using h83
  have b84 : (e == 84) = false := by simpa using h84
  have b85 : (e == 85) = false := by simpa using h85
  have b86 : (e == 86) = false := by simpa using h86
  have b87 : (e == 87) = false := by simpa using h87
  have b91 : (e == 91) = false := by simpa using h91
  have b95 : (e == 95) = false := by simpa using h95
  have b111 : (e == 111) = false := by simpa using h111
  have b112 : (e == 112) = false := by simpa using h112
  have b113 : (e == 113) = false := by simpa using h113
  have b114 : (e == 114) = false := by simpa using h114
  have b121 : (e == 121) = false := by simpa using h121
  have b141 : (e == 141) = false := by simpa using h141
  have b13 : (e == 13) = false := by simpa using h13
  clear h0 h41 h42 h94 h67 h33 h32 h35 h34 h51 h53 h52 h60 h61 h62 h63 h64 h65 h66 h78 h31 h36 h80 h81 h82 h83 h84 h85 h86 h87 h91 h95 h111 h112 h113 h114 h121 h141 h13
  go_enter Try.func4, Try.ntmps4
  go_wp2
  all_goals go_ret
  all_goals exact ⟨ret_int HR.out.symm, rfl⟩
end Mc
end Go.Proofs.Ythlijlahgimomaa
