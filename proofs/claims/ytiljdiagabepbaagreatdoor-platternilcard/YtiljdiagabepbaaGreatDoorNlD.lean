import Derived.Test.YtiljdiagabepbaaGreatDoorNlA
namespace Go.Proofs.YtiljdiagabepbaaGreatDoor
namespace Nl
open Go.RowKit
set_option linter.unusedVariables false
set_option maxHeartbeats 800000 in
set_option maxRecDepth 8000 in
theorem read_nd (p : Option Addr) (s : ByteArray) (k : Int) (a : Option Addr) (l c : Nat) (w : World) (h : ND w p) :
    Calls Tryz.prog 8 #[.pointer p, .string s, .int .i64 k, .slice a l c] w fun e w' => e = .returned (.tuple #[.int .i64 0, .int .i64 1]) ∧ w' = ((((w.alloc (.cells #[.pointer p] 23)).alloc (.cells #[.string s] 9)).alloc (.cells #[.int .i64 k] 2)).alloc (.cells #[.slice a l c] 34)).alloc (.cells #[.int .i64 0] 3) := by
  go_enter Tryz.func8, Tryz.ntmps8
  go_wp2_with (go_at_call 16; refine (gate_any p _ _ _ (h.on (by first | exact Below.refl _ _ | exact b1 _ _ | exact b2 _ _ _ | exact b3 _ _ _ _ | exact b4 _ _ _ _ _ | exact b5 _ _ _ _ _ _ | exact b6 _ _ _ _ _ _ _))).mono ?_; rintro e9 w9 ⟨rfl, hw9⟩; subst w9)
  refine bodyPost_ret (v := .tuple #[.int .i64 0, .int .i64 1]) ?_ rfl ⟨rfl, rfl⟩
  simp only [results, Tryz.results8, asAddr]
  go_simp
set_option maxHeartbeats 800000 in
set_option maxRecDepth 8000 in
theorem size_nd (p : Option Addr) (s : ByteArray) (w : World) (h : ND w p) :
    Calls Tryz.prog 31 #[.pointer p, .string s] w fun e w' => e = .returned (.tuple #[.int .i64 0, .int .i64 1]) ∧ w' = ((w.alloc (.cells #[.pointer p] 23)).alloc (.cells #[.string s] 9)).alloc (.cells #[.int .i64 0] 2) := by
  go_enter Tryz.func31, Tryz.ntmps31
  go_wp2_with (go_at_call 16; refine (gate_any p _ _ _ (h.on (by first | exact Below.refl _ _ | exact b1 _ _ | exact b2 _ _ _ | exact b3 _ _ _ _ | exact b4 _ _ _ _ _ | exact b5 _ _ _ _ _ _ | exact b6 _ _ _ _ _ _ _))).mono ?_; rintro e9 w9 ⟨rfl, hw9⟩; subst w9)
  refine bodyPost_ret (v := .tuple #[.int .i64 0, .int .i64 1]) ?_ rfl ⟨rfl, rfl⟩
  simp only [results, Tryz.results31, asAddr]
  go_simp
set_option maxHeartbeats 800000 in
set_option maxRecDepth 8000 in
theorem list_nd (p : Option Addr)  (w : World) (h : ND w p) :
    Calls Tryz.prog 36 #[.pointer p] w fun e w' => e = .returned (.tuple #[.slice none 0 0, .int .i64 1]) ∧ w' = (w.alloc (.cells #[.pointer p] 23)).alloc (.cells #[.slice none 0 0] 42) := by
  go_enter Tryz.func36, Tryz.ntmps36
  go_wp2_with (go_at_call 16; refine (gate_any p _ _ _ (h.on (by first | exact Below.refl _ _ | exact b1 _ _ | exact b2 _ _ _ | exact b3 _ _ _ _ | exact b4 _ _ _ _ _ | exact b5 _ _ _ _ _ _ | exact b6 _ _ _ _ _ _ _))).mono ?_; rintro e9 w9 ⟨rfl, hw9⟩; subst w9)
  refine bodyPost_ret (v := .tuple #[.slice none 0 0, .int .i64 1]) ?_ rfl ⟨rfl, rfl⟩
  simp only [results, Tryz.results36, asAddr]
  go_simp
end Nl
end Go.Proofs.YtiljdiagabepbaaGreatDoor
