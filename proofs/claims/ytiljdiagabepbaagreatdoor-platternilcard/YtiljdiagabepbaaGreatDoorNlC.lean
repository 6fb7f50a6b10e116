import Derived.Test.YtiljdiagabepbaaGreatDoorNlA
namespace Go.Proofs.YtiljdiagabepbaaGreatDoor
namespace Nl
open Go.RowKit
set_option linter.unusedVariables false
set_option maxHeartbeats 800000 in
set_option maxRecDepth 8000 in
theorem mend_nd (p : Option Addr)  (w : World) (h : ND w p) :
    Calls Tryz.prog 74 #[.pointer p] w fun e w' => e = .returned (.int .i64 1) ∧ w' = w := by
  go_enter Tryz.func74, Tryz.ntmps74
  go_wp2_with (go_at_call 60; refine (made_any p _ (h.on (by first | exact Below.refl _ _ | exact b1 _ _ | exact b2 _ _ _ | exact b3 _ _ _ _ | exact b4 _ _ _ _ _ | exact b5 _ _ _ _ _ _ | exact b6 _ _ _ _ _ _ _))).mono ?_; rintro e9 w9 ⟨rfl, hw9⟩; subst w9)
  go_ret
  exact ⟨rfl, rfl⟩
set_option maxHeartbeats 800000 in
set_option maxRecDepth 8000 in
theorem clear_nd (p : Option Addr)  (w : World) (h : ND w p) :
    Calls Tryz.prog 82 #[.pointer p] w fun e w' => e = .returned (.int .i64 1) ∧ w' = w := by
  go_enter Tryz.func82, Tryz.ntmps82
  go_wp2_with (go_at_call 60; refine (made_any p _ (h.on (by first | exact Below.refl _ _ | exact b1 _ _ | exact b2 _ _ _ | exact b3 _ _ _ _ | exact b4 _ _ _ _ _ | exact b5 _ _ _ _ _ _ | exact b6 _ _ _ _ _ _ _))).mono ?_; rintro e9 w9 ⟨rfl, hw9⟩; subst w9)
  go_ret
  exact ⟨rfl, rfl⟩
set_option maxHeartbeats 800000 in
set_option maxRecDepth 8000 in
theorem plan_nd (p : Option Addr) (a : Option Addr) (l c : Nat) (w : World) (h : ND w p) :
    Calls Tryz.prog 15 #[.pointer p, .slice a l c] w fun e w' => e = .returned (.int .i64 1) ∧ w' = w := by
  go_enter Tryz.func15, Tryz.ntmps15
  go_wp2_with (go_at_call 60; refine (made_any p _ (h.on (by first | exact Below.refl _ _ | exact b1 _ _ | exact b2 _ _ _ | exact b3 _ _ _ _ | exact b4 _ _ _ _ _ | exact b5 _ _ _ _ _ _ | exact b6 _ _ _ _ _ _ _))).mono ?_; rintro e9 w9 ⟨rfl, hw9⟩; subst w9)
  go_ret
  exact ⟨rfl, rfl⟩
set_option maxHeartbeats 800000 in
set_option maxRecDepth 8000 in
theorem restart_nd (p : Option Addr) (k : Int) (a : Option Addr) (l c : Nat) (w : World) (h : ND w p) :
    Calls Tryz.prog 73 #[.pointer p, .int .i64 k, .slice a l c] w fun e w' => e = .returned (.int .i64 1) ∧ w' = w := by
  go_enter Tryz.func73, Tryz.ntmps73
  go_wp2_with (go_at_call 60; refine (made_any p _ (h.on (by first | exact Below.refl _ _ | exact b1 _ _ | exact b2 _ _ _ | exact b3 _ _ _ _ | exact b4 _ _ _ _ _ | exact b5 _ _ _ _ _ _ | exact b6 _ _ _ _ _ _ _))).mono ?_; rintro e9 w9 ⟨rfl, hw9⟩; subst w9)
  go_ret
  exact ⟨rfl, rfl⟩
set_option maxHeartbeats 800000 in
set_option maxRecDepth 8000 in
theorem flip_nd (p : Option Addr) (s : ByteArray) (k : Int) (w : World) (h : ND w p) :
    Calls Tryz.prog 75 #[.pointer p, .string s, .int .i64 k] w fun e w' => e = .returned (.int .i64 1) ∧ w' = w := by
  go_enter Tryz.func75, Tryz.ntmps75
  go_wp2_with (go_at_call 60; refine (made_any p _ (h.on (by first | exact Below.refl _ _ | exact b1 _ _ | exact b2 _ _ _ | exact b3 _ _ _ _ | exact b4 _ _ _ _ _ | exact b5 _ _ _ _ _ _ | exact b6 _ _ _ _ _ _ _))).mono ?_; rintro e9 w9 ⟨rfl, hw9⟩; subst w9)
  go_ret
  exact ⟨rfl, rfl⟩
set_option maxHeartbeats 800000 in
set_option maxRecDepth 8000 in
theorem ops_nd (p : Option Addr)  (w : World) (h : ND w p) :
    Calls Tryz.prog 78 #[.pointer p] w fun e w' => e = .returned (.int .i64 0) ∧ w' = w := by
  go_enter Tryz.func78, Tryz.ntmps78
  go_wp2_with (go_at_call 60; refine (made_any p _ (h.on (by first | exact Below.refl _ _ | exact b1 _ _ | exact b2 _ _ _ | exact b3 _ _ _ _ | exact b4 _ _ _ _ _ | exact b5 _ _ _ _ _ _ | exact b6 _ _ _ _ _ _ _))).mono ?_; rintro e9 w9 ⟨rfl, hw9⟩; subst w9)
  go_ret
  exact ⟨rfl, rfl⟩
set_option maxHeartbeats 800000 in
set_option maxRecDepth 8000 in
theorem stats_nd (p : Option Addr)  (w : World) (h : ND w p) :
    Calls Tryz.prog 81 #[.pointer p] w fun e w' => e = .returned (.slice none 0 0) ∧ w' = w := by
  go_enter Tryz.func81, Tryz.ntmps81
  go_wp2_with (go_at_call 60; refine (made_any p _ (h.on (by first | exact Below.refl _ _ | exact b1 _ _ | exact b2 _ _ _ | exact b3 _ _ _ _ | exact b4 _ _ _ _ _ | exact b5 _ _ _ _ _ _ | exact b6 _ _ _ _ _ _ _))).mono ?_; rintro e9 w9 ⟨rfl, hw9⟩; subst w9)
  go_ret
  exact ⟨rfl, rfl⟩
set_option maxHeartbeats 800000 in
set_option maxRecDepth 8000 in
theorem copy_nd (p : Option Addr)  (w : World) (h : ND w p) :
    Calls Tryz.prog 76 #[.pointer p] w fun e w' => e = .returned (.pointer none) ∧ w' = w := by
  go_enter Tryz.func76, Tryz.ntmps76
  go_wp2_with (go_at_call 60; refine (made_any p _ (h.on (by first | exact Below.refl _ _ | exact b1 _ _ | exact b2 _ _ _ | exact b3 _ _ _ _ | exact b4 _ _ _ _ _ | exact b5 _ _ _ _ _ _ | exact b6 _ _ _ _ _ _ _))).mono ?_; rintro e9 w9 ⟨rfl, hw9⟩; subst w9)
  go_ret
  exact ⟨rfl, rfl⟩
set_option maxHeartbeats 800000 in
set_option maxRecDepth 8000 in
theorem used_nd (p : Option Addr)  (w : World) (h : ND w p) :
    Calls Tryz.prog 80 #[.pointer p] w fun e w' => e = .returned (.tuple #[.int .i64 0, .int .i64 0]) ∧ w' = w := by
  go_enter Tryz.func80, Tryz.ntmps80
  go_wp2_with (go_at_call 60; refine (made_any p _ (h.on (by first | exact Below.refl _ _ | exact b1 _ _ | exact b2 _ _ _ | exact b3 _ _ _ _ | exact b4 _ _ _ _ _ | exact b5 _ _ _ _ _ _ | exact b6 _ _ _ _ _ _ _))).mono ?_; rintro e9 w9 ⟨rfl, hw9⟩; subst w9)
  go_ret2
  exact ⟨rfl, rfl⟩
set_option maxHeartbeats 800000 in
set_option maxRecDepth 8000 in
theorem lit_nd (p : Option Addr)  (w : World) (h : ND w p) :
    Calls Tryz.prog 79 #[.pointer p] w fun e w' => e = .returned (.bool false) ∧ w' = w := by
  go_enter Tryz.func79, Tryz.ntmps79
  go_wp2_with (go_at_call 60; refine (made_any p _ (h.on (by first | exact Below.refl _ _ | exact b1 _ _ | exact b2 _ _ _ | exact b3 _ _ _ _ | exact b4 _ _ _ _ _ | exact b5 _ _ _ _ _ _ | exact b6 _ _ _ _ _ _ _))).mono ?_; rintro e9 w9 ⟨rfl, hw9⟩; subst w9)
  go_ret
  exact ⟨rfl, rfl⟩
end Nl
end Go.Proofs.YtiljdiagabepbaaGreatDoor
