import Derived.Test.YtiljdiagabepbaaGreatDoorNlA
namespace Go.Proofs.YtiljdiagabepbaaGreatDoor
namespace Nl
open Go.RowKit
set_option linter.unusedVariables false
set_option maxHeartbeats 800000 in
set_option maxRecDepth 8000 in
theorem create_nd (p : Option Addr) (s : ByteArray) (w : World) (h : ND w p) :
    Calls Tryz.prog 26 #[.pointer p, .string s] w fun e w' => e = .returned (.int .i64 1) ∧ w' = (w.alloc (.cells #[.pointer p] 23)).alloc (.cells #[.string s] 9) := by
  go_enter Tryz.func26, Tryz.ntmps26
  go_wp2_with (go_at_call 16; refine (gate_any p _ _ _ (h.on (by first | exact Below.refl _ _ | exact b1 _ _ | exact b2 _ _ _ | exact b3 _ _ _ _ | exact b4 _ _ _ _ _ | exact b5 _ _ _ _ _ _ | exact b6 _ _ _ _ _ _ _))).mono ?_; rintro e9 w9 ⟨rfl, hw9⟩; subst w9)
  go_ret
  exact ⟨rfl, rfl⟩
set_option maxHeartbeats 800000 in
set_option maxRecDepth 8000 in
theorem append_nd (p : Option Addr) (s : ByteArray) (a : Option Addr) (l c : Nat) (w : World) (h : ND w p) :
    Calls Tryz.prog 9 #[.pointer p, .string s, .slice a l c] w fun e w' => e = .returned (.int .i64 1) ∧ w' = ((w.alloc (.cells #[.pointer p] 23)).alloc (.cells #[.string s] 9)).alloc (.cells #[.slice a l c] 34) := by
  go_enter Tryz.func9, Tryz.ntmps9
  go_wp2_with (go_at_call 16; refine (gate_any p _ _ _ (h.on (by first | exact Below.refl _ _ | exact b1 _ _ | exact b2 _ _ _ | exact b3 _ _ _ _ | exact b4 _ _ _ _ _ | exact b5 _ _ _ _ _ _ | exact b6 _ _ _ _ _ _ _))).mono ?_; rintro e9 w9 ⟨rfl, hw9⟩; subst w9)
  go_ret
  exact ⟨rfl, rfl⟩
set_option maxHeartbeats 800000 in
set_option maxRecDepth 8000 in
theorem sync_nd (p : Option Addr) (s : ByteArray) (w : World) (h : ND w p) :
    Calls Tryz.prog 32 #[.pointer p, .string s] w fun e w' => e = .returned (.int .i64 1) ∧ w' = (w.alloc (.cells #[.pointer p] 23)).alloc (.cells #[.string s] 9) := by
  go_enter Tryz.func32, Tryz.ntmps32
  go_wp2_with (go_at_call 16; refine (gate_any p _ _ _ (h.on (by first | exact Below.refl _ _ | exact b1 _ _ | exact b2 _ _ _ | exact b3 _ _ _ _ | exact b4 _ _ _ _ _ | exact b5 _ _ _ _ _ _ | exact b6 _ _ _ _ _ _ _))).mono ?_; rintro e9 w9 ⟨rfl, hw9⟩; subst w9)
  go_ret
  exact ⟨rfl, rfl⟩
set_option maxHeartbeats 800000 in
set_option maxRecDepth 8000 in
theorem syncdir_nd (p : Option Addr)  (w : World) (h : ND w p) :
    Calls Tryz.prog 33 #[.pointer p] w fun e w' => e = .returned (.int .i64 1) ∧ w' = w.alloc (.cells #[.pointer p] 23) := by
  go_enter Tryz.func33, Tryz.ntmps33
  go_wp2_with (go_at_call 16; refine (gate_any p _ _ _ (h.on (by first | exact Below.refl _ _ | exact b1 _ _ | exact b2 _ _ _ | exact b3 _ _ _ _ | exact b4 _ _ _ _ _ | exact b5 _ _ _ _ _ _ | exact b6 _ _ _ _ _ _ _))).mono ?_; rintro e9 w9 ⟨rfl, hw9⟩; subst w9)
  go_ret
  exact ⟨rfl, rfl⟩
set_option maxHeartbeats 800000 in
set_option maxRecDepth 8000 in
theorem rename_nd (p : Option Addr) (s t : ByteArray) (w : World) (h : ND w p) :
    Calls Tryz.prog 34 #[.pointer p, .string s, .string t] w fun e w' => e = .returned (.int .i64 1) ∧ w' = ((w.alloc (.cells #[.pointer p] 23)).alloc (.cells #[.string s] 9)).alloc (.cells #[.string t] 9) := by
  go_enter Tryz.func34, Tryz.ntmps34
  go_wp2_with (go_at_call 16; refine (gate_any p _ _ _ (h.on (by first | exact Below.refl _ _ | exact b1 _ _ | exact b2 _ _ _ | exact b3 _ _ _ _ | exact b4 _ _ _ _ _ | exact b5 _ _ _ _ _ _ | exact b6 _ _ _ _ _ _ _))).mono ?_; rintro e9 w9 ⟨rfl, hw9⟩; subst w9)
  go_ret
  exact ⟨rfl, rfl⟩
set_option maxHeartbeats 800000 in
set_option maxRecDepth 8000 in
theorem remove_nd (p : Option Addr) (s : ByteArray) (w : World) (h : ND w p) :
    Calls Tryz.prog 35 #[.pointer p, .string s] w fun e w' => e = .returned (.int .i64 1) ∧ w' = (w.alloc (.cells #[.pointer p] 23)).alloc (.cells #[.string s] 9) := by
  go_enter Tryz.func35, Tryz.ntmps35
  go_wp2_with (go_at_call 16; refine (gate_any p _ _ _ (h.on (by first | exact Below.refl _ _ | exact b1 _ _ | exact b2 _ _ _ | exact b3 _ _ _ _ | exact b4 _ _ _ _ _ | exact b5 _ _ _ _ _ _ | exact b6 _ _ _ _ _ _ _))).mono ?_; rintro e9 w9 ⟨rfl, hw9⟩; subst w9)
  go_ret
  exact ⟨rfl, rfl⟩
end Nl
end Go.Proofs.YtiljdiagabepbaaGreatDoor
