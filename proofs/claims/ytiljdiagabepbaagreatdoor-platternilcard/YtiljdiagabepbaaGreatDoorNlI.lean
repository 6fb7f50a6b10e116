import Derived.Test.YtiljdiagabepbaaGreatDoorNlF
namespace Go.Proofs.YtiljdiagabepbaaGreatDoor
namespace Nl
open Go.RowKit
set_option linter.unusedVariables false
set_option maxHeartbeats 1600000 in
set_option maxRecDepth 8000 in
theorem do_1 (p : Option Addr) (s t : ByteArray) (da : Option Addr) (dl dc : Nat) (at' n : Int) (ka : Option Addr) (kl kc : Nat) (pa : Option Addr) (pl pc : Nat) (w : World) (h : ND w p) :
    Calls Tryz.prog 10 #[.pointer p, .agg (opC 1 s t da dl dc at' n ka kl kc pa pl pc)] w fun e w' => ∃ v, e = .returned (.tuple #[v, .pointer p]) ∧ AnsQ w w' 1 [] v ∧ Below w.heap.size w w' := by
  go_enter Tryz.func10, Tryz.ntmps10
  go_wp2_with (first | (go_at_call 26; refine (create_nd p _ _ (h.on (by first | exact Below.refl _ _ | exact b1 _ _ | exact b2 _ _ _ | exact b3 _ _ _ _ | exact b4 _ _ _ _ _ | exact b5 _ _ _ _ _ _ | exact b6 _ _ _ _ _ _ _ | exact b7 _ _ _ _ _ _ _ _ | exact b8 _ _ _ _ _ _ _ _ _))).mono ?_; rintro e9 w9 ⟨rfl, hw9⟩; subst w9) | (go_at_call 7; refine (num_any _ _).mono ?_; rintro e20 w20 ⟨rfl, hw20⟩; subst w20))
  refine bodyPost_ret (v := .tuple #[.agg #[.int .i64 1, .slice none 0 0, .slice none 0 0, .slice none 0 0, .slice none 0 0], .pointer p]) ?_ rfl ⟨_, rfl, ⟨_, rfl, .inl ⟨rfl, rfl⟩, fun g l c h => by cases h⟩, by first | exact Below.refl _ _ | exact b1 _ _ | exact b2 _ _ _ | exact b3 _ _ _ _ | exact b4 _ _ _ _ _ | exact b5 _ _ _ _ _ _ | exact b6 _ _ _ _ _ _ _ | exact b7 _ _ _ _ _ _ _ _ | exact b8 _ _ _ _ _ _ _ _ _⟩
  simp only [results, Tryz.results10, asAddr]
  go_simp
set_option maxHeartbeats 1600000 in
set_option maxRecDepth 8000 in
theorem do_4 (p : Option Addr) (s t : ByteArray) (da : Option Addr) (dl dc : Nat) (at' n : Int) (ka : Option Addr) (kl kc : Nat) (pa : Option Addr) (pl pc : Nat) (w : World) (h : ND w p) :
    Calls Tryz.prog 10 #[.pointer p, .agg (opC 4 s t da dl dc at' n ka kl kc pa pl pc)] w fun e w' => ∃ v, e = .returned (.tuple #[v, .pointer p]) ∧ AnsQ w w' 1 [0] v ∧ Below w.heap.size w w' := by
  go_enter Tryz.func10, Tryz.ntmps10
  go_wp2_with (first | (go_at_call 31; refine (size_nd p _ _ (h.on (by first | exact Below.refl _ _ | exact b1 _ _ | exact b2 _ _ _ | exact b3 _ _ _ _ | exact b4 _ _ _ _ _ | exact b5 _ _ _ _ _ _ | exact b6 _ _ _ _ _ _ _ | exact b7 _ _ _ _ _ _ _ _ | exact b8 _ _ _ _ _ _ _ _ _))).mono ?_; rintro e9 w9 ⟨rfl, hw9⟩; subst w9) | (go_at_call 7; refine (num_any _ _).mono ?_; rintro e20 w20 ⟨rfl, hw20⟩; subst w20))
  refine bodyPost_ret (v := .tuple #[.agg #[.int .i64 1, .slice (some ⟨w.heap.size + 1 + 1 + 1 + 1 + 1 + 1, 0, none⟩) 1 1, .slice none 0 0, .slice none 0 0, .slice none 0 0], .pointer p]) ?_ rfl ⟨_, rfl, ⟨_, rfl, .inr ⟨by decide, _, _, rfl, fun i hi => by
    match i, hi with
    | 0, _ => exact cell_new _ _ _ _ _ _ (by simp) rfl
    ⟩, fun g l c h => by simp at h; omega⟩, by first | exact Below.refl _ _ | exact b1 _ _ | exact b2 _ _ _ | exact b3 _ _ _ _ | exact b4 _ _ _ _ _ | exact b5 _ _ _ _ _ _ | exact b6 _ _ _ _ _ _ _ | exact b7 _ _ _ _ _ _ _ _ | exact b8 _ _ _ _ _ _ _ _ _⟩
  simp only [results, Tryz.results10, asAddr]
  go_simp
set_option maxHeartbeats 1600000 in
set_option maxRecDepth 8000 in
theorem do_5 (p : Option Addr) (s t : ByteArray) (da : Option Addr) (dl dc : Nat) (at' n : Int) (ka : Option Addr) (kl kc : Nat) (pa : Option Addr) (pl pc : Nat) (w : World) (h : ND w p) :
    Calls Tryz.prog 10 #[.pointer p, .agg (opC 5 s t da dl dc at' n ka kl kc pa pl pc)] w fun e w' => ∃ v, e = .returned (.tuple #[v, .pointer p]) ∧ AnsQ w w' 1 [] v ∧ Below w.heap.size w w' := by
  go_enter Tryz.func10, Tryz.ntmps10
  go_wp2_with (first | (go_at_call 32; refine (sync_nd p _ _ (h.on (by first | exact Below.refl _ _ | exact b1 _ _ | exact b2 _ _ _ | exact b3 _ _ _ _ | exact b4 _ _ _ _ _ | exact b5 _ _ _ _ _ _ | exact b6 _ _ _ _ _ _ _ | exact b7 _ _ _ _ _ _ _ _ | exact b8 _ _ _ _ _ _ _ _ _))).mono ?_; rintro e9 w9 ⟨rfl, hw9⟩; subst w9) | (go_at_call 7; refine (num_any _ _).mono ?_; rintro e20 w20 ⟨rfl, hw20⟩; subst w20))
  refine bodyPost_ret (v := .tuple #[.agg #[.int .i64 1, .slice none 0 0, .slice none 0 0, .slice none 0 0, .slice none 0 0], .pointer p]) ?_ rfl ⟨_, rfl, ⟨_, rfl, .inl ⟨rfl, rfl⟩, fun g l c h => by cases h⟩, by first | exact Below.refl _ _ | exact b1 _ _ | exact b2 _ _ _ | exact b3 _ _ _ _ | exact b4 _ _ _ _ _ | exact b5 _ _ _ _ _ _ | exact b6 _ _ _ _ _ _ _ | exact b7 _ _ _ _ _ _ _ _ | exact b8 _ _ _ _ _ _ _ _ _⟩
  simp only [results, Tryz.results10, asAddr]
  go_simp
set_option maxHeartbeats 1600000 in
set_option maxRecDepth 8000 in
theorem do_6 (p : Option Addr) (s t : ByteArray) (da : Option Addr) (dl dc : Nat) (at' n : Int) (ka : Option Addr) (kl kc : Nat) (pa : Option Addr) (pl pc : Nat) (w : World) (h : ND w p) :
    Calls Tryz.prog 10 #[.pointer p, .agg (opC 6 s t da dl dc at' n ka kl kc pa pl pc)] w fun e w' => ∃ v, e = .returned (.tuple #[v, .pointer p]) ∧ AnsQ w w' 1 [] v ∧ Below w.heap.size w w' := by
  go_enter Tryz.func10, Tryz.ntmps10
  go_wp2_with (first | (go_at_call 33; refine (syncdir_nd p _ (h.on (by first | exact Below.refl _ _ | exact b1 _ _ | exact b2 _ _ _ | exact b3 _ _ _ _ | exact b4 _ _ _ _ _ | exact b5 _ _ _ _ _ _ | exact b6 _ _ _ _ _ _ _ | exact b7 _ _ _ _ _ _ _ _ | exact b8 _ _ _ _ _ _ _ _ _))).mono ?_; rintro e9 w9 ⟨rfl, hw9⟩; subst w9) | (go_at_call 7; refine (num_any _ _).mono ?_; rintro e20 w20 ⟨rfl, hw20⟩; subst w20))
  refine bodyPost_ret (v := .tuple #[.agg #[.int .i64 1, .slice none 0 0, .slice none 0 0, .slice none 0 0, .slice none 0 0], .pointer p]) ?_ rfl ⟨_, rfl, ⟨_, rfl, .inl ⟨rfl, rfl⟩, fun g l c h => by cases h⟩, by first | exact Below.refl _ _ | exact b1 _ _ | exact b2 _ _ _ | exact b3 _ _ _ _ | exact b4 _ _ _ _ _ | exact b5 _ _ _ _ _ _ | exact b6 _ _ _ _ _ _ _ | exact b7 _ _ _ _ _ _ _ _ | exact b8 _ _ _ _ _ _ _ _ _⟩
  simp only [results, Tryz.results10, asAddr]
  go_simp
set_option maxHeartbeats 1600000 in
set_option maxRecDepth 8000 in
theorem do_7 (p : Option Addr) (s t : ByteArray) (da : Option Addr) (dl dc : Nat) (at' n : Int) (ka : Option Addr) (kl kc : Nat) (pa : Option Addr) (pl pc : Nat) (w : World) (h : ND w p) :
    Calls Tryz.prog 10 #[.pointer p, .agg (opC 7 s t da dl dc at' n ka kl kc pa pl pc)] w fun e w' => ∃ v, e = .returned (.tuple #[v, .pointer p]) ∧ AnsQ w w' 1 [] v ∧ Below w.heap.size w w' := by
  go_enter Tryz.func10, Tryz.ntmps10
  go_wp2_with (first | (go_at_call 34; refine (rename_nd p _ _ _ (h.on (by first | exact Below.refl _ _ | exact b1 _ _ | exact b2 _ _ _ | exact b3 _ _ _ _ | exact b4 _ _ _ _ _ | exact b5 _ _ _ _ _ _ | exact b6 _ _ _ _ _ _ _ | exact b7 _ _ _ _ _ _ _ _ | exact b8 _ _ _ _ _ _ _ _ _))).mono ?_; rintro e9 w9 ⟨rfl, hw9⟩; subst w9) | (go_at_call 7; refine (num_any _ _).mono ?_; rintro e20 w20 ⟨rfl, hw20⟩; subst w20))
  refine bodyPost_ret (v := .tuple #[.agg #[.int .i64 1, .slice none 0 0, .slice none 0 0, .slice none 0 0, .slice none 0 0], .pointer p]) ?_ rfl ⟨_, rfl, ⟨_, rfl, .inl ⟨rfl, rfl⟩, fun g l c h => by cases h⟩, by first | exact Below.refl _ _ | exact b1 _ _ | exact b2 _ _ _ | exact b3 _ _ _ _ | exact b4 _ _ _ _ _ | exact b5 _ _ _ _ _ _ | exact b6 _ _ _ _ _ _ _ | exact b7 _ _ _ _ _ _ _ _ | exact b8 _ _ _ _ _ _ _ _ _⟩
  simp only [results, Tryz.results10, asAddr]
  go_simp
set_option maxHeartbeats 1600000 in
set_option maxRecDepth 8000 in
theorem do_8 (p : Option Addr) (s t : ByteArray) (da : Option Addr) (dl dc : Nat) (at' n : Int) (ka : Option Addr) (kl kc : Nat) (pa : Option Addr) (pl pc : Nat) (w : World) (h : ND w p) :
    Calls Tryz.prog 10 #[.pointer p, .agg (opC 8 s t da dl dc at' n ka kl kc pa pl pc)] w fun e w' => ∃ v, e = .returned (.tuple #[v, .pointer p]) ∧ AnsQ w w' 1 [] v ∧ Below w.heap.size w w' := by
  go_enter Tryz.func10, Tryz.ntmps10
  go_wp2_with (first | (go_at_call 35; refine (remove_nd p _ _ (h.on (by first | exact Below.refl _ _ | exact b1 _ _ | exact b2 _ _ _ | exact b3 _ _ _ _ | exact b4 _ _ _ _ _ | exact b5 _ _ _ _ _ _ | exact b6 _ _ _ _ _ _ _ | exact b7 _ _ _ _ _ _ _ _ | exact b8 _ _ _ _ _ _ _ _ _))).mono ?_; rintro e9 w9 ⟨rfl, hw9⟩; subst w9) | (go_at_call 7; refine (num_any _ _).mono ?_; rintro e20 w20 ⟨rfl, hw20⟩; subst w20))
  refine bodyPost_ret (v := .tuple #[.agg #[.int .i64 1, .slice none 0 0, .slice none 0 0, .slice none 0 0, .slice none 0 0], .pointer p]) ?_ rfl ⟨_, rfl, ⟨_, rfl, .inl ⟨rfl, rfl⟩, fun g l c h => by cases h⟩, by first | exact Below.refl _ _ | exact b1 _ _ | exact b2 _ _ _ | exact b3 _ _ _ _ | exact b4 _ _ _ _ _ | exact b5 _ _ _ _ _ _ | exact b6 _ _ _ _ _ _ _ | exact b7 _ _ _ _ _ _ _ _ | exact b8 _ _ _ _ _ _ _ _ _⟩
  simp only [results, Tryz.results10, asAddr]
  go_simp
set_option maxHeartbeats 1600000 in
set_option maxRecDepth 8000 in
theorem do_9 (p : Option Addr) (s t : ByteArray) (da : Option Addr) (dl dc : Nat) (at' n : Int) (ka : Option Addr) (kl kc : Nat) (pa : Option Addr) (pl pc : Nat) (w : World) (h : ND w p) :
    Calls Tryz.prog 10 #[.pointer p, .agg (opC 9 s t da dl dc at' n ka kl kc pa pl pc)] w fun e w' => ∃ v, e = .returned (.tuple #[v, .pointer p]) ∧ AnsQ w w' 1 [] v ∧ Below w.heap.size w w' := by
  go_enter Tryz.func10, Tryz.ntmps10
  go_wp2_with (first | (go_at_call 36; refine (list_nd p _ (h.on (by first | exact Below.refl _ _ | exact b1 _ _ | exact b2 _ _ _ | exact b3 _ _ _ _ | exact b4 _ _ _ _ _ | exact b5 _ _ _ _ _ _ | exact b6 _ _ _ _ _ _ _ | exact b7 _ _ _ _ _ _ _ _ | exact b8 _ _ _ _ _ _ _ _ _))).mono ?_; rintro e9 w9 ⟨rfl, hw9⟩; subst w9) | (go_at_call 7; refine (num_any _ _).mono ?_; rintro e20 w20 ⟨rfl, hw20⟩; subst w20))
  refine bodyPost_ret (v := .tuple #[.agg #[.int .i64 1, .slice none 0 0, .slice none 0 0, .slice none 0 0, .slice none 0 0], .pointer p]) ?_ rfl ⟨_, rfl, ⟨_, rfl, .inl ⟨rfl, rfl⟩, fun g l c h => by cases h⟩, by first | exact Below.refl _ _ | exact b1 _ _ | exact b2 _ _ _ | exact b3 _ _ _ _ | exact b4 _ _ _ _ _ | exact b5 _ _ _ _ _ _ | exact b6 _ _ _ _ _ _ _ | exact b7 _ _ _ _ _ _ _ _ | exact b8 _ _ _ _ _ _ _ _ _⟩
  simp only [results, Tryz.results10, asAddr]
  go_simp
end Nl
end Go.Proofs.YtiljdiagabepbaaGreatDoor
