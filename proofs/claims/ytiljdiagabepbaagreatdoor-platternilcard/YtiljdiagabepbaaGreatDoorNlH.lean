import Derived.Test.YtiljdiagabepbaaGreatDoorNlF
namespace Go.Proofs.YtiljdiagabepbaaGreatDoor
namespace Nl
open Go.RowKit
set_option linter.unusedVariables false
set_option maxHeartbeats 1600000 in
set_option maxRecDepth 8000 in
theorem bes_12 (p : Option Addr) (s t : ByteArray) (da : Option Addr) (dl dc : Nat) (at' n : Int) (ka : Option Addr) (kl kc : Nat) (pa : Option Addr) (pl pc : Nat) (w : World) (h : ND w p) :
    Calls Tryz.prog 37 #[.pointer p, .agg (opC 12 s t da dl dc at' n ka kl kc pa pl pc)] w fun e w' => ∃ v, e = .returned (.tuple #[v, .pointer p]) ∧ AnsQ w w' 1 [] v ∧ Below w.heap.size w w' := by
  go_enter Tryz.func37, Tryz.ntmps37
  go_wp2_with (first | (go_at_call 74; refine (mend_nd p _ (h.on (by first | exact Below.refl _ _ | exact b1 _ _ | exact b2 _ _ _ | exact b3 _ _ _ _ | exact b4 _ _ _ _ _ | exact b5 _ _ _ _ _ _ | exact b6 _ _ _ _ _ _ _ | exact b7 _ _ _ _ _ _ _ _ | exact b8 _ _ _ _ _ _ _ _ _))).mono ?_; rintro e9 w9 ⟨rfl, hw9⟩; subst w9) | (go_at_call 7; refine (num_any _ _).mono ?_; rintro e20 w20 ⟨rfl, hw20⟩; subst w20))
  refine bodyPost_ret (v := .tuple #[.agg #[.int .i64 1, .slice none 0 0, .slice none 0 0, .slice none 0 0, .slice none 0 0], .pointer p]) ?_ rfl ⟨_, rfl, ⟨_, rfl, .inl ⟨rfl, rfl⟩, fun g l c h => by cases h⟩, by first | exact Below.refl _ _ | exact b1 _ _ | exact b2 _ _ _ | exact b3 _ _ _ _ | exact b4 _ _ _ _ _ | exact b5 _ _ _ _ _ _ | exact b6 _ _ _ _ _ _ _ | exact b7 _ _ _ _ _ _ _ _ | exact b8 _ _ _ _ _ _ _ _ _⟩
  simp only [results, Tryz.results37, asAddr]
  go_simp
set_option maxHeartbeats 1600000 in
set_option maxRecDepth 8000 in
theorem bes_13 (p : Option Addr) (s t : ByteArray) (da : Option Addr) (dl dc : Nat) (at' n : Int) (ka : Option Addr) (kl kc : Nat) (pa : Option Addr) (pl pc : Nat) (w : World) (h : ND w p) :
    Calls Tryz.prog 37 #[.pointer p, .agg (opC 13 s t da dl dc at' n ka kl kc pa pl pc)] w fun e w' => ∃ v, e = .returned (.tuple #[v, .pointer p]) ∧ AnsQ w w' 1 [] v ∧ Below w.heap.size w w' := by
  go_enter Tryz.func37, Tryz.ntmps37
  go_wp2_with (first | (go_at_call 75; refine (flip_nd p _ _ _ (h.on (by first | exact Below.refl _ _ | exact b1 _ _ | exact b2 _ _ _ | exact b3 _ _ _ _ | exact b4 _ _ _ _ _ | exact b5 _ _ _ _ _ _ | exact b6 _ _ _ _ _ _ _ | exact b7 _ _ _ _ _ _ _ _ | exact b8 _ _ _ _ _ _ _ _ _))).mono ?_; rintro e9 w9 ⟨rfl, hw9⟩; subst w9) | (go_at_call 7; refine (num_any _ _).mono ?_; rintro e20 w20 ⟨rfl, hw20⟩; subst w20))
  refine bodyPost_ret (v := .tuple #[.agg #[.int .i64 1, .slice none 0 0, .slice none 0 0, .slice none 0 0, .slice none 0 0], .pointer p]) ?_ rfl ⟨_, rfl, ⟨_, rfl, .inl ⟨rfl, rfl⟩, fun g l c h => by cases h⟩, by first | exact Below.refl _ _ | exact b1 _ _ | exact b2 _ _ _ | exact b3 _ _ _ _ | exact b4 _ _ _ _ _ | exact b5 _ _ _ _ _ _ | exact b6 _ _ _ _ _ _ _ | exact b7 _ _ _ _ _ _ _ _ | exact b8 _ _ _ _ _ _ _ _ _⟩
  simp only [results, Tryz.results37, asAddr]
  go_simp
set_option maxHeartbeats 1600000 in
set_option maxRecDepth 8000 in
theorem bes_14 (p : Option Addr) (s t : ByteArray) (da : Option Addr) (dl dc : Nat) (at' n : Int) (ka : Option Addr) (kl kc : Nat) (pa : Option Addr) (pl pc : Nat) (w : World) (h : ND w p) :
    Calls Tryz.prog 37 #[.pointer p, .agg (opC 14 s t da dl dc at' n ka kl kc pa pl pc)] w fun e w' => ∃ v, e = .returned (.tuple #[v, .pointer p]) ∧ AnsQ w w' 0 [1] v ∧ Below w.heap.size w w' := by
  go_enter Tryz.func37, Tryz.ntmps37
  go_wp2_with (first | (go_at_call 76; refine (copy_nd p _ (h.on (by first | exact Below.refl _ _ | exact b1 _ _ | exact b2 _ _ _ | exact b3 _ _ _ _ | exact b4 _ _ _ _ _ | exact b5 _ _ _ _ _ _ | exact b6 _ _ _ _ _ _ _ | exact b7 _ _ _ _ _ _ _ _ | exact b8 _ _ _ _ _ _ _ _ _))).mono ?_; rintro e9 w9 ⟨rfl, hw9⟩; subst w9) | (go_at_call 29; refine (bit_any _ _).mono ?_; rintro e10 w10 ⟨rfl, hw10⟩; subst w10) | (go_at_call 7; refine (num_any _ _).mono ?_; rintro e20 w20 ⟨rfl, hw20⟩; subst w20))
  refine bodyPost_ret (v := .tuple #[.agg #[.int .i64 0, .slice (some ⟨w.heap.size + 1 + 1 + 1, 0, none⟩) 1 1, .slice none 0 0, .slice none 0 0, .slice none 0 0], .pointer p]) ?_ rfl ⟨_, rfl, ⟨_, rfl, .inr ⟨by decide, _, _, rfl, fun i hi => by
    match i, hi with
    | 0, _ => exact cell_new _ _ _ _ _ _ (by simp) rfl
    ⟩, fun g l c h => by simp at h; omega⟩, by first | exact Below.refl _ _ | exact b1 _ _ | exact b2 _ _ _ | exact b3 _ _ _ _ | exact b4 _ _ _ _ _ | exact b5 _ _ _ _ _ _ | exact b6 _ _ _ _ _ _ _ | exact b7 _ _ _ _ _ _ _ _ | exact b8 _ _ _ _ _ _ _ _ _⟩
  simp only [results, Tryz.results37, asAddr]
  go_simp
set_option maxHeartbeats 1600000 in
set_option maxRecDepth 8000 in
theorem bes_15 (p : Option Addr) (s t : ByteArray) (da : Option Addr) (dl dc : Nat) (at' n : Int) (ka : Option Addr) (kl kc : Nat) (pa : Option Addr) (pl pc : Nat) (w : World) (h : ND w p) :
    Calls Tryz.prog 37 #[.pointer p, .agg (opC 15 s t da dl dc at' n ka kl kc pa pl pc)] w fun e w' => ∃ v, e = .returned (.tuple #[v, .pointer p]) ∧ AnsQ w w' 0 [0, 0, 0, 0] v ∧ Below w.heap.size w w' := by
  go_enter Tryz.func37, Tryz.ntmps37
  go_wp2_with (first | (go_at_call 78; refine (ops_nd p _ (h.on (by first | exact Below.refl _ _ | exact b1 _ _ | exact b2 _ _ _ | exact b3 _ _ _ _ | exact b4 _ _ _ _ _ | exact b5 _ _ _ _ _ _ | exact b6 _ _ _ _ _ _ _ | exact b7 _ _ _ _ _ _ _ _ | exact b8 _ _ _ _ _ _ _ _ _))).mono ?_; rintro e9 w9 ⟨rfl, hw9⟩; subst w9) | (go_at_call 79; refine (lit_nd p _ (h.on (by first | exact Below.refl _ _ | exact b1 _ _ | exact b2 _ _ _ | exact b3 _ _ _ _ | exact b4 _ _ _ _ _ | exact b5 _ _ _ _ _ _ | exact b6 _ _ _ _ _ _ _ | exact b7 _ _ _ _ _ _ _ _ | exact b8 _ _ _ _ _ _ _ _ _))).mono ?_; rintro e10 w10 ⟨rfl, hw10⟩; subst w10) | (go_at_call 80; refine (used_nd p _ (h.on (by first | exact Below.refl _ _ | exact b1 _ _ | exact b2 _ _ _ | exact b3 _ _ _ _ | exact b4 _ _ _ _ _ | exact b5 _ _ _ _ _ _ | exact b6 _ _ _ _ _ _ _ | exact b7 _ _ _ _ _ _ _ _ | exact b8 _ _ _ _ _ _ _ _ _))).mono ?_; rintro e11 w11 ⟨rfl, hw11⟩; subst w11) | (go_at_call 29; refine (bit_any _ _).mono ?_; rintro e12 w12 ⟨rfl, hw12⟩; subst w12) | (go_at_call 7; refine (num_any _ _).mono ?_; rintro e20 w20 ⟨rfl, hw20⟩; subst w20))
  refine bodyPost_ret (v := .tuple #[.agg #[.int .i64 0, .slice (some ⟨w.heap.size + 1 + 1 + 1, 0, none⟩) 4 4, .slice none 0 0, .slice none 0 0, .slice none 0 0], .pointer p]) ?_ rfl ⟨_, rfl, ⟨_, rfl, .inr ⟨by decide, _, _, rfl, fun i hi => by
    match i, hi with
    | 0, _ => exact cell_new _ _ _ _ _ _ (by simp) rfl
    | 1, _ => exact cell_new _ _ _ _ _ _ (by simp) rfl
    | 2, _ => exact cell_new _ _ _ _ _ _ (by simp) rfl
    | 3, _ => exact cell_new _ _ _ _ _ _ (by simp) rfl
    ⟩, fun g l c h => by simp at h; omega⟩, by first | exact Below.refl _ _ | exact b1 _ _ | exact b2 _ _ _ | exact b3 _ _ _ _ | exact b4 _ _ _ _ _ | exact b5 _ _ _ _ _ _ | exact b6 _ _ _ _ _ _ _ | exact b7 _ _ _ _ _ _ _ _ | exact b8 _ _ _ _ _ _ _ _ _⟩
  simp only [results, Tryz.results37, asAddr]
  go_simp
set_option maxHeartbeats 1600000 in
set_option maxRecDepth 8000 in
theorem bes_16 (p : Option Addr) (s t : ByteArray) (da : Option Addr) (dl dc : Nat) (at' n : Int) (ka : Option Addr) (kl kc : Nat) (pa : Option Addr) (pl pc : Nat) (w : World) (h : ND w p) :
    Calls Tryz.prog 37 #[.pointer p, .agg (opC 16 s t da dl dc at' n ka kl kc pa pl pc)] w fun e w' => ∃ v, e = .returned (.tuple #[v, .pointer p]) ∧ AnsQ w w' 0 [] v ∧ Below w.heap.size w w' := by
  go_enter Tryz.func37, Tryz.ntmps37
  go_wp2_with (first | (go_at_call 81; refine (stats_nd p _ (h.on (by first | exact Below.refl _ _ | exact b1 _ _ | exact b2 _ _ _ | exact b3 _ _ _ _ | exact b4 _ _ _ _ _ | exact b5 _ _ _ _ _ _ | exact b6 _ _ _ _ _ _ _ | exact b7 _ _ _ _ _ _ _ _ | exact b8 _ _ _ _ _ _ _ _ _))).mono ?_; rintro e9 w9 ⟨rfl, hw9⟩; subst w9) | (go_at_call 7; refine (num_any _ _).mono ?_; rintro e20 w20 ⟨rfl, hw20⟩; subst w20))
  refine bodyPost_ret (v := .tuple #[.agg #[.int .i64 0, .slice none 0 0, .slice none 0 0, .slice none 0 0, .slice none 0 0], .pointer p]) ?_ rfl ⟨_, rfl, ⟨_, rfl, .inl ⟨rfl, rfl⟩, fun g l c h => by cases h⟩, by first | exact Below.refl _ _ | exact b1 _ _ | exact b2 _ _ _ | exact b3 _ _ _ _ | exact b4 _ _ _ _ _ | exact b5 _ _ _ _ _ _ | exact b6 _ _ _ _ _ _ _ | exact b7 _ _ _ _ _ _ _ _ | exact b8 _ _ _ _ _ _ _ _ _⟩
  simp only [results, Tryz.results37, asAddr]
  go_simp
set_option maxHeartbeats 1600000 in
set_option maxRecDepth 8000 in
theorem bes_17 (p : Option Addr) (s t : ByteArray) (da : Option Addr) (dl dc : Nat) (at' n : Int) (ka : Option Addr) (kl kc : Nat) (pa : Option Addr) (pl pc : Nat) (w : World) (h : ND w p) :
    Calls Tryz.prog 37 #[.pointer p, .agg (opC 17 s t da dl dc at' n ka kl kc pa pl pc)] w fun e w' => ∃ v, e = .returned (.tuple #[v, .pointer p]) ∧ AnsQ w w' 1 [] v ∧ Below w.heap.size w w' := by
  go_enter Tryz.func37, Tryz.ntmps37
  go_wp2_with (first | (go_at_call 82; refine (clear_nd p _ (h.on (by first | exact Below.refl _ _ | exact b1 _ _ | exact b2 _ _ _ | exact b3 _ _ _ _ | exact b4 _ _ _ _ _ | exact b5 _ _ _ _ _ _ | exact b6 _ _ _ _ _ _ _ | exact b7 _ _ _ _ _ _ _ _ | exact b8 _ _ _ _ _ _ _ _ _))).mono ?_; rintro e9 w9 ⟨rfl, hw9⟩; subst w9) | (go_at_call 7; refine (num_any _ _).mono ?_; rintro e20 w20 ⟨rfl, hw20⟩; subst w20))
  refine bodyPost_ret (v := .tuple #[.agg #[.int .i64 1, .slice none 0 0, .slice none 0 0, .slice none 0 0, .slice none 0 0], .pointer p]) ?_ rfl ⟨_, rfl, ⟨_, rfl, .inl ⟨rfl, rfl⟩, fun g l c h => by cases h⟩, by first | exact Below.refl _ _ | exact b1 _ _ | exact b2 _ _ _ | exact b3 _ _ _ _ | exact b4 _ _ _ _ _ | exact b5 _ _ _ _ _ _ | exact b6 _ _ _ _ _ _ _ | exact b7 _ _ _ _ _ _ _ _ | exact b8 _ _ _ _ _ _ _ _ _⟩
  simp only [results, Tryz.results37, asAddr]
  go_simp
set_option maxHeartbeats 1600000 in
set_option maxRecDepth 8000 in
theorem bes_lo (p : Option Addr) (k : Int) (s t : ByteArray) (da : Option Addr) (dl dc : Nat) (at' n : Int) (ka : Option Addr) (kl kc : Nat) (pa : Option Addr) (pl pc : Nat) (hk : k < 1) (w : World) (h : ND w p) :
    Calls Tryz.prog 37 #[.pointer p, .agg (opC k s t da dl dc at' n ka kl kc pa pl pc)] w fun e w' => ∃ v, e = .returned (.tuple #[v, .pointer p]) ∧ AnsQ w w' 0 [] v ∧ Below w.heap.size w w' := by
  go_enter Tryz.func37, Tryz.ntmps37
  go_wp2_with (first | (go_at_call 7; refine (num_any _ _).mono ?_; rintro e20 w20 ⟨rfl, hw20⟩; subst w20))
  refine bodyPost_ret (v := .tuple #[.agg #[.int .i64 0, .slice none 0 0, .slice none 0 0, .slice none 0 0, .slice none 0 0], .pointer p]) ?_ rfl ⟨_, rfl, ⟨_, rfl, .inl ⟨rfl, rfl⟩, fun g l c h => by cases h⟩, by first | exact Below.refl _ _ | exact b1 _ _ | exact b2 _ _ _ | exact b3 _ _ _ _ | exact b4 _ _ _ _ _ | exact b5 _ _ _ _ _ _ | exact b6 _ _ _ _ _ _ _ | exact b7 _ _ _ _ _ _ _ _ | exact b8 _ _ _ _ _ _ _ _ _⟩
  simp only [results, Tryz.results37, asAddr]
  go_simp
set_option maxHeartbeats 1600000 in
set_option maxRecDepth 8000 in
theorem bes_hi (p : Option Addr) (k : Int) (s t : ByteArray) (da : Option Addr) (dl dc : Nat) (at' n : Int) (ka : Option Addr) (kl kc : Nat) (pa : Option Addr) (pl pc : Nat) (hk : 17 < k) (w : World) (h : ND w p) :
    Calls Tryz.prog 37 #[.pointer p, .agg (opC k s t da dl dc at' n ka kl kc pa pl pc)] w fun e w' => ∃ v, e = .returned (.tuple #[v, .pointer p]) ∧ AnsQ w w' 0 [] v ∧ Below w.heap.size w w' := by
  go_enter Tryz.func37, Tryz.ntmps37
  go_wp2_with (first | (go_at_call 7; refine (num_any _ _).mono ?_; rintro e20 w20 ⟨rfl, hw20⟩; subst w20))
  refine bodyPost_ret (v := .tuple #[.agg #[.int .i64 0, .slice none 0 0, .slice none 0 0, .slice none 0 0, .slice none 0 0], .pointer p]) ?_ rfl ⟨_, rfl, ⟨_, rfl, .inl ⟨rfl, rfl⟩, fun g l c h => by cases h⟩, by first | exact Below.refl _ _ | exact b1 _ _ | exact b2 _ _ _ | exact b3 _ _ _ _ | exact b4 _ _ _ _ _ | exact b5 _ _ _ _ _ _ | exact b6 _ _ _ _ _ _ _ | exact b7 _ _ _ _ _ _ _ _ | exact b8 _ _ _ _ _ _ _ _ _⟩
  simp only [results, Tryz.results37, asAddr]
  go_simp
end Nl
end Go.Proofs.YtiljdiagabepbaaGreatDoor
