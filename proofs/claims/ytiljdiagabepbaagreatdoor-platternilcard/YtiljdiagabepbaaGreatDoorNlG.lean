import Derived.Test.YtiljdiagabepbaaGreatDoorNlF
namespace Go.Proofs.YtiljdiagabepbaaGreatDoor
namespace Nl
open Go.RowKit
set_option linter.unusedVariables false
set_option maxHeartbeats 1600000 in
set_option maxRecDepth 8000 in
theorem doc_1 (s t : ByteArray) (da : Option Addr) (dl dc : Nat) (at' n : Int) (ka : Option Addr) (kl kc : Nat) (pa : Option Addr) (pl pc : Nat) (w : World) :
    Calls Tryz.prog 11 #[.pointer none, .agg (opC 1 s t da dl dc at' n ka kl kc pa pl pc)] w fun e w' => ∃ v, e = .returned (.tuple #[v, .pointer none]) ∧ AnsQ w w' 1 [] v ∧ Below w.heap.size w w' := by
  go_enter Tryz.func11, Tryz.ntmps11
  go_wp2_with (first | (go_at_call 38; refine (rcreate _ _).mono ?_; rintro e9 w9 ⟨rfl, hw9⟩; subst w9))
  refine bodyPost_ret (v := .tuple #[.agg #[.int .i64 1, .slice none 0 0, .slice none 0 0, .slice none 0 0, .slice none 0 0], .pointer none]) ?_ rfl ⟨_, rfl, ⟨_, rfl, .inl ⟨rfl, rfl⟩, fun g l c h => by cases h⟩, by first | exact Below.refl _ _ | exact b1 _ _ | exact b2 _ _ _ | exact b3 _ _ _ _ | exact b4 _ _ _ _ _ | exact b5 _ _ _ _ _ _ | exact b6 _ _ _ _ _ _ _ | exact b7 _ _ _ _ _ _ _ _ | exact b8 _ _ _ _ _ _ _ _ _⟩
  simp only [results, Tryz.results11, asAddr]
  go_simp
set_option maxHeartbeats 1600000 in
set_option maxRecDepth 8000 in
theorem doc_5 (s t : ByteArray) (da : Option Addr) (dl dc : Nat) (at' n : Int) (ka : Option Addr) (kl kc : Nat) (pa : Option Addr) (pl pc : Nat) (w : World) :
    Calls Tryz.prog 11 #[.pointer none, .agg (opC 5 s t da dl dc at' n ka kl kc pa pl pc)] w fun e w' => ∃ v, e = .returned (.tuple #[v, .pointer none]) ∧ AnsQ w w' 1 [] v ∧ Below w.heap.size w w' := by
  go_enter Tryz.func11, Tryz.ntmps11
  go_wp2_with (first | (go_at_call 43; refine (rsync _ _).mono ?_; rintro e9 w9 ⟨rfl, hw9⟩; subst w9))
  refine bodyPost_ret (v := .tuple #[.agg #[.int .i64 1, .slice none 0 0, .slice none 0 0, .slice none 0 0, .slice none 0 0], .pointer none]) ?_ rfl ⟨_, rfl, ⟨_, rfl, .inl ⟨rfl, rfl⟩, fun g l c h => by cases h⟩, by first | exact Below.refl _ _ | exact b1 _ _ | exact b2 _ _ _ | exact b3 _ _ _ _ | exact b4 _ _ _ _ _ | exact b5 _ _ _ _ _ _ | exact b6 _ _ _ _ _ _ _ | exact b7 _ _ _ _ _ _ _ _ | exact b8 _ _ _ _ _ _ _ _ _⟩
  simp only [results, Tryz.results11, asAddr]
  go_simp
set_option maxHeartbeats 1600000 in
set_option maxRecDepth 8000 in
theorem doc_6 (s t : ByteArray) (da : Option Addr) (dl dc : Nat) (at' n : Int) (ka : Option Addr) (kl kc : Nat) (pa : Option Addr) (pl pc : Nat) (w : World) :
    Calls Tryz.prog 11 #[.pointer none, .agg (opC 6 s t da dl dc at' n ka kl kc pa pl pc)] w fun e w' => ∃ v, e = .returned (.tuple #[v, .pointer none]) ∧ AnsQ w w' 1 [] v ∧ Below w.heap.size w w' := by
  go_enter Tryz.func11, Tryz.ntmps11
  go_wp2_with (first | (go_at_call 44; refine (rsyncdir _).mono ?_; rintro e9 w9 ⟨rfl, hw9⟩; subst w9))
  refine bodyPost_ret (v := .tuple #[.agg #[.int .i64 1, .slice none 0 0, .slice none 0 0, .slice none 0 0, .slice none 0 0], .pointer none]) ?_ rfl ⟨_, rfl, ⟨_, rfl, .inl ⟨rfl, rfl⟩, fun g l c h => by cases h⟩, by first | exact Below.refl _ _ | exact b1 _ _ | exact b2 _ _ _ | exact b3 _ _ _ _ | exact b4 _ _ _ _ _ | exact b5 _ _ _ _ _ _ | exact b6 _ _ _ _ _ _ _ | exact b7 _ _ _ _ _ _ _ _ | exact b8 _ _ _ _ _ _ _ _ _⟩
  simp only [results, Tryz.results11, asAddr]
  go_simp
set_option maxHeartbeats 1600000 in
set_option maxRecDepth 8000 in
theorem doc_7 (s t : ByteArray) (da : Option Addr) (dl dc : Nat) (at' n : Int) (ka : Option Addr) (kl kc : Nat) (pa : Option Addr) (pl pc : Nat) (w : World) :
    Calls Tryz.prog 11 #[.pointer none, .agg (opC 7 s t da dl dc at' n ka kl kc pa pl pc)] w fun e w' => ∃ v, e = .returned (.tuple #[v, .pointer none]) ∧ AnsQ w w' 1 [] v ∧ Below w.heap.size w w' := by
  go_enter Tryz.func11, Tryz.ntmps11
  go_wp2_with (first | (go_at_call 45; refine (rrename _ _ _).mono ?_; rintro e9 w9 ⟨rfl, hw9⟩; subst w9))
  refine bodyPost_ret (v := .tuple #[.agg #[.int .i64 1, .slice none 0 0, .slice none 0 0, .slice none 0 0, .slice none 0 0], .pointer none]) ?_ rfl ⟨_, rfl, ⟨_, rfl, .inl ⟨rfl, rfl⟩, fun g l c h => by cases h⟩, by first | exact Below.refl _ _ | exact b1 _ _ | exact b2 _ _ _ | exact b3 _ _ _ _ | exact b4 _ _ _ _ _ | exact b5 _ _ _ _ _ _ | exact b6 _ _ _ _ _ _ _ | exact b7 _ _ _ _ _ _ _ _ | exact b8 _ _ _ _ _ _ _ _ _⟩
  simp only [results, Tryz.results11, asAddr]
  go_simp
set_option maxHeartbeats 1600000 in
set_option maxRecDepth 8000 in
theorem doc_8 (s t : ByteArray) (da : Option Addr) (dl dc : Nat) (at' n : Int) (ka : Option Addr) (kl kc : Nat) (pa : Option Addr) (pl pc : Nat) (w : World) :
    Calls Tryz.prog 11 #[.pointer none, .agg (opC 8 s t da dl dc at' n ka kl kc pa pl pc)] w fun e w' => ∃ v, e = .returned (.tuple #[v, .pointer none]) ∧ AnsQ w w' 1 [] v ∧ Below w.heap.size w w' := by
  go_enter Tryz.func11, Tryz.ntmps11
  go_wp2_with (first | (go_at_call 46; refine (rremove _ _).mono ?_; rintro e9 w9 ⟨rfl, hw9⟩; subst w9))
  refine bodyPost_ret (v := .tuple #[.agg #[.int .i64 1, .slice none 0 0, .slice none 0 0, .slice none 0 0, .slice none 0 0], .pointer none]) ?_ rfl ⟨_, rfl, ⟨_, rfl, .inl ⟨rfl, rfl⟩, fun g l c h => by cases h⟩, by first | exact Below.refl _ _ | exact b1 _ _ | exact b2 _ _ _ | exact b3 _ _ _ _ | exact b4 _ _ _ _ _ | exact b5 _ _ _ _ _ _ | exact b6 _ _ _ _ _ _ _ | exact b7 _ _ _ _ _ _ _ _ | exact b8 _ _ _ _ _ _ _ _ _⟩
  simp only [results, Tryz.results11, asAddr]
  go_simp
set_option maxHeartbeats 1600000 in
set_option maxRecDepth 8000 in
theorem doc_9 (s t : ByteArray) (da : Option Addr) (dl dc : Nat) (at' n : Int) (ka : Option Addr) (kl kc : Nat) (pa : Option Addr) (pl pc : Nat) (w : World) :
    Calls Tryz.prog 11 #[.pointer none, .agg (opC 9 s t da dl dc at' n ka kl kc pa pl pc)] w fun e w' => ∃ v, e = .returned (.tuple #[v, .pointer none]) ∧ AnsQ w w' 1 [] v ∧ Below w.heap.size w w' := by
  go_enter Tryz.func11, Tryz.ntmps11
  go_wp2_with (first | (go_at_call 47; refine (rlist _).mono ?_; rintro e9 w9 ⟨rfl, hw9⟩; subst w9))
  refine bodyPost_ret (v := .tuple #[.agg #[.int .i64 1, .slice none 0 0, .slice none 0 0, .slice none 0 0, .slice none 0 0], .pointer none]) ?_ rfl ⟨_, rfl, ⟨_, rfl, .inl ⟨rfl, rfl⟩, fun g l c h => by cases h⟩, by first | exact Below.refl _ _ | exact b1 _ _ | exact b2 _ _ _ | exact b3 _ _ _ _ | exact b4 _ _ _ _ _ | exact b5 _ _ _ _ _ _ | exact b6 _ _ _ _ _ _ _ | exact b7 _ _ _ _ _ _ _ _ | exact b8 _ _ _ _ _ _ _ _ _⟩
  simp only [results, Tryz.results11, asAddr]
  go_simp
set_option maxHeartbeats 1600000 in
set_option maxRecDepth 8000 in
theorem doc_10 (s t : ByteArray) (da : Option Addr) (dl dc : Nat) (at' n : Int) (ka : Option Addr) (kl kc : Nat) (pa : Option Addr) (pl pc : Nat) (w : World) :
    Calls Tryz.prog 11 #[.pointer none, .agg (opC 10 s t da dl dc at' n ka kl kc pa pl pc)] w fun e w' => ∃ v, e = .returned (.tuple #[v, .pointer none]) ∧ AnsQ w w' 1 [] v ∧ Below w.heap.size w w' := by
  go_enter Tryz.func11, Tryz.ntmps11
  go_wp2_with (first | (go_at_call 48; refine (rplan _ _ _ _).mono ?_; rintro e9 w9 ⟨rfl, hw9⟩; subst w9))
  refine bodyPost_ret (v := .tuple #[.agg #[.int .i64 1, .slice none 0 0, .slice none 0 0, .slice none 0 0, .slice none 0 0], .pointer none]) ?_ rfl ⟨_, rfl, ⟨_, rfl, .inl ⟨rfl, rfl⟩, fun g l c h => by cases h⟩, by first | exact Below.refl _ _ | exact b1 _ _ | exact b2 _ _ _ | exact b3 _ _ _ _ | exact b4 _ _ _ _ _ | exact b5 _ _ _ _ _ _ | exact b6 _ _ _ _ _ _ _ | exact b7 _ _ _ _ _ _ _ _ | exact b8 _ _ _ _ _ _ _ _ _⟩
  simp only [results, Tryz.results11, asAddr]
  go_simp
set_option maxHeartbeats 1600000 in
set_option maxRecDepth 8000 in
theorem doc_11 (s t : ByteArray) (da : Option Addr) (dl dc : Nat) (at' n : Int) (ka : Option Addr) (kl kc : Nat) (pa : Option Addr) (pl pc : Nat) (w : World) :
    Calls Tryz.prog 11 #[.pointer none, .agg (opC 11 s t da dl dc at' n ka kl kc pa pl pc)] w fun e w' => ∃ v, e = .returned (.tuple #[v, .pointer none]) ∧ AnsQ w w' 1 [] v ∧ Below w.heap.size w w' := by
  go_enter Tryz.func11, Tryz.ntmps11
  go_wp2_with (first | (go_at_call 49; refine (rrestart _ _ _ _ _).mono ?_; rintro e9 w9 ⟨rfl, hw9⟩; subst w9))
  refine bodyPost_ret (v := .tuple #[.agg #[.int .i64 1, .slice none 0 0, .slice none 0 0, .slice none 0 0, .slice none 0 0], .pointer none]) ?_ rfl ⟨_, rfl, ⟨_, rfl, .inl ⟨rfl, rfl⟩, fun g l c h => by cases h⟩, by first | exact Below.refl _ _ | exact b1 _ _ | exact b2 _ _ _ | exact b3 _ _ _ _ | exact b4 _ _ _ _ _ | exact b5 _ _ _ _ _ _ | exact b6 _ _ _ _ _ _ _ | exact b7 _ _ _ _ _ _ _ _ | exact b8 _ _ _ _ _ _ _ _ _⟩
  simp only [results, Tryz.results11, asAddr]
  go_simp
set_option maxHeartbeats 1600000 in
set_option maxRecDepth 8000 in
theorem doc_12 (s t : ByteArray) (da : Option Addr) (dl dc : Nat) (at' n : Int) (ka : Option Addr) (kl kc : Nat) (pa : Option Addr) (pl pc : Nat) (w : World) :
    Calls Tryz.prog 11 #[.pointer none, .agg (opC 12 s t da dl dc at' n ka kl kc pa pl pc)] w fun e w' => ∃ v, e = .returned (.tuple #[v, .pointer none]) ∧ AnsQ w w' 1 [] v ∧ Below w.heap.size w w' := by
  go_enter Tryz.func11, Tryz.ntmps11
  go_wp2_with (first | (go_at_call 50; refine (rmend _).mono ?_; rintro e9 w9 ⟨rfl, hw9⟩; subst w9))
  refine bodyPost_ret (v := .tuple #[.agg #[.int .i64 1, .slice none 0 0, .slice none 0 0, .slice none 0 0, .slice none 0 0], .pointer none]) ?_ rfl ⟨_, rfl, ⟨_, rfl, .inl ⟨rfl, rfl⟩, fun g l c h => by cases h⟩, by first | exact Below.refl _ _ | exact b1 _ _ | exact b2 _ _ _ | exact b3 _ _ _ _ | exact b4 _ _ _ _ _ | exact b5 _ _ _ _ _ _ | exact b6 _ _ _ _ _ _ _ | exact b7 _ _ _ _ _ _ _ _ | exact b8 _ _ _ _ _ _ _ _ _⟩
  simp only [results, Tryz.results11, asAddr]
  go_simp
set_option maxHeartbeats 1600000 in
set_option maxRecDepth 8000 in
theorem doc_13 (s t : ByteArray) (da : Option Addr) (dl dc : Nat) (at' n : Int) (ka : Option Addr) (kl kc : Nat) (pa : Option Addr) (pl pc : Nat) (w : World) :
    Calls Tryz.prog 11 #[.pointer none, .agg (opC 13 s t da dl dc at' n ka kl kc pa pl pc)] w fun e w' => ∃ v, e = .returned (.tuple #[v, .pointer none]) ∧ AnsQ w w' 1 [] v ∧ Below w.heap.size w w' := by
  go_enter Tryz.func11, Tryz.ntmps11
  go_wp2_with (first | (go_at_call 51; refine (rflip _ _ _).mono ?_; rintro e9 w9 ⟨rfl, hw9⟩; subst w9))
  refine bodyPost_ret (v := .tuple #[.agg #[.int .i64 1, .slice none 0 0, .slice none 0 0, .slice none 0 0, .slice none 0 0], .pointer none]) ?_ rfl ⟨_, rfl, ⟨_, rfl, .inl ⟨rfl, rfl⟩, fun g l c h => by cases h⟩, by first | exact Below.refl _ _ | exact b1 _ _ | exact b2 _ _ _ | exact b3 _ _ _ _ | exact b4 _ _ _ _ _ | exact b5 _ _ _ _ _ _ | exact b6 _ _ _ _ _ _ _ | exact b7 _ _ _ _ _ _ _ _ | exact b8 _ _ _ _ _ _ _ _ _⟩
  simp only [results, Tryz.results11, asAddr]
  go_simp
set_option maxHeartbeats 1600000 in
set_option maxRecDepth 8000 in
theorem doc_17 (s t : ByteArray) (da : Option Addr) (dl dc : Nat) (at' n : Int) (ka : Option Addr) (kl kc : Nat) (pa : Option Addr) (pl pc : Nat) (w : World) :
    Calls Tryz.prog 11 #[.pointer none, .agg (opC 17 s t da dl dc at' n ka kl kc pa pl pc)] w fun e w' => ∃ v, e = .returned (.tuple #[v, .pointer none]) ∧ AnsQ w w' 1 [] v ∧ Below w.heap.size w w' := by
  go_enter Tryz.func11, Tryz.ntmps11
  go_wp2_with (first | (go_at_call 57; refine (rclear _).mono ?_; rintro e9 w9 ⟨rfl, hw9⟩; subst w9))
  refine bodyPost_ret (v := .tuple #[.agg #[.int .i64 1, .slice none 0 0, .slice none 0 0, .slice none 0 0, .slice none 0 0], .pointer none]) ?_ rfl ⟨_, rfl, ⟨_, rfl, .inl ⟨rfl, rfl⟩, fun g l c h => by cases h⟩, by first | exact Below.refl _ _ | exact b1 _ _ | exact b2 _ _ _ | exact b3 _ _ _ _ | exact b4 _ _ _ _ _ | exact b5 _ _ _ _ _ _ | exact b6 _ _ _ _ _ _ _ | exact b7 _ _ _ _ _ _ _ _ | exact b8 _ _ _ _ _ _ _ _ _⟩
  simp only [results, Tryz.results11, asAddr]
  go_simp
set_option maxHeartbeats 1600000 in
set_option maxRecDepth 8000 in
theorem doc_4 (s t : ByteArray) (da : Option Addr) (dl dc : Nat) (at' n : Int) (ka : Option Addr) (kl kc : Nat) (pa : Option Addr) (pl pc : Nat) (w : World) :
    Calls Tryz.prog 11 #[.pointer none, .agg (opC 4 s t da dl dc at' n ka kl kc pa pl pc)] w fun e w' => ∃ v, e = .returned (.tuple #[v, .pointer none]) ∧ AnsQ w w' 1 [0] v ∧ Below w.heap.size w w' := by
  go_enter Tryz.func11, Tryz.ntmps11
  go_wp2_with (first | (go_at_call 42; refine (rsize _ _).mono ?_; rintro e9 w9 ⟨rfl, hw9⟩; subst w9))
  refine bodyPost_ret (v := .tuple #[.agg #[.int .i64 1, .slice (some ⟨w.heap.size + 1 + 1, 0, none⟩) 1 1, .slice none 0 0, .slice none 0 0, .slice none 0 0], .pointer none]) ?_ rfl ⟨_, rfl, ⟨_, rfl, .inr ⟨by decide, _, _, rfl, fun i hi => by
    match i, hi with
    | 0, _ => exact cell_new _ _ _ _ _ _ (by simp) rfl
    ⟩, fun g l c h => by simp at h; omega⟩, by first | exact Below.refl _ _ | exact b1 _ _ | exact b2 _ _ _ | exact b3 _ _ _ _ | exact b4 _ _ _ _ _ | exact b5 _ _ _ _ _ _ | exact b6 _ _ _ _ _ _ _ | exact b7 _ _ _ _ _ _ _ _ | exact b8 _ _ _ _ _ _ _ _ _⟩
  simp only [results, Tryz.results11, asAddr]
  go_simp
set_option maxHeartbeats 1600000 in
set_option maxRecDepth 8000 in
theorem doc_14 (s t : ByteArray) (da : Option Addr) (dl dc : Nat) (at' n : Int) (ka : Option Addr) (kl kc : Nat) (pa : Option Addr) (pl pc : Nat) (w : World) :
    Calls Tryz.prog 11 #[.pointer none, .agg (opC 14 s t da dl dc at' n ka kl kc pa pl pc)] w fun e w' => ∃ v, e = .returned (.tuple #[v, .pointer none]) ∧ AnsQ w w' 0 [1] v ∧ Below w.heap.size w w' := by
  go_enter Tryz.func11, Tryz.ntmps11
  go_wp2_with (first | (go_at_call 52; refine (rcopy _).mono ?_; rintro e9 w9 ⟨rfl, hw9⟩; subst w9) | (go_at_call 29; refine (bit_any _ _).mono ?_; rintro e10 w10 ⟨rfl, hw10⟩; subst w10))
  refine bodyPost_ret (v := .tuple #[.agg #[.int .i64 0, .slice (some ⟨w.heap.size + 1 + 1, 0, none⟩) 1 1, .slice none 0 0, .slice none 0 0, .slice none 0 0], .pointer none]) ?_ rfl ⟨_, rfl, ⟨_, rfl, .inr ⟨by decide, _, _, rfl, fun i hi => by
    match i, hi with
    | 0, _ => exact cell_new _ _ _ _ _ _ (by simp) rfl
    ⟩, fun g l c h => by simp at h; omega⟩, by first | exact Below.refl _ _ | exact b1 _ _ | exact b2 _ _ _ | exact b3 _ _ _ _ | exact b4 _ _ _ _ _ | exact b5 _ _ _ _ _ _ | exact b6 _ _ _ _ _ _ _ | exact b7 _ _ _ _ _ _ _ _ | exact b8 _ _ _ _ _ _ _ _ _⟩
  simp only [results, Tryz.results11, asAddr]
  go_simp
set_option maxHeartbeats 1600000 in
set_option maxRecDepth 8000 in
theorem doc_15 (s t : ByteArray) (da : Option Addr) (dl dc : Nat) (at' n : Int) (ka : Option Addr) (kl kc : Nat) (pa : Option Addr) (pl pc : Nat) (w : World) :
    Calls Tryz.prog 11 #[.pointer none, .agg (opC 15 s t da dl dc at' n ka kl kc pa pl pc)] w fun e w' => ∃ v, e = .returned (.tuple #[v, .pointer none]) ∧ AnsQ w w' 0 [0, 0, 0, 0] v ∧ Below w.heap.size w w' := by
  go_enter Tryz.func11, Tryz.ntmps11
  go_wp2_with (first | (go_at_call 53; refine (rused _).mono ?_; rintro e9 w9 ⟨rfl, hw9⟩; subst w9) | (go_at_call 54; refine (rops _).mono ?_; rintro e10 w10 ⟨rfl, hw10⟩; subst w10) | (go_at_call 55; refine (rlit _).mono ?_; rintro e11 w11 ⟨rfl, hw11⟩; subst w11) | (go_at_call 29; refine (bit_any _ _).mono ?_; rintro e12 w12 ⟨rfl, hw12⟩; subst w12))
  refine bodyPost_ret (v := .tuple #[.agg #[.int .i64 0, .slice (some ⟨w.heap.size + 1 + 1, 0, none⟩) 4 4, .slice none 0 0, .slice none 0 0, .slice none 0 0], .pointer none]) ?_ rfl ⟨_, rfl, ⟨_, rfl, .inr ⟨by decide, _, _, rfl, fun i hi => by
    match i, hi with
    | 0, _ => exact cell_new _ _ _ _ _ _ (by simp) rfl
    | 1, _ => exact cell_new _ _ _ _ _ _ (by simp) rfl
    | 2, _ => exact cell_new _ _ _ _ _ _ (by simp) rfl
    | 3, _ => exact cell_new _ _ _ _ _ _ (by simp) rfl
    ⟩, fun g l c h => by simp at h; omega⟩, by first | exact Below.refl _ _ | exact b1 _ _ | exact b2 _ _ _ | exact b3 _ _ _ _ | exact b4 _ _ _ _ _ | exact b5 _ _ _ _ _ _ | exact b6 _ _ _ _ _ _ _ | exact b7 _ _ _ _ _ _ _ _ | exact b8 _ _ _ _ _ _ _ _ _⟩
  simp only [results, Tryz.results11, asAddr]
  go_simp
set_option maxHeartbeats 1600000 in
set_option maxRecDepth 8000 in
theorem doc_16 (s t : ByteArray) (da : Option Addr) (dl dc : Nat) (at' n : Int) (ka : Option Addr) (kl kc : Nat) (pa : Option Addr) (pl pc : Nat) (w : World) :
    Calls Tryz.prog 11 #[.pointer none, .agg (opC 16 s t da dl dc at' n ka kl kc pa pl pc)] w fun e w' => ∃ v, e = .returned (.tuple #[v, .pointer none]) ∧ AnsQ w w' 0 [] v ∧ Below w.heap.size w w' := by
  go_enter Tryz.func11, Tryz.ntmps11
  go_wp2_with (first | (go_at_call 56; refine (rstats _).mono ?_; rintro e9 w9 ⟨rfl, hw9⟩; subst w9))
  refine bodyPost_ret (v := .tuple #[.agg #[.int .i64 0, .slice none 0 0, .slice none 0 0, .slice none 0 0, .slice none 0 0], .pointer none]) ?_ rfl ⟨_, rfl, ⟨_, rfl, .inl ⟨rfl, rfl⟩, fun g l c h => by cases h⟩, by first | exact Below.refl _ _ | exact b1 _ _ | exact b2 _ _ _ | exact b3 _ _ _ _ | exact b4 _ _ _ _ _ | exact b5 _ _ _ _ _ _ | exact b6 _ _ _ _ _ _ _ | exact b7 _ _ _ _ _ _ _ _ | exact b8 _ _ _ _ _ _ _ _ _⟩
  simp only [results, Tryz.results11, asAddr]
  go_simp
set_option maxHeartbeats 1600000 in
set_option maxRecDepth 8000 in
theorem doc_lo (k : Int) (s t : ByteArray) (da : Option Addr) (dl dc : Nat) (at' n : Int) (ka : Option Addr) (kl kc : Nat) (pa : Option Addr) (pl pc : Nat) (hk : k < 1) (w : World) :
    Calls Tryz.prog 11 #[.pointer none, .agg (opC k s t da dl dc at' n ka kl kc pa pl pc)] w fun e w' => ∃ v, e = .returned (.tuple #[v, .pointer none]) ∧ AnsQ w w' 0 [] v ∧ Below w.heap.size w w' := by
  go_enter Tryz.func11, Tryz.ntmps11
  go_wp2_with (fail)
  refine bodyPost_ret (v := .tuple #[.agg #[.int .i64 0, .slice none 0 0, .slice none 0 0, .slice none 0 0, .slice none 0 0], .pointer none]) ?_ rfl ⟨_, rfl, ⟨_, rfl, .inl ⟨rfl, rfl⟩, fun g l c h => by cases h⟩, by first | exact Below.refl _ _ | exact b1 _ _ | exact b2 _ _ _ | exact b3 _ _ _ _ | exact b4 _ _ _ _ _ | exact b5 _ _ _ _ _ _ | exact b6 _ _ _ _ _ _ _ | exact b7 _ _ _ _ _ _ _ _ | exact b8 _ _ _ _ _ _ _ _ _⟩
  simp only [results, Tryz.results11, asAddr]
  go_simp
set_option maxHeartbeats 1600000 in
set_option maxRecDepth 8000 in
theorem doc_hi (k : Int) (s t : ByteArray) (da : Option Addr) (dl dc : Nat) (at' n : Int) (ka : Option Addr) (kl kc : Nat) (pa : Option Addr) (pl pc : Nat) (hk : 17 < k) (w : World) :
    Calls Tryz.prog 11 #[.pointer none, .agg (opC k s t da dl dc at' n ka kl kc pa pl pc)] w fun e w' => ∃ v, e = .returned (.tuple #[v, .pointer none]) ∧ AnsQ w w' 0 [] v ∧ Below w.heap.size w w' := by
  go_enter Tryz.func11, Tryz.ntmps11
  go_wp2_with (fail)
  refine bodyPost_ret (v := .tuple #[.agg #[.int .i64 0, .slice none 0 0, .slice none 0 0, .slice none 0 0, .slice none 0 0], .pointer none]) ?_ rfl ⟨_, rfl, ⟨_, rfl, .inl ⟨rfl, rfl⟩, fun g l c h => by cases h⟩, by first | exact Below.refl _ _ | exact b1 _ _ | exact b2 _ _ _ | exact b3 _ _ _ _ | exact b4 _ _ _ _ _ | exact b5 _ _ _ _ _ _ | exact b6 _ _ _ _ _ _ _ | exact b7 _ _ _ _ _ _ _ _ | exact b8 _ _ _ _ _ _ _ _ _⟩
  simp only [results, Tryz.results11, asAddr]
  go_simp
end Nl
end Go.Proofs.YtiljdiagabepbaaGreatDoor
