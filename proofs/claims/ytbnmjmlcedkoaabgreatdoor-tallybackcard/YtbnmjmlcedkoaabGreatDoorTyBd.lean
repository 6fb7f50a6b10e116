import Derived.Test.YtbnmjmlcedkoaabGreatDoorTyBb
import Derived.Maps.AppendAt
import Derived.BigQuiet
import Derived.WalkSmall
import Derived.Handy
namespace Go.Proofs.YtbnmjmlcedkoaabGreatDoor
namespace Ty
open Go.RowKit
set_option linter.unusedVariables false
/-- The 48 bytes of a sum. -/
def by48 (A : Int) (j : Nat) : Int := byteAt (wd A (j / 8)) (j % 8)
def by48s (A : Int) : List Int := (List.range 48).map (by48 A)
theorem by48s_len (A : Int) : (by48s A).length = 48 := by simp [by48s]
theorem by48s_get (A : Int) (j : Nat) (h : j < 48) : (by48s A).getD j 0 = by48 A j := by simp [by48s, List.getD, h]
/-- What the variables hold behind k words. -/
def BMid (w wr : World) (A : Int) (k : Nat) : Prop :=
  Below w.heap.size w wr ∧ wr.rowIs w.heap.size 25 6 (fun i => .int .u64 (wd A i)) ∧ wr.rowIs (w.heap.size + 1) 83 48 (fun j => .int .u8 (if j < 8 * k then by48 A j else 0))
def bz : Array Value := Array.replicate 48 (.int .u8 0)
theorem bm_start (w : World) (A : Int) : BMid w ((w.alloc (.cells (sm A) 25)).alloc (.cells bz 83)) A 0 := by
  obtain ⟨h1, h2⟩ := heap_two w (.cells (sm A) 25) (.cells bz 83)
  refine ⟨((Below.refl _ _).alloc (Nat.le_refl _) _).alloc (by simp) _, row_sm h1, _, h2, rfl, fun i hi => ?_⟩
  simp [bz, hi]
theorem bm_step {w wr v : World} {A : Int} {k : Nat} (hm : BMid w wr A k) (hk : k < 6) (hb : Below (w.heap.size + 1) wr v) (hr : v.rowIs (w.heap.size + 1) 83 48 (fun j => .int .u8 (put (fun j => if j < 8 * k then by48 A j else 0) (8 * k) (wd A k) 8 j))) : BMid w v A (k + 1) := by
  obtain ⟨b1, r0, r1⟩ := hm
  refine ⟨b1.trans (hb.mono (by omega)), r0.of_block (hb.block _ (by omega)), hr.congr (fun j hj => ?_)⟩
  unfold put
  by_cases h : 8 * k ≤ j ∧ j < 8 * k + 8
  · rw [if_pos h, if_pos (by omega)]
    unfold by48
    rw [show j / 8 = k by omega, show j % 8 = j - 8 * k by omega]
  · rw [if_neg h]
    by_cases h2 : j < 8 * k
    · simp only [if_pos h2]; rw [if_pos (by omega)]
    · simp only [if_neg h2]; rw [if_neg (by omega)]
set_option maxHeartbeats 800000 in
theorem bytes_any (A : Int) (w : World) :
    Calls Tryz.prog 15 #[.agg (sm A)] w fun e w' => e = .returned (.string (strOfNums (by48s A))) ∧ Below w.heap.size w w' := by
  have h0 := bm_start w A
  rw [show bz = #[.int .u8 0, .int .u8 0, .int .u8 0, .int .u8 0, .int .u8 0, .int .u8 0, .int .u8 0, .int .u8 0, .int .u8 0, .int .u8 0, .int .u8 0, .int .u8 0, .int .u8 0, .int .u8 0, .int .u8 0, .int .u8 0, .int .u8 0, .int .u8 0, .int .u8 0, .int .u8 0, .int .u8 0, .int .u8 0, .int .u8 0, .int .u8 0, .int .u8 0, .int .u8 0, .int .u8 0, .int .u8 0, .int .u8 0, .int .u8 0, .int .u8 0, .int .u8 0, .int .u8 0, .int .u8 0, .int .u8 0, .int .u8 0, .int .u8 0, .int .u8 0, .int .u8 0, .int .u8 0, .int .u8 0, .int .u8 0, .int .u8 0, .int .u8 0, .int .u8 0, .int .u8 0, .int .u8 0, .int .u8 0] from rfl] at h0
  generalize hsa : sm A = ca at *
  go_enter Tryz.func15, Tryz.ntmps15
  go_wp2_with (fail)
  go_loopw [5, 4] (fun i _ wr => ∃ k : Nat, k ≤ 6 ∧ i = .int .i64 k ∧ BMid w wr A k) (fun i _ _ => 6 - (intOf i).toNat)
  case atStart => exact ⟨0, by omega, rfl, h0⟩
  case round =>
    clear h0 hsa
    obtain ⟨k, hk, rfl, hm⟩ := hrel
    by_cases hlt : k < 6
    · have c0 := hm.2.1.cell hlt
      have HM : Hid (BMid w wr A k) := hm
      have hr : wr.drew.rowIs (w.heap.size + 1) 83 48 (fun j => .int .u8 (if j < 8 * k then by48 A j else 0)) := hm.2.2.of_block rfl
      have HP : Hid (∀ z, z = ((8 * k : Nat) : Int) → Calls Tryz.prog 41 #[.slice (some ⟨w.heap.size + 1, 0, none⟩) 48 48, .int .i64 z, .int .i64 8, .int .u64 (wd A k)] wr.drew fun e w' => e = .returned (.int .i64 0) ∧ w'.rowIs (w.heap.size + 1) 83 48 (fun j => .int .u8 (put (fun j => if j < 8 * k then by48 A j else 0) (8 * k) (wd A k) 8 j)) ∧ Below (w.heap.size + 1) wr.drew w') := fun z hz => put8 _ _ _ (8 * k) z (wd A k) hz _ hr (by omega) (wd_b A k).1 (wd_b A k).2
      clear hm hr
      have q1 : IntKind.i64.wrap (8 * (k : Int)) = 8 * (k : Int) := by rw [IntKind.wrap_i64]; omega
      have HX : Hid (∀ v, Below (w.heap.size + 1) wr v → v.rowIs (w.heap.size + 1) 83 48 (fun j => .int .u8 (put (fun j => if j < 8 * k then by48 A j else 0) (8 * k) (wd A k) 8 j)) → BMid w v A (k + 1)) := fun v h1 h2 => bm_step HM.out hlt h1 h2
      generalize wd A k = x at *
      go_wp2
      go_region_with (go_at_call 41; refine (HP.out _ (by omega)).mono ?_; rintro e9 w9 ⟨rfl, hr9, hb9⟩)
      go_wp2
      exact ⟨⟨k + 1, by omega, by go_num, HX.out _ (((Below.refl _ _).drew).trans hb9) hr9⟩, by simp [intOf]; omega⟩
    · obtain rfl : k = 6 := by omega
      obtain ⟨b1, r0, r1⟩ := hm
      have hcv := run_convert_bytes_arg (P := Tryz.prog) wr 72 5 Tryz.underlying72 Tryz.underlying5 (w.heap.size + 1) 0 48 48 (by48s A) (by48s_len A) (fun i hi => by rw [Nat.zero_add, r1.cell hi, if_pos (by omega), by48s_get A i hi]) 9 Tryz.underlying9
      clear r0 r1
      go_wp2
      go_ret
      exact ⟨rfl, b1⟩
end Ty
end Go.Proofs.YtbnmjmlcedkoaabGreatDoor
