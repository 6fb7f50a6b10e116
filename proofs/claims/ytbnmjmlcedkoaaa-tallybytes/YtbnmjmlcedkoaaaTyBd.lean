import Derived.Test.YtbnmjmlcedkoaaaTyBc
import Derived.Maps.AppendAt
import Derived.BigQuiet
import Derived.WalkSmall
import Derived.Handy
namespace Go.Proofs.Ytbnmjmlcedkoaaa
namespace Ty
open Go.RowKit
set_option linter.unusedVariables false
/-- The 48 bytes of a sum. -/
def by48 (A : Int) (j : Nat) : Int := byteAt (wd A (j / 8)) (j % 8)
def by48s (A : Int) : List Int := (List.range 48).map (by48 A)
theorem by48s_len (A : Int) : (by48s A).length = 48 := by simp [by48s]
theorem by48s_get (A : Int) (j : Nat) (h : j < 48) : (by48s A).getD j 0 = by48 A j := by simp [by48s, List.getD, h]
/-- What the variables hold behind k words. -/
def SMid (w wr : World) (A : Int) (k : Nat) : Prop :=
  Below w.heap.size w wr ∧ wr.rowIs w.heap.size 25 6 (fun i => .int .u64 (wd A i)) ∧ wr.rowIs (w.heap.size + 1) 63 48 (fun j => .int .u8 (if j < 8 * k then by48 A j else 0))
def bz : Array Value := Array.replicate 48 (.int .u8 0)
theorem sm_start (w : World) (A : Int) : SMid w ((w.alloc (.cells (sm A) 25)).alloc (.cells bz 63)) A 0 := by
  obtain ⟨h1, h2⟩ := heap_two w (.cells (sm A) 25) (.cells bz 63)
  refine ⟨((Below.refl _ _).alloc (Nat.le_refl _) _).alloc (by simp) _, row_sm h1, _, h2, rfl, fun i hi => ?_⟩
  simp [bz, hi]
theorem sm_step {w wr v : World} {A : Int} {k : Nat} (hm : SMid w wr A k) (hk : k < 6) (hb : Below (w.heap.size + 1) wr v) (hr : v.rowIs (w.heap.size + 1) 63 48 (fun j => .int .u8 (put (fun j => if j < 8 * k then by48 A j else 0) (8 * k) (wd A k) 8 j))) : SMid w v A (k + 1) := by
  obtain ⟨b1, r0, r1⟩ := hm
  refine ⟨b1.trans (hb.mono (by omega)), r0.of_block (hb.block _ (by omega)), hr.congr (fun j hj => ?_)⟩
  unfold put
  by_cases h : 8 * k ≤ j ∧ j < 8 * k + 8
  · rw [if_pos h, if_pos (by omega)]
    unfold by48
    rw [show j / 8 = k by omega, show j % 8 = j - 8 * k by omega]
  · rw [if_neg h]
    by_cases h2 : j < 8 * k
    · simp only [if_pos h2]; rw [if_pos (by omega)]
    · simp only [if_neg h2]; rw [if_neg (by omega)]
set_option maxHeartbeats 800000 in
theorem bytes_any (A : Int) (w : World) :
    Calls Try.prog 8 #[.agg (sm A)] w fun e w' => e = .returned (.string (strOfNums (by48s A))) ∧ Below w.heap.size w w' := by
  have h0 := sm_start w A
  rw [show bz = #[.int .u8 0, .int .u8 0, .int .u8 0, .int .u8 0, .int .u8 0, .int .u8 0, .int .u8 0, .int .u8 0, .int .u8 0, .int .u8 0, .int .u8 0, .int .u8 0, .int .u8 0, .int .u8 0, .int .u8 0, .int .u8 0, .int .u8 0, .int .u8 0, .int .u8 0, .int .u8 0, .int .u8 0, .int .u8 0, .int .u8 0, .int .u8 0, .int .u8 0, .int .u8 0, .int .u8 0, .int .u8 0, .int .u8 0, .int .u8 0, .int .u8 0, .int .u8 0, .int .u8 0, .int .u8 0, .int .u8 0, .int .u8 0, .int .u8 0, .int .u8 0, .int .u8 0, .int .u8 0, .int .u8 0, .int .u8 0, .int .u8 0, .int .u8 0, .int .u8 0, .int .u8 0, .int .u8 0, .int .u8 0] from rfl] at h0
  generalize hsa : sm A = ca at *
  go_enter Try.func8, Try.ntmps8
  go_wp2_with (fail)
  go_loopw [5, 4] (fun i _ wr => ∃ k : Nat, k ≤ 6 ∧ i = .int .i64 k ∧ SMid w wr A k) (fun i _ _ => 6 - (intOf i).toNat)
  case atStart => exact ⟨0, by omega, rfl, h0⟩
  case round =>
    clear h0 hsa
    obtain ⟨k, hk, rfl, hm⟩ := hrel
    by_cases hlt : k < 6
    · have c0 := hm.2.1.cell hlt
      have HM : Hid (SMid w wr A k) := hm
      have hr : wr.drew.rowIs (w.heap.size + 1) 63 48 (fun j => .int .u8 (if j < 8 * k then by48 A j else 0)) := hm.2.2.of_block rfl
      have HP : Hid (∀ z, z = ((8 * k : Nat) : Int) → Calls Try.prog 29 #[.slice (some ⟨w.heap.size + 1, 0, none⟩) 48 48, .int .i64 z, .int .i64 8, .int .u64 (wd A k)] wr.drew fun e w' => e = .returned (.int .i64 0) ∧ w'.rowIs (w.heap.size + 1) 63 48 (fun j => .int .u8 (put (fun j => if j < 8 * k then by48 A j else 0) (8 * k) (wd A k) 8 j)) ∧ Below (w.heap.size + 1) wr.drew w') := fun z hz => put8 _ _ _ (8 * k) z (wd A k) hz _ hr (by omega) (wd_b A k).1 (wd_b A k).2
      clear hm hr
      have q1 : IntKind.i64.wrap (8 * (k : Int)) = 8 * (k : Int) := by rw [IntKind.wrap_i64]; omega
      have HX : Hid (∀ v, Below (w.heap.size + 1) wr v → v.rowIs (w.heap.size + 1) 63 48 (fun j => .int .u8 (put (fun j => if j < 8 * k then by48 A j else 0) (8 * k) (wd A k) 8 j)) → SMid w v A (k + 1)) := fun v h1 h2 => sm_step HM.out hlt h1 h2
      generalize wd A k = x at *
      go_wp2
      go_region_with (go_at_call 29; refine (HP.out _ (by omega)).mono ?_; rintro e9 w9 ⟨rfl, hr9, hb9⟩)
      go_wp2
      exact ⟨⟨k + 1, by omega, by go_num, HX.out _ (((Below.refl _ _).drew).trans hb9) hr9⟩, by simp [intOf]; omega⟩
    · obtain rfl : k = 6 := by omega
      obtain ⟨b1, r0, r1⟩ := hm
      have hcv := run_convert_bytes_arg (P := Try.prog) wr 61 5 Try.underlying61 Try.underlying5 (w.heap.size + 1) 0 48 48 (by48s A) (by48s_len A) (fun i hi => by rw [Nat.zero_add, r1.cell hi, if_pos (by omega), by48s_get A i hi]) 9 Try.underlying9
      clear r0 r1
      go_wp2
      go_ret
      exact ⟨rfl, b1⟩
theorem info5 : (Try.prog.info? 5).map (fun i => (i.zero, i.size, i.bytes)) = some (some (.int .u8 0), 1, 1) := by kernel_rfl
/-- Bytes as values. -/
def vals (L : List Int) : List Value := L.map (Value.int .u8)
theorem take_snoc (L : List Int) (k : Nat) (h : k < L.length) : L.take (k + 1) = L.take k ++ [L.getD k 0] := by
  rw [List.take_succ_eq_append_getElem h]; simp [List.getD_eq_getElem?_getD, h]
theorem vals_snoc (L : List Int) (x : Int) : vals (L ++ [x]) = vals L ++ [.int .u8 x] := by simp [vals]
theorem step_own {B k : Nat} {xs : List Value} {w wr w1 : World} {u : Value} {o : Obj} (hB : B ≤ wr.heap.size)
    (hown : wr.ownsRow B 5 1 u k xs) (hnx : Below B w wr) (hgrow : (wr.alloc o).grownBy w1 u.ownBlock) : Below B w w1 :=
  (hnx.alloc (by omega) o).grown hgrow (by simp; omega) (fun j hj => (hown.lt j hj).1)
set_option maxHeartbeats 800000 in
set_option maxRecDepth 8000 in
theorem rbytes_any (A : Int) (w : World) :
    Calls Try.prog 9 #[.agg (sm A)] w fun e w' => e = .returned (.string (strOfNums (by48s A))) ∧ Below w.heap.size w w' := by
  obtain ⟨i0, hi, hz0, hz1, hz2⟩ : ∃ i0, Try.prog.info? 5 = some i0 ∧ i0.zero = some (.int .u8 0) ∧ i0.size = 1 ∧ i0.bytes = 1 := by
    have h := info5
    cases hh : Try.prog.info? 5 with
    | none => rw [hh] at h; cases h
    | some i => rw [hh] at h; simp at h; exact ⟨i, rfl, h.1, h.2.1, h.2.2⟩
  obtain ⟨w0, hw0, hs0, hb0, hr0⟩ : ∃ w0, w.alloc (.cells (sm A) 29) = w0 ∧ w0.heap.size = w.heap.size + 1 ∧ Below w.heap.size w w0 ∧ w0.rowIs w.heap.size 29 6 (fun i => .int .u64 (wd A i)) :=
    ⟨_, rfl, by simp, (Below.refl _ _).alloc (Nat.le_refl _) _, row_sm (heap_alloc_last w _)⟩
  have HR : Hid (w0.rowIs w.heap.size 29 6 (fun i => .int .u64 (wd A i))) := hr0
  have HB : Hid (Below w.heap.size w w0) := hb0
  have hl := by48s_len A
  clear hr0 hb0
  generalize hsa : sm A = ca at *
  go_enter Try.func9, Try.ntmps9
  go_wp2
  go_loopw [3, 4] (fun v i wr => ∃ k : Nat, k ≤ 48 ∧ i = .int .i64 k ∧ wr.ownsRow (w.heap.size + 1) 5 1 v k (vals ((by48s A).take k)) ∧ Below (w.heap.size + 1) w0 wr) (fun _ i _ => 48 - (intOf i).toNat)
  case atStart => exact ⟨0, Nat.zero_le _, rfl, by rw [List.take_zero]; exact World.ownsRow_nil _ _ _ _, Below.refl _ _⟩
  case round =>
    obtain ⟨k, hk, rfl, hown, hnx⟩ := hrel
    have hsz := hnx.size
    rw [hs0] at hsz
    by_cases hlt : k < 48
    · have hcx := (World.rowIs.of_block HR.out (hnx.block _ (by omega))).cell (show k / 8 < 6 by omega)
      have Hs : Hid (vals ((by48s A).take (k + 1)) = vals ((by48s A).take k) ++ [.int .u8 (wd A (k / 8) / 2 ^ (8 * (k % 8)) % 256)]) := by
        show _ = _; rw [take_snoc _ k (by omega), vals_snoc, by48s_get A k hlt]; rfl
      have hxb := wd_b A (k / 8)
      generalize wd A (k / 8) = x at *
      clear hw0 hs0 hsa hl
      go_wp2_with (at_builtin; refine wpList_append_own _ rfl _ _ 61 rfl (w.heap.size + 1) 5 i0 (.int .u8 0) 1 1 Try.underlying61 hi hz0 hz1 hz2 rfl (by decide) _ _ _ rfl (hown.alloc _) ⟨wr.heap.size, 0, none⟩ 1 1 [.int .u8 (x / 2 ^ (8 * (k % 8)) % 256)] rfl rfl ?c1 ?c2 ?c3 ?c4 ?c5 ?_)
      case c1 => exact cell_one_new _ _ _
      case c2 => intro u hu; simp at hu; subst hu; rfl
      case c3 => unfold maxLen; omega
      case c4 => omega
      case c5 => simp; omega
      · intro v' w1 hown' hgrow _
        have hb1 := step_own hsz hown hnx hgrow
        rw [← Hs.out] at hown'
        clear hgrow hown hnx
        go_wp2
        exact ⟨⟨k + 1, by omega, by go_num, hown', hb1⟩, by simp [intOf]; omega⟩
    · have hkk : k = 48 := by omega
      subst hkk
      rw [List.take_of_length_le (show (by48s A).length ≤ 48 by omega)] at hown
      have hown2 := hown
      obtain ⟨h1, h2⟩ := hown2
      rcases h2 with ⟨_, h0⟩ | ⟨g, cap, cur, rfl, hbb, hh, r⟩
      · exact absurd h0 (by decide)
      have hcv := run_convert_bytes_arg (P := Try.prog) wr 61 5 Try.underlying61 Try.underlying5 g 0 48 cap (by48s A) (by48s_len A) (fun i hi => by
        rw [Nat.zero_add, World.ownsRow.cellAt hown i (by omega)]
        unfold vals
        rw [List.getElem?_map, List.getD_eq_getElem?_getD, List.getElem?_eq_getElem (show i < (by48s A).length by omega)]; rfl) 9 Try.underlying9
      have hbel : Below w.heap.size w wr := HB.out.trans (hnx.mono (by omega))
      clear hown h1 hh r hnx
      go_wp2
      go_ret
      exact ⟨rfl, hbel⟩
end Ty
end Go.Proofs.Ytbnmjmlcedkoaaa
