import Derived.Test.YtobhmadckoemdaaTyA
import Derived.Test.YtobhmadckoemdaaTyBit
namespace Go.Proofs.Ytobhmadckoemdaa
namespace Ty
open Go.RowKit
set_option linter.unusedVariables false
theorem infoInt : (Try.prog.info? 3).map (fun i => (i.zero, i.size, i.bytes)) = some (some (.int .i64 0), 1, 8) := by kernel_rfl
/-- 384 zeros. -/
def mz : Array Value := madeCells #[.int .i64 0] 384
theorem make384 (w : World) : (Instr.makeSlice 75 (.int .i64 384) (.int .i64 384)).run Try.prog w = .ok (.slice (some ⟨w.heap.size, 0, none⟩) 384 384) (w.alloc (.cells mz 3)) :=
  run_make_row' 75 3 (.int .i64 0) 8 Try.underlying75 infoInt rfl .i64 .i64 384 (by omega) (by omega) w
theorem mz_row (w : World) : (w.alloc (.cells mz 3)).rowIs w.heap.size 3 384 (fun _ => .int .i64 0) := World.rowIs_made w _ 384 3
/-- Block g holds the 384 bits of N, the lowest first. -/
def Bits (w : World) (g : Nat) (N : Int) : Prop := w.rowIs g 3 384 (fun i => .int .i64 (bit N i))
theorem Bits.kept {w w' : World} {g B : Nat} {N : Int} (h : Bits w g N) (hb : Below B w w') (hg : g < B) : Bits w' g N := World.rowIs.of_block h (hb.block g hg)
def BMid (w wr : World) (A : Int) (k : Nat) : Prop :=
  Below w.heap.size w wr ∧ wr.rowIs w.heap.size 40 6 (fun i => .int .u64 (wd A i)) ∧ wr.rowIs (w.heap.size + 1) 3 384 (fun i => .int .i64 (if i < k then bit A i else 0))
theorem bm_start (w : World) (A : Int) : BMid w ((w.alloc (.cells (sm A) 40)).alloc (.cells mz 3)) A 0 := by
  obtain ⟨h1, h2⟩ := heap_two w (.cells (sm A) 40) (.cells mz 3)
  refine ⟨((Below.refl _ _).alloc (Nat.le_refl _) _).alloc (by simp) _, row_sm h1, ?_⟩
  have h3 := mz_row (w.alloc (.cells (sm A) 40))
  have e : (w.alloc (.cells (sm A) 40)).heap.size = w.heap.size + 1 := by simp
  rw [e] at h3
  exact h3.congr (fun i hi => by simp)
theorem bm_step {w wr : World} {A : Int} {k : Nat} (hm : BMid w wr A k) : BMid w (wr.setCell ⟨w.heap.size + 1, k, none⟩ (.int .i64 (bit A k))) A (k + 1) := by
  obtain ⟨b1, r0, r1⟩ := hm
  refine ⟨b1.setCell (by show w.heap.size ≤ w.heap.size + 1; omega) _, r0.setOther (by show w.heap.size ≠ w.heap.size + 1; omega) _, (r1.set k _).congr (fun i hi => ?_)⟩
  by_cases e : i = k
  · subst e; simp
  · simp only [e, if_false]
    by_cases h : i < k
    · rw [if_pos h, if_pos (by omega)]
    · rw [if_neg h, if_neg (by omega)]
set_option maxHeartbeats 800000 in
set_option maxRecDepth 8000 in
theorem rbits_any (A : Int) (w : World) :
    Calls Try.prog 54 #[.agg (sm A)] w fun e w' => ∃ g, e = .returned (.slice (some ⟨g, 0, none⟩) 384 384) ∧ w.heap.size ≤ g ∧ Bits w' g A ∧ Below w.heap.size w w' := by
  have h0 := bm_start w A
  generalize hsa : sm A = ca at *
  have hmk := make384
  generalize mz = mz0 at *
  go_enter Try.func54, Try.ntmps54
  go_wp2
  clear hmk
  go_loopw [4] (fun i wr => ∃ k : Nat, k ≤ 384 ∧ i = .int .i64 k ∧ BMid w wr A k) (fun i _ => 384 - (intOf i).toNat)
  case atStart => exact ⟨0, by omega, rfl, h0⟩
  case round =>
    clear h0 hsa
    obtain ⟨k, hk, rfl, hm⟩ := hrel
    by_cases hlt : k < 384
    · have HM : Hid (BMid w (wr.setCell ⟨w.heap.size + 1, k, none⟩ (.int .i64 (bit A k))) A (k + 1)) := bm_step hm
      obtain ⟨b1, r0, r1⟩ := hm
      have c0 := r0.cell (show k / 64 < 6 by omega)
      have c1 := r1.cell hlt
      have f0 := r1.frozen k
      have HW : Hid (wrap64 ((wd A (k / 64) / 2 ^ (k % 64)).tmod 2) = bit A k) := by
        show _ = _
        have h1 := bit_b A k
        rw [Int.tmod_eq_emod_of_nonneg (Int.ediv_nonneg (wd_b A (k / 64)).1 (Int.le_of_lt (pw _))), bit_wd A k]
        exact IntWalk.wrap64_in _ ⟨by omega, by omega⟩
      have hwb := wd_b A (k / 64)
      clear r0 r1 b1
      go_wp2
      rw [HW.out]
      exact ⟨⟨k + 1, by omega, by go_num, HM.out⟩, by simp [intOf]; omega⟩
    · obtain rfl : k = 384 := by omega
      obtain ⟨b1, r0, r1⟩ := hm
      go_wp2
      go_ret
      exact ⟨_, rfl, by omega, r1.congr (fun i hi => by rw [if_pos hi]), b1⟩
/-! plus -/
def PMid (w wr : World) (A B : Int) (k : Nat) : Prop :=
  Below w.heap.size w wr ∧ wr.rowIs w.heap.size 3 384 (fun i => .int .i64 (if i < k then bit (A + B) i else 0))
theorem pm_start (w : World) (A B : Int) : PMid w (w.alloc (.cells mz 3)) A B 0 :=
  ⟨(Below.refl _ _).alloc (Nat.le_refl _) _, (mz_row w).congr (fun i hi => by simp)⟩
theorem pm_step {w wr : World} {A B : Int} {k : Nat} (hm : PMid w wr A B k) (m : Nat) : PMid w ((wr.drewN m).setCell ⟨w.heap.size, k, none⟩ (.int .i64 (bit (A + B) k))) A B (k + 1) := by
  obtain ⟨b1, r1'⟩ := hm
  have r1 : (wr.drewN m).rowIs w.heap.size 3 384 (fun i => .int .i64 (if i < k then bit (A + B) i else 0)) := r1'.of_block rfl
  replace b1 := below_drewN b1 m
  refine ⟨b1.setCell (Nat.le_refl _) _, (r1.set k _).congr (fun i hi => ?_)⟩
  by_cases e : i = k
  · subst e; simp
  · simp only [e, if_false]
    by_cases h : i < k
    · rw [if_pos h, if_pos (by omega)]
    · rw [if_neg h, if_neg (by omega)]
set_option maxHeartbeats 800000 in
set_option maxRecDepth 8000 in
theorem rplus_any (A B : Int) (g1 g2 : Nat) (w : World) (ha : Bits w g1 A) (hb : Bits w g2 B) :
    Calls Try.prog 58 #[.slice (some ⟨g1, 0, none⟩) 384 384, .slice (some ⟨g2, 0, none⟩) 384 384] w fun e w' => ∃ g, e = .returned (.slice (some ⟨g, 0, none⟩) 384 384) ∧ w.heap.size ≤ g ∧ Bits w' g (A + B) ∧ Below w.heap.size w w' := by
  have h0 := pm_start w A B
  have hmk := make384
  generalize mz = mz0 at *
  have HA : Hid (Bits w g1 A ∧ Bits w g2 B) := ⟨ha, hb⟩
  clear ha hb
  go_enter Try.func58, Try.ntmps58
  go_wp2
  clear hmk
  go_loopw [6, 7] (fun c i wr => ∃ k : Nat, k ≤ 384 ∧ i = .int .i64 k ∧ c = .int .i64 (cr 1 A B k) ∧ PMid w wr A B k) (fun _ i _ => 384 - (intOf i).toNat)
  case atStart => exact ⟨0, by omega, rfl, by rw [cr_zero], h0⟩
  case round =>
    clear h0
    obtain ⟨k, hk, rfl, rfl, hm⟩ := hrel
    by_cases hlt : k < 384
    · have HM : Hid (∀ m, PMid w ((wr.drewN m).setCell ⟨w.heap.size, k, none⟩ (.int .i64 (bit (A + B) k))) A B (k + 1)) := pm_step hm
      obtain ⟨b1, r1⟩ := hm
      have ca := (World.rowIs.of_block HA.out.1 (b1.block g1 (World.rowIs.lt HA.out.1))).cell hlt
      have cb := (World.rowIs.of_block HA.out.2 (b1.block g2 (World.rowIs.lt HA.out.2))).cell hlt
      have c1 := r1.cell hlt
      have f0 := r1.frozen k
      have hba := bit_b A k
      have hbb := bit_b B k
      have hcb := cr_b 1 A B k
      have hS := bit_add A B k
      clear r1 b1
      generalize bit A k = x at *
      generalize bit B k = y at *
      generalize cr 1 A B k = c at *
      have HS : Hid ((x + y + c) % 2 = bit (A + B) k ∧ (x + y + c) / 2 = cr 1 A B (k + 1)) := hS
      clear hS
      obtain ⟨x0, x1⟩ := hba
      obtain ⟨y0, y1⟩ := hbb
      obtain ⟨z0, z1⟩ := hcb
      go_wp2
      go_quiet (fail)
      go_wp2
      rw [HS.out.1, HS.out.2]
      exact ⟨⟨k + 1, by omega, by go_num, rfl, HM.out _⟩, by simp [intOf]; omega⟩
    · obtain rfl : k = 384 := by omega
      obtain ⟨b1, r1⟩ := hm
      go_wp2
      go_ret
      exact ⟨_, rfl, by omega, r1.congr (fun i hi => by rw [if_pos hi]), b1⟩
end Ty
end Go.Proofs.Ytobhmadckoemdaa
