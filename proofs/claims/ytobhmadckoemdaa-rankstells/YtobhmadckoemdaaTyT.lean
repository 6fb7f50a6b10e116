import Derived.Test.YtobhmadckoemdaaTyS
namespace Go.Proofs.Ytobhmadckoemdaa
namespace Ty
open Go.RowKit
set_option linter.unusedVariables false
/-! minus -/
def CMid (w wr : World) (A : Int) (k : Nat) : Prop :=
  Below w.heap.size w wr ∧ wr.rowIs w.heap.size 3 384 (fun i => .int .i64 (if i < k then bit (-A - 1) i else 0)) ∧ Bits wr (w.heap.size + 1) 1
theorem bit_one (i : Nat) : bit 1 i = if i = 0 then 1 else 0 := by
  match i with
  | 0 => rfl
  | n + 1 =>
    rw [if_neg (by omega)]
    exact bit_zero_up 1 (n + 1) 1 (by decide) (by decide) (by omega)
theorem mz_facts : mz.size = 384 ∧ ∀ i, i < 384 → mz[i]? = some (.int .i64 0) := by
  refine ⟨size_madeCells _ _, fun i hi => ?_⟩
  unfold mz; simp [madeCells, hi, Nat.mod_one]
theorem cm_start (w : World) (A : Int) : CMid w ((w.alloc (.cells mz 3)).alloc (.cells (mz.setIfInBounds 0 (.int .i64 1)) 3)) A 0 := by
  have h1 := mz_row w
  refine ⟨((Below.refl _ _).alloc (Nat.le_refl _) _).alloc (by simp) _, ?_, ?_⟩
  · exact (h1.of_block (blk_alloc _ _ _ (by simp))).congr (fun i hi => by simp)
  · have h3 := heap_alloc_last (w.alloc (.cells mz 3)) (.cells (mz.setIfInBounds 0 (.int .i64 1)) 3)
    have e : (w.alloc (.cells mz 3)).heap.size = w.heap.size + 1 := by simp
    rw [e] at h3
    refine ⟨_, h3, by rw [Array.size_setIfInBounds]; exact mz_facts.1, fun i hi => ?_⟩
    show _ = some (Value.int .i64 (bit 1 i))
    rw [bit_one]
    by_cases h0 : i = 0
    · subst h0; rw [if_pos rfl, Array.getElem?_setIfInBounds_self_of_lt (by rw [mz_facts.1]; omega)]
    · rw [if_neg h0, Array.getElem?_setIfInBounds_ne (by omega), mz_facts.2 i hi]
theorem cm_step {w wr : World} {A : Int} {k : Nat} (hm : CMid w wr A k) (m : Nat) : CMid w ((wr.drewN m).setCell ⟨w.heap.size, k, none⟩ (.int .i64 (bit (-A - 1) k))) A (k + 1) := by
  obtain ⟨b1, r1', r2'⟩ := hm
  have r1 : (wr.drewN m).rowIs w.heap.size 3 384 (fun i => .int .i64 (if i < k then bit (-A - 1) i else 0)) := r1'.of_block rfl
  have r2 : (wr.drewN m).rowIs (w.heap.size + 1) 3 384 (fun i => .int .i64 (bit 1 i)) := World.rowIs.of_block r2' rfl
  refine ⟨(below_drewN b1 m).setCell (Nat.le_refl _) _, (r1.set k _).congr (fun i hi => ?_), r2.setOther (by show w.heap.size + 1 ≠ w.heap.size; omega) _⟩
  by_cases e : i = k
  · subst e; simp
  · simp only [e, if_false]
    by_cases h : i < k
    · rw [if_pos h, if_pos (by omega)]
    · rw [if_neg h, if_neg (by omega)]
set_option maxHeartbeats 800000 in
set_option maxRecDepth 8000 in
theorem rminus_any (A : Int) (g1 : Nat) (w : World) (ha : Bits w g1 A) :
    Calls Try.prog 55 #[.slice (some ⟨g1, 0, none⟩) 384 384] w fun e w' => ∃ g, e = .returned (.slice (some ⟨g, 0, none⟩) 384 384) ∧ w.heap.size ≤ g ∧ Bits w' g (-A) ∧ Below w.heap.size w w' := by
  have h0 := cm_start w A
  have hmk := make384
  have hc0 : mz[0]? = some (.int .i64 0) := mz_facts.2 0 (by omega)
  have hc1 : mz.size = 384 := mz_facts.1
  generalize mz = mz0 at *
  have HA : Hid (Bits w g1 A) := ha
  clear ha
  go_enter Try.func55, Try.ntmps55
  go_wp2
  clear hmk hc0 hc1
  go_loopw [5] (fun i wr => ∃ k : Nat, k ≤ 384 ∧ i = .int .i64 k ∧ CMid w wr A k) (fun i _ => 384 - (intOf i).toNat)
  case atStart => exact ⟨0, by omega, rfl, h0⟩
  case round =>
    clear h0
    obtain ⟨k, hk, rfl, hm⟩ := hrel
    by_cases hlt : k < 384
    · have HM : Hid (∀ m, CMid w ((wr.drewN m).setCell ⟨w.heap.size, k, none⟩ (.int .i64 (bit (-A - 1) k))) A (k + 1)) := cm_step hm
      obtain ⟨b1, r1, r2⟩ := hm
      have ca := (World.rowIs.of_block HA.out (b1.block g1 (World.rowIs.lt HA.out))).cell hlt
      have c1 := r1.cell hlt
      have f0 := r1.frozen k
      have hba := bit_b A k
      have HS : Hid (1 - bit A k = bit (-A - 1) k) := bit_not A k
      clear r1 b1 r2
      generalize bit A k = x at *
      obtain ⟨x0, x1⟩ := hba
      go_wp2
      rw [HS.out]
      exact ⟨⟨k + 1, by omega, by go_num, HM.out 0⟩, by simp [intOf]; omega⟩
    · obtain rfl : k = 384 := by omega
      obtain ⟨b1, r1, r2⟩ := hm
      have q1 : Bits wr w.heap.size (-A - 1) := r1.congr (fun i hi => by rw [if_pos hi])
      clear r1
      go_wp2_with (fail)
      refine (rplus_any (-A - 1) 1 _ _ _ q1 r2).mono ?_
      rintro e9 w9 ⟨g, rfl, hg, hb, hw⟩
      have hB : Below w.heap.size w w9 := b1.trans (hw.mono b1.size)
      have hs := b1.size
      rw [show -A - 1 + 1 = -A from by omega] at hb
      clear q1 r2 hw
      go_wp2
      go_ret
      exact ⟨_, rfl, by omega, hb, hB⟩
end Ty
end Go.Proofs.Ytobhmadckoemdaa
