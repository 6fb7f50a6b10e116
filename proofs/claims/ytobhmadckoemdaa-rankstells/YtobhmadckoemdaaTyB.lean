import Derived.Test.YtobhmadckoemdaaTyA
namespace Go.Proofs.Ytobhmadckoemdaa
namespace Ty
open Go.RowKit
set_option linter.unusedVariables false
/-- What the variables of 'Neg' hold behind k rounds. -/
def NMid (w wr : World) (A : Int) (k : Nat) : Prop :=
  Below w.heap.size w wr ∧ wr.rowIs w.heap.size 46 6 (fun i => .int .u64 (if i < k then wd (-A) i else wd A i)) ∧ wr.rowIs (w.heap.size + 1) 46 6 (fun i => .int .u64 (wd 0 i))
theorem nm_start (w : World) (A : Int) : NMid w ((w.alloc (.cells (sm A) 46)).alloc (.cells (sm 0) 46)) A 0 := by
  obtain ⟨h1, h2⟩ := heap_two w (.cells (sm A) 46) (.cells (sm 0) 46)
  refine ⟨((Below.refl _ _).alloc (Nat.le_refl _) _).alloc (by simp) _, (row_sm h1).congr (fun i hi => by simp), row_sm h2⟩
theorem nm_step {w wr : World} {A : Int} {k : Nat} (hm : NMid w wr A k) : NMid w (wr.setCell ⟨w.heap.size, k, none⟩ (.int .u64 ((0 - wd A k - bw 64 A k) % 18446744073709551616))) A (k + 1) := by
  obtain ⟨b1, r0, r1⟩ := hm
  refine ⟨b1.setCell (Nat.le_refl _) _, ?_, r1.setOther (by show w.heap.size + 1 ≠ w.heap.size; omega) _⟩
  refine (r0.set k _).congr (fun i hi => ?_)
  by_cases e : i = k
  · subst e; rw [(wd_neg A i).1]; simp
  · simp only [e, if_false]
    by_cases h : i < k
    · rw [if_pos h, if_pos (by omega)]
    · rw [if_neg h, if_neg (by omega)]
set_option maxHeartbeats 800000 in
theorem neg_any (A : Int) (w : World) :
    Calls Try.prog 45 #[.agg (sm A)] w fun e w' => e = .returned (.agg (sm (-A))) ∧ Below w.heap.size w w' := by
  have h0 := nm_start w A
  rw [← zeros_sm] at h0
  have hone := sm_one (-A)
  have hz6 : (sm (-A)).size = 6 := rfl
  generalize hsa : sm A = ca at *
  go_enter Try.func45, Try.ntmps45
  go_wp2
  go_loopw [3, 5] (fun c i wr => ∃ k : Nat, k ≤ 6 ∧ i = .int .i64 k ∧ c = .int .u64 (bw 64 A k) ∧ NMid w wr A k) (fun _ i _ => 6 - (intOf i).toNat)
  case atStart => exact ⟨0, by omega, rfl, by rw [bw_zero], h0⟩
  case round =>
    clear h0 hsa
    obtain ⟨k, hk, rfl, rfl, hm⟩ := hrel
    by_cases hlt : k < 6
    · have HM : Hid (NMid w (wr.setCell ⟨w.heap.size, k, none⟩ (.int .u64 ((0 - wd A k - bw 64 A k) % 18446744073709551616))) A (k + 1)) := nm_step hm
      have HC : Hid (-((0 - wd A k - bw 64 A k) / 18446744073709551616) = bw 64 A (k + 1)) := (wd_neg A k).2
      obtain ⟨b1, r0, r1⟩ := hm
      have c0 := r0.cell hlt
      have f0 := r0.frozen k
      simp only [Nat.lt_irrefl, if_false] at c0
      clear r0 r1 b1 hone hz6
      have hcr := bw_b 64 A k
      have ha := wd_b A k
      have hA := fun w' => sub64 _ _ ha.1 ha.2 hcr.1 hcr.2 w'
      clear hcr ha
      generalize wd A k = x at *
      generalize hcc : bw 64 A k = c at *
      generalize (0 - x - c) % 18446744073709551616 = z at *
      generalize -((0 - x - c) / 18446744073709551616) = z2 at *
      go_wp2
      all_goals (exact ⟨⟨k + 1, by omega, by go_num, by rw [HC.out], HM.out⟩, by simp [intOf]; omega⟩)
    · obtain rfl : k = 6 := by omega
      obtain ⟨b1, r0, r2⟩ := hm
      have q0 := sm_row (N := -A) (r0.congr (fun i hi => by rw [if_pos hi]))
      have q2 := sm_row (N := 0) r2
      have hbel := below_setRow (w.heap.size + 1) (sm (-A)) b1 (by omega)
      have hld : (loadVar 46 ⟨w.heap.size + 1, 0, none⟩).run Try.prog (wr.setRow (w.heap.size + 1) (sm (-A))) = .ok (.agg (sm (-A))) (wr.setRow (w.heap.size + 1) (sm (-A))) :=
        run_loadVar_row _ _ 46 46 _ (0, 0) _ (setRow_heap wr (w.heap.size + 1) _ _ 46 (0, 0) q2) Try.underlying46 rfl sizeSum
      clear r0 r2
      go_wp2_with (first
        | (refine wpList_load6 46 _ Try.underlying46 sizeSum rfl _ rfl w.heap.size (sm (-A)) rfl rfl q0 ?_)
        | (refine wpList_store6 46 sizeSum rfl _ _ rfl (w.heap.size + 1) (sm (-A)) (sm 0) rfl rfl rfl rfl hone q2 ?_))
      refine bodyPost_ret (v := .agg (sm (-A))) ?_ rfl ⟨rfl, hbel⟩
      simp [results, Try.results45, asAddr, Act.put, hld]
end Ty
end Go.Proofs.Ytobhmadckoemdaa
