import Derived.Test.YtobhmadckoemdaaTySg
namespace Go.Proofs.Ytobhmadckoemdaa
namespace Ty
open Go.RowKit
set_option linter.unusedVariables false
theorem or_zero (x : Int) (h0 : 0 ≤ x) (h1 : x < 18446744073709551616) : bits .or .u64 0 x = x := by
  rw [u64_or 0 x (by omega) (by omega) h0 h1]; simp; omega
theorem dn_word (A : Int) (p t W k : Nat) (hp : p < 64) (hk : k = 64 * W + p) : bits .or .u64 (IntKind.u64.wrap (wd A (t + W + 1) * 2 ^ (64 - p))) (wd A (t + W) / 2 ^ p) = wd (A / 2 ^ k) t := by
  have e0 : wd (A / 2 ^ k) t = A / 2 ^ (64 * (t + W)) / 2 ^ p % 18446744073709551616 := by
    unfold wd
    rw [Int.ediv_ediv_of_nonneg (Int.le_of_lt (pw _)), Int.ediv_ediv_of_nonneg (Int.le_of_lt (pw _)), ← Int.pow_add, ← Int.pow_add, hk, show 64 * W + p + 64 * t = 64 * (t + W) + p from by omega]
  have hq : A / 2 ^ (64 * (t + W)) = 18446744073709551616 * (A / 2 ^ (64 * (t + W + 1))) + wd A (t + W) := by
    unfold wd
    rw [show 64 * (t + W + 1) = 64 * (t + W) + 64 from by omega, Int.pow_add, two64, ← Int.ediv_ediv_of_nonneg (Int.le_of_lt (pw _))]
    generalize A / 2 ^ (64 * (t + W)) = q
    omega
  rw [e0, hq]
  have hb := wd_b A (t + W)
  have hh : wd A (t + W + 1) = A / 2 ^ (64 * (t + W + 1)) % 18446744073709551616 := rfl
  rw [hh]
  generalize A / 2 ^ (64 * (t + W + 1)) = q at *
  generalize wd A (t + W) = x at *
  by_cases h0 : p = 0
  · subst h0
    rw [IntKind.wrap_u64, show 64 - 0 = 64 from rfl, two64, Int.mul_emod_left, Int.pow_zero, Int.ediv_one, Int.ediv_one, or_zero x hb.1 hb.2]
    omega
  · have e1 : (18446744073709551616 : Int) = 2 ^ p * 2 ^ (64 - p) := by rw [← two64, ← Int.pow_add]; congr 1; omega
    have hP := pw p
    have hl0 : 0 ≤ x / 2 ^ p := Int.ediv_nonneg hb.1 (by omega)
    have hl1 : x / 2 ^ p < 2 ^ (64 - p) := Int.ediv_lt_of_lt_mul hP (by rw [Int.mul_comm, ← e1]; exact hb.2)
    have hs := shl_mod q (x / 2 ^ p) (64 - p) (by omega) hl0 hl1
    rw [IntKind.wrap_u64, hs.2, ← hs.1]
    congr 1
    rw [e1, Int.mul_assoc, Int.add_comm (2 ^ p * _) x, Int.add_mul_ediv_left _ _ (Int.ne_of_gt hP)]; omega
def DMid (w wr : World) (A : Int) (k i : Nat) : Prop :=
  Below w.heap.size w wr ∧ wr.rowIs w.heap.size 46 6 (fun j => .int .u64 (wd A j)) ∧ wr.rowIs (w.heap.size + 1) 46 6 (fun j => .int .u64 (wd 0 j)) ∧
  wr.rowIs (w.heap.size + 1 + 1) 46 6 (fun j => .int .u64 (if 6 ≤ j + i then wd (A / 2 ^ k) j else 0))
theorem dm_start (w : World) (A : Int) (k : Nat) : DMid w (((w.alloc (.cells (sm A) 46)).alloc (.cells (sm 0) 46)).alloc (.cells (sm 0) 46)) A k 0 := by
  obtain ⟨h1, h2, h3⟩ := heap_three w (.cells (sm A) 46) (.cells (sm 0) 46) (.cells (sm 0) 46)
  refine ⟨(((Below.refl _ _).alloc (Nat.le_refl _) _).alloc (by simp) _).alloc (by simp; omega) _, row_sm h1, row_sm h2, (row_sm h3).congr (fun i hi => ?_)⟩
  rw [zero_wd, if_neg (by omega)]
theorem dm_step {w wr : World} {A : Int} {k i : Nat} (hm : DMid w wr A k i) (hi : i < 6) (t : Nat) (ht : t = 5 - i) (m : Nat) : DMid w ((wr.drewN m).setCell ⟨w.heap.size + 1 + 1, t, none⟩ (.int .u64 (wd (A / 2 ^ k) t))) A k (i + 1) := by
  obtain ⟨b1, r0', r1', r2'⟩ := hm
  have r0 : (wr.drewN m).rowIs w.heap.size 46 6 (fun j => .int .u64 (wd A j)) := r0'.of_block rfl
  have r1 : (wr.drewN m).rowIs (w.heap.size + 1) 46 6 (fun j => .int .u64 (wd 0 j)) := r1'.of_block rfl
  have r2 : (wr.drewN m).rowIs (w.heap.size + 1 + 1) 46 6 (fun j => .int .u64 (if 6 ≤ j + i then wd (A / 2 ^ k) j else 0)) := r2'.of_block rfl
  refine ⟨(below_drewN b1 m).setCell (by show w.heap.size ≤ w.heap.size + 1 + 1; omega) _, r0.setOther (by show w.heap.size ≠ w.heap.size + 1 + 1; omega) _, r1.setOther (by show w.heap.size + 1 ≠ w.heap.size + 1 + 1; omega) _, (r2.set t _).congr (fun j hj => ?_)⟩
  by_cases e : j = t
  · rw [if_pos e, if_pos (by omega), e]
  · rw [if_neg e]
    by_cases h : 6 ≤ j + i
    · rw [if_pos h, if_pos (by omega)]
    · rw [if_neg h, if_neg (by omega)]
set_option maxHeartbeats 800000 in
theorem down_any (A f : Int) (k : Nat) (hk : k < 384) (hf : ∀ i, 6 ≤ i → wd A i = f) (w : World) :
    Calls Try.prog 38 #[.agg (sm A), .int .i64 k, .int .u64 f] w fun e w' => e = .returned (.agg (sm (A / 2 ^ k))) ∧ Below w.heap.size w w' := by
  have h0 := dm_start w A k
  rw [← zeros_sm] at h0
  have hone := sm_one (A / 2 ^ k)
  generalize hsa : sm A = ca at *
  obtain ⟨p, hp⟩ : ∃ p : Nat, p = k % 64 := ⟨_, rfl⟩
  obtain ⟨q, hq⟩ : ∃ q : Nat, q = 64 - p := ⟨_, rfl⟩
  have HPQ : Hid (p = k % 64 ∧ q = 64 - p) := ⟨hp, hq⟩
  have hpI : (k : Int) % 64 = (p : Int) := by omega
  have hqI : (64 : Int) - (p : Int) = (q : Int) := by omega
  have hqw : IntKind.i64.wrap (q : Int) = (q : Int) := by rw [IntKind.wrap_i64]; omega
  clear hp hq
  go_enter Try.func38, Try.ntmps38
  go_wp2
  simp only [hpI]
  have HFF : Hid (∀ i, 6 ≤ i → wd A i = f) := hf
  clear hf
  go_loopw [10, 19] (fun c i wr => ∃ j : Nat, j ≤ 6 ∧ i = .int .i64 j ∧ c = .int .u64 (wd A (6 - j + k / 64)) ∧ DMid w wr A k j) (fun _ i _ => 6 - (intOf i).toNat)
  case atStart => exact ⟨0, Nat.zero_le _, rfl, by rw [HFF.out _ (by omega)], h0⟩
  case round =>
    clear h0 hsa
    obtain ⟨j, hj, rfl, rfl, hm⟩ := hrel
    by_cases hlt : j < 6
    · obtain ⟨t, ht⟩ : ∃ t : Nat, t = 5 - j := ⟨_, rfl⟩
      have HM : Hid (∀ m, DMid w ((wr.drewN m).setCell ⟨w.heap.size + 1 + 1, t, none⟩ (.int .u64 (wd (A / 2 ^ k) t))) A k (j + 1)) := dm_step hm hlt t ht
      have hidx : (5 : Int) - (j : Int) = (t : Int) := by omega
      have HW := dn_word A (k % 64) t (k / 64) k (Nat.mod_lt _ (by omega)) (by omega)
      have e6 : 6 - j + k / 64 = t + k / 64 + 1 := by omega
      have HH : Hid (wd A (6 - (j + 1) + k / 64) = wd A (t + k / 64)) := by show _ = _; rw [show 6 - (j + 1) = t from by omega]
      rw [e6]
      have hh := wd_b A (t + k / 64 + 1)
      have hx := wd_b A (t + k / 64)
      have HB : Hid (6 ≤ t + k / 64 → wd A (t + k / 64) = f) := HFF.out _
      obtain ⟨b1, r0, r1, r2⟩ := hm
      have c2 := r2.cell (show t < 6 by omega)
      have f2 := r2.frozen t
      have ht6 : (t : Int) < 6 := by omega
      by_cases hin : t + k / 64 < 6
      · have c0 := r0.cell hin
        clear r0 r1 r2 b1 hone e6
        clear ht
        generalize wd A (t + k / 64 + 1) = hi at *
        generalize wd A (t + k / 64) = x at *
        have HW' : Hid (bits .or .u64 (IntKind.u64.wrap (hi * 2 ^ (64 - k % 64))) (x / 2 ^ (k % 64)) = wd (A / 2 ^ k) t) := HW
        clear HW
        have hinI : (t : Int) + (k : Int) / 64 < 6 := by omega
        rw [← HPQ.out.1, ← HPQ.out.2] at HW'
        go_wp2
        go_region_with (fail)
        rw [HW'.out]
        go_wp2
        exact ⟨⟨j + 1, by omega, by go_num, by rw [HH.out], HM.out 1⟩, by simp [intOf]; omega⟩
      · clear r0 r1 r2 b1 hone e6
        clear ht
        have hxf := HB.out (by omega)
        generalize wd A (t + k / 64 + 1) = hi at *
        rw [hxf] at HW HH hx
        have HW' : Hid (bits .or .u64 (IntKind.u64.wrap (hi * 2 ^ (64 - k % 64))) (f / 2 ^ (k % 64)) = wd (A / 2 ^ k) t) := HW
        clear HW hxf HB
        have hinI : ¬ (t : Int) + (k : Int) / 64 < 6 := by omega
        rw [← HPQ.out.1, ← HPQ.out.2] at HW'
        go_wp2
        go_region_with (fail)
        rw [HW'.out]
        go_wp2
        exact ⟨⟨j + 1, by omega, by go_num, by rw [HH.out], HM.out 1⟩, by simp [intOf]; omega⟩
    · obtain rfl : j = 6 := by omega
      obtain ⟨b1, r0, r1, r2⟩ := hm
      have q2 := sm_row (N := A / 2 ^ k) (r2.congr (fun i hi => by rw [if_pos (by omega)]))
      have q1 := sm_row (N := 0) r1
      have hbel := below_setRow (w.heap.size + 1) (sm (A / 2 ^ k)) b1 (by omega)
      have hld : (loadVar 46 ⟨w.heap.size + 1, 0, none⟩).run Try.prog (wr.setRow (w.heap.size + 1) (sm (A / 2 ^ k))) = .ok (.agg (sm (A / 2 ^ k))) (wr.setRow (w.heap.size + 1) (sm (A / 2 ^ k))) :=
        run_loadVar_row _ _ 46 46 _ (0, 0) _ (setRow_heap wr (w.heap.size + 1) _ _ 46 (0, 0) q1) Try.underlying46 rfl sizeSum
      clear r0 r1 r2
      go_wp2_with (first
        | (refine wpList_load6 46 _ Try.underlying46 sizeSum rfl _ rfl (w.heap.size + 1 + 1) (sm (A / 2 ^ k)) rfl rfl q2 ?_)
        | (refine wpList_store6 46 sizeSum rfl _ _ rfl (w.heap.size + 1) (sm (A / 2 ^ k)) (sm 0) rfl rfl rfl rfl hone q1 ?_))
      refine bodyPost_ret (v := .agg (sm (A / 2 ^ k))) ?_ rfl ⟨rfl, hbel⟩
      simp [results, Try.results38, asAddr, Act.put, hld]
end Ty
end Go.Proofs.Ytobhmadckoemdaa
