import Derived.Test.YtbnmjmlcedkoaaaTyBb
namespace Go.Proofs.Ytbnmjmlcedkoaaa
namespace Ty
open Go.RowKit
set_option linter.unusedVariables false
set_option maxHeartbeats 800000 in
theorem rfrombytes_short (b : ByteArray) (hb : b.size ≠ 48) (w : World) :
    Calls Try.prog 7 #[.string b] w fun e w' => e = .returned (.tuple #[.agg (sm 0), .int .i64 10]) ∧ Below w.heap.size w w' := by
  have hb' : ((b.size : Int) != 48) = true := by simp; omega
  clear hb
  obtain ⟨V, hV, bV, sV, qV⟩ := fresh_sum (W := w) 29 0
  have hal := heap_alloc_last w (.cells #[.int .u64 0, .int .u64 0, .int .u64 0, .int .u64 0, .int .u64 0, .int .u64 0] 29)
  have hld : (loadVar 29 ⟨w.heap.size, 0, none⟩).run Try.prog V = .ok (.agg (sm 0)) V := run_loadVar_row _ _ 29 29 _ (0, 0) _ qV Try.underlying29 rfl sizeRSum
  have hone := sm_one 0
  go_enter Try.func7, Try.ntmps7
  go_wp2_with (refine wpList_store6 29 sizeRSum rfl _ _ rfl w.heap.size (sm 0) _ rfl (by rw [← zeros_sm]; rfl) rfl rfl hone hal ?_; rw [hV])
  refine bodyPost_ret (v := .tuple #[.agg (sm 0), .int .i64 10]) ?_ rfl ⟨rfl, bV⟩
  simp [results, Try.results7, asAddr, hld]
/-- What the words hold behind k bytes. -/
def rf (b : ByteArray) (k j : Nat) : Int := gf (sb b) (8 * j) (min 8 (k - 8 * j))
theorem rf_zero (b : ByteArray) (j : Nat) : rf b 0 j = 0 := by unfold rf; rw [show min 8 (0 - 8 * j) = 0 by omega]; rfl
theorem rf_b (b : ByteArray) (k j : Nat) : 0 ≤ rf b k j ∧ rf b k j < 18446744073709551616 := by
  have h := gf_b (sb b) (8 * j) (min 8 (k - 8 * j)) (sb_by b)
  have h2 := pow8_le (min 8 (k - 8 * j)) (by omega)
  unfold rf
  omega
theorem rf_step (b : ByteArray) (k : Nat) : bits .or .u64 (rf b k (k / 8)) (IntKind.u64.wrap (sb b k * 2 ^ (8 * (k % 8)))) = rf b (k + 1) (k / 8) := by
  have h := gf_step (sb b) (8 * (k / 8)) (k % 8) (sb_by b) (by omega)
  unfold rf
  rw [show min 8 (k - 8 * (k / 8)) = k % 8 by omega, show min 8 (k + 1 - 8 * (k / 8)) = k % 8 + 1 by omega]
  rwa [show 8 * (k / 8) + k % 8 = k by omega] at h
theorem rf_other (b : ByteArray) (k j : Nat) (h : j ≠ k / 8) : rf b (k + 1) j = rf b k j := by
  unfold rf
  rw [show min 8 (k + 1 - 8 * j) = min 8 (k - 8 * j) by omega]
theorem rf_end (b : ByteArray) (j : Nat) (h : j < 6) : rf b 48 j = gf (sb b) (8 * j) 8 := by
  unfold rf; rw [show min 8 (48 - 8 * j) = 8 by omega]
set_option maxHeartbeats 800000 in
theorem rfrombytes_any (b : ByteArray) (hb : b.size = 48) (w : World) :
    Calls Try.prog 7 #[.string b] w fun e w' => ∃ N : Int, (∀ i, i < 6 → wd N i = gf (sb b) (8 * i) 8) ∧ e = .returned (.tuple #[.agg (sm N), .int .i64 0]) ∧ Below w.heap.size w w' := by
  have hb' : ((b.size : Int) != 48) = false := by simp; omega
  have h0 := fm_start w 29 (rf b 0) (fun i => rf_zero b i)
  rw [← zeros_sm] at h0
  go_enter Try.func7, Try.ntmps7
  go_wp2
  go_loopw [5] (fun i wr => ∃ k : Nat, k ≤ 48 ∧ i = .int .i64 k ∧ FMid w wr 29 (rf b k)) (fun i _ => 48 - (intOf i).toNat)
  case atStart => exact ⟨0, by omega, rfl, h0⟩
  case round =>
    clear h0
    obtain ⟨k, hk, rfl, hm⟩ := hrel
    by_cases hlt : k < 48
    · have c1 := hm.2.2.2.cell (show k / 8 < 6 by omega)
      have f1 := hm.2.2.2.frozen (k / 8)
      have hst := rf_step b k
      have hlb : k < b.size := by omega
      have q0 : 0 ≤ (k : Int) / 8 := by omega
      have q1 : (k : Int) / 8 < 6 := by omega
      have q2 : IntKind.i64.wrap ((k : Int) / 8) = (k : Int) / 8 := by rw [IntKind.wrap_i64]; omega
      have q5 : ((k : Int) / 8).toNat = k / 8 := by omega
      have q6 : (k : Int).tmod 8 = (k : Int) % 8 := Int.tmod_eq_emod_of_nonneg (by omega)
      have q7 : IntKind.i64.wrap (8 * ((k : Int) % 8)) = 8 * ((k : Int) % 8) := by rw [IntKind.wrap_i64]; omega
      have q8 : IntKind.u64.wrap (8 * ((k : Int) % 8)) = 8 * ((k : Int) % 8) := by rw [IntKind.wrap_u64]; omega
      have q9 : (8 * ((k : Int) % 8)).toNat = 8 * (k % 8) := by omega
      have q10 : 0 ≤ 8 * ((k : Int) % 8) := by omega
      have q11 : min (8 * (k % 8)) 64 = 8 * (k % 8) := by omega
      have HM : Hid (FMid w (wr.drew.setCell ⟨w.heap.size + 1, k / 8, none⟩ (.int .u64 (rf b (k + 1) (k / 8)))) 29 (rf b (k + 1))) := by
        refine fm_congr (fm_set (fm_grow hm ((Below.refl _ _).drew)) (k / 8) _) (fun i hi => ?_)
        by_cases e : i = k / 8
        · subst e; simp
        · simp only [e, if_false]; rw [rf_other b k i e]
      clear hm
      have hx : ((b[k]'hlb).toNat : Int) = sb b k := by unfold sb; simp [List.getD, hlb]; rfl
      have hxb := sb_by b k
      have hx2 : IntKind.u64.wrap (sb b k) = sb b k := by rw [IntKind.wrap_u64]; omega
      generalize sb b k = x at *
      go_wp2
      go_region_with (fail)
      all_goals (go_wp2; exact ⟨⟨k + 1, by omega, by go_num, HM.out⟩, by simp [intOf]; omega⟩)
    · obtain rfl : k = 48 := by omega
      obtain ⟨b1, s1, r0, r1⟩ := hm
      obtain ⟨N, hN, q1⟩ := wd_of_row (f := fun i => gf (sb b) (8 * i) 8) (r1.congr (fun i hi => by rw [rf_end b i hi])) (fun i hi => gf8 b (8 * i))
      have q0 := sm_row (N := 0) (r0.congr (fun i hi => by rw [zero_wd]))
      have hbel := below_setRow w.heap.size (sm N) b1 (Nat.le_refl _)
      have hone := sm_one N
      have hld : (loadVar 29 ⟨w.heap.size, 0, none⟩).run Try.prog (wr.setRow w.heap.size (sm N)) = .ok (.agg (sm N)) (wr.setRow w.heap.size (sm N)) :=
        run_loadVar_row _ _ 29 29 _ (0, 0) _ (setRow_heap wr w.heap.size _ _ 29 (0, 0) q0) Try.underlying29 rfl sizeRSum
      clear r0 r1
      go_wp2_with (first
        | (refine wpList_load6 29 _ Try.underlying29 sizeRSum rfl _ rfl (w.heap.size + 1) (sm N) rfl rfl q1 ?_)
        | (refine wpList_store6 29 sizeRSum rfl _ _ rfl w.heap.size (sm N) (sm 0) rfl rfl rfl rfl hone q0 ?_))
      refine bodyPost_ret (v := .tuple #[.agg (sm N), .int .i64 0]) ?_ rfl ⟨N, hN, rfl, hbel⟩
      simp [results, Try.results7, asAddr, hld]
end Ty
end Go.Proofs.Ytbnmjmlcedkoaaa
