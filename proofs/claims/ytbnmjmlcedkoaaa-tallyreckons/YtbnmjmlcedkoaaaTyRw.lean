import Derived.Test.YtbnmjmlcedkoaaaTyRz
import Derived.Test.YtbnmjmlcedkoaaaTySh
namespace Go.Proofs.Ytbnmjmlcedkoaaa
namespace Ty
open Go.RowKit
set_option linter.unusedVariables false
noncomputable def whV (V : Int) : Int := open Classical in if Sg V then V else 0
noncomputable def whB (V : Int) : Bool := open Classical in if Sg V then true else false
theorem wh_good {V : Int} (h : Sg V) : whV V = V ∧ whB V = true := by unfold whV whB; exact ⟨if_pos h, if_pos h⟩
theorem wh_bad {V : Int} (h : ¬ Sg V) : whV V = 0 ∧ whB V = false := by unfold whV whB; exact ⟨if_neg h, if_neg h⟩
theorem len_ge (N : Int) (n : Nat) (h0 : 0 ≤ N) (h : IsLen N n) (hp : 0 < n) : 2 ^ (n - 1) ≤ N := by
  have hb := h.2 hp
  unfold bit at hb
  have hP := pw (n - 1)
  generalize (2 : Int) ^ (n - 1) = P at *
  by_cases hlt : N < P
  · rw [Int.ediv_eq_zero_of_lt h0 hlt] at hb; exact absurd hb (by decide)
  · omega
theorem neg_just (N : Int) (h0 : 0 ≤ N) (h : N < 2 ^ 384) (hz : N % 2 ^ 383 = 0) : Sg (-N) := by
  have hm := Int.mul_ediv_add_emod N (2 ^ 383)
  rw [hz, Int.add_zero] at hm
  rw [p384] at h
  unfold Sg
  have hP := pw 383
  generalize (2 : Int) ^ 383 = P at *
  have hq0 : 0 ≤ N / P := Int.ediv_nonneg h0 (by omega)
  have hq1 : N / P < 2 := Int.ediv_lt_of_lt_mul hP h
  have : N / P = 0 ∨ N / P = 1 := by omega
  rcases this with hq | hq
  · rw [hq, Int.mul_zero] at hm; omega
  · rw [hq, Int.mul_one] at hm; omega
theorem neg_over (N : Int) (k : Nat) (h0 : 0 ≤ N) (h : IsLen N 384) (hk : k < 383) (hb : bit N k = 1) : ¬ Sg (-N) := by
  intro hs
  have h5 := len_ge N 384 h0 h (by omega)
  have e : 384 - 1 = 383 := rfl
  rw [e] at h5
  obtain ⟨s1, s2⟩ := hs
  have hN : N = 2 ^ 383 := by
    generalize (2 : Int) ^ 383 = P at *
    omega
  rw [hN] at hb
  have h6 := bit_shift_low 1 383 k hk
  rw [Int.one_mul] at h6
  rw [h6] at hb; exact absurd hb (by decide)
set_option maxHeartbeats 1600000 in
set_option maxRecDepth 8000 in
theorem rwhole_pos (N : Int) (a : Option Addr) (L cap : Nat) (w : World) (hL : L < 4611686018427387904) (h0 : 0 ≤ N) (h1 : N < 2 ^ L) (hr : BR w a L N) :
    Calls Try.prog 50 #[.bool false, .slice a L cap] w fun e w' => e = .returned (.tuple #[.agg (sm (whV (N))), .bool (whB (N))]) ∧ Below w.heap.size w w' := by
  obtain ⟨v, hv, hvb, hvs, hv0⟩ : ∃ v, w.alloc (.cells #[.int .u64 0, .int .u64 0, .int .u64 0, .int .u64 0, .int .u64 0, .int .u64 0] 29) = v ∧ Below w.heap.size w v ∧ v.heap.size = w.heap.size + 1 ∧ v.heap[w.heap.size]? = some (.cells (sm 0) 29 (0, 0)) := by
    refine ⟨_, rfl, (Below.refl _ _).alloc (Nat.le_refl _) _, by simp, ?_⟩
    rw [zeros_sm]; exact heap_alloc_last w _
  have lv : w.heap.size < v.heap.size := by omega
  have HR : Hid (BR w a L N) := hr
  have HN2 : Hid (N < 2 ^ L) := h1
  have HZB : Hid (∀ i, L ≤ i → i < 384 → bit N i = 0) := fun i h _ => bit_zero_up N i L h0 HN2.out h
  have HBAD : Hid (¬ Sg (N) → Ending.returned (.tuple #[.agg (sm 0), .bool false]) = Ending.returned (.tuple #[.agg (sm (whV (N))), .bool (whB (N))])) := fun h => by rw [(wh_bad h).1, (wh_bad h).2]
  have HGOOD : Hid (Sg (N) → Ending.returned (.tuple #[.agg (sm (N)), .bool true]) = Ending.returned (.tuple #[.agg (sm (whV (N))), .bool (whB (N))])) := fun h => by rw [(wh_good h).1, (wh_good h).2]
  clear hr h1
  go_enter Try.func50, Try.ntmps50
  go_wp2_with (fail)
  clear hv
  refine (rsize_any N a L cap _ hL h0 HN2.out (HR.out.kept hvb)).mono ?_
  rintro e0 w0 ⟨⟨n, rfl, hnL, hlen⟩, hw0⟩
  subst w0
  have HLEN : Hid (IsLen N n) := hlen
  clear hlen
  by_cases hbig : 384 < n
  · have HNS : Hid (¬ Sg (N)) := fun hs => by
      have h5 := len_ge N n h0 HLEN.out (by omega)
      have h6 := pow_mono 384 (n - 1) (by omega)
      rw [p384] at h6
      obtain ⟨s1, s2⟩ := hs
      have hP := pw 383
      generalize (2 : Int) ^ 383 = P at *
      omega
    have hbI : (384 : Int) < (n : Int) := by omega
    clear hbig
    have hone := sm_one 0
    have hbel := below_setRow w.heap.size (sm 0) hvb (Nat.le_refl _)
    have hld : (loadVar 29 ⟨w.heap.size, 0, none⟩).run Try.prog (v.setRow w.heap.size (sm 0)) = .ok (.agg (sm 0)) (v.setRow w.heap.size (sm 0)) :=
      run_loadVar_row _ _ 29 29 _ (0, 0) _ (setRow_heap v w.heap.size _ _ 29 (0, 0) hv0) Try.underlying29 rfl sizeRSum
    go_wp2_with (refine wpList_store6 29 sizeRSum rfl _ _ rfl w.heap.size (sm 0) _ rfl (by rw [← zeros_sm]; rfl) rfl rfl hone hv0 ?_)
    refine bodyPost_ret (v := .tuple #[.agg (sm 0), .bool false]) ?_ rfl ⟨HBAD.out HNS.out, hbel⟩
    simp [results, Try.results50, asAddr, hld]
  by_cases h384 : n = 384
  · subst h384
    have HNS : Hid (¬ Sg N) := fun hs => by
      have h5 := len_ge N 384 h0 HLEN.out (by omega)
      obtain ⟨s1, s2⟩ := hs
      have e : 384 - 1 = 383 := rfl
      rw [e] at h5
      generalize (2 : Int) ^ 383 = P at *
      omega
    clear hbig
    have hone := sm_one 0
    have hbel := below_setRow w.heap.size (sm 0) hvb (Nat.le_refl _)
    have hld : (loadVar 29 ⟨w.heap.size, 0, none⟩).run Try.prog (v.setRow w.heap.size (sm 0)) = .ok (.agg (sm 0)) (v.setRow w.heap.size (sm 0)) :=
      run_loadVar_row _ _ 29 29 _ (0, 0) _ (setRow_heap v w.heap.size _ _ 29 (0, 0) hv0) Try.underlying29 rfl sizeRSum
    go_wp2_with (refine wpList_store6 29 sizeRSum rfl _ _ rfl w.heap.size (sm 0) _ rfl (by rw [← zeros_sm]; rfl) rfl rfl hone hv0 ?_)
    refine bodyPost_ret (v := .tuple #[.agg (sm 0), .bool false]) ?_ rfl ⟨HBAD.out HNS.out, hbel⟩
    simp [results, Try.results50, asAddr, hld]
  · have HSG : Hid (Sg N) := by
      have h5 := HLEN.out.1
      have h6 := pow_mono n 383 (by omega)
      refine ⟨?_, by omega⟩
      have hP := pw 383
      omega
    have hbI : ¬ (384 : Int) < (n : Int) := by omega
    have hne : ¬ (n : Int) = 384 := by omega
    have hneb : ((n : Int) == 384) = false := by simpa using hne
    clear hbig h384
    go_wp2_with (fail)
    refine (rwords_any N a L cap _ hL (HR.out.kept hvb) HZB.out).mono ?_
    rintro e1 w1 ⟨rfl, hw1⟩
    have b1 := below_chain hvb hw1 (Nat.le_refl _)
    have s1 := hw1.size
    have q0 := (hw1.block _ lv).trans hv0
    have honeN := sm_one N
    have hal := heap_alloc_last w1 (.cells #[.int .u64 0, .int .u64 0, .int .u64 0, .int .u64 0, .int .u64 0, .int .u64 0] 29)
    obtain ⟨w2, hw2, b12, s2, q2⟩ := new_sum (W := w1) 29 N
    have b2 := below_chain b1 b12 (Nat.le_refl _)
    have q3 := (b12.block _ (by omega)).trans q0
    have l3 : w.heap.size < w2.heap.size := by omega
    clear hw1 b1 b12 q0 hv0 hvb
    have hbel := below_setRow w.heap.size (sm N) b2 (Nat.le_refl _)
    have hld : (loadVar 29 ⟨w.heap.size, 0, none⟩).run Try.prog (w2.setRow w.heap.size (sm N)) = .ok (.agg (sm N)) (w2.setRow w.heap.size (sm N)) :=
      run_loadVar_row _ _ 29 29 _ (0, 0) _ (setRow_heap w2 w.heap.size _ _ 29 (0, 0) q3) Try.underlying29 rfl sizeRSum
    go_wp2_with (first
      | (refine wpList_store6 29 sizeRSum rfl _ _ rfl w1.heap.size (sm N) _ rfl rfl rfl rfl honeN hal ?_; rw [hw2])
      | (refine wpList_load6 29 _ Try.underlying29 sizeRSum rfl _ rfl w1.heap.size (sm N) rfl rfl q2 ?_)
      | (refine wpList_store6 29 sizeRSum rfl _ _ rfl w.heap.size (sm N) _ rfl rfl rfl rfl honeN q3 ?_))
    refine bodyPost_ret (v := .tuple #[.agg (sm N), .bool true]) ?_ rfl ⟨HGOOD.out HSG.out, hbel⟩
    simp [results, Try.results50, asAddr, hld]
set_option maxHeartbeats 1600000 in
set_option maxRecDepth 8000 in
theorem rwhole_neg (N : Int) (a : Option Addr) (L cap : Nat) (w : World) (hL : L < 4611686018427387904) (h0 : 0 ≤ N) (h1 : N < 2 ^ L) (hr : BR w a L N) :
    Calls Try.prog 50 #[.bool true, .slice a L cap] w fun e w' => e = .returned (.tuple #[.agg (sm (whV (-N))), .bool (whB (-N))]) ∧ Below w.heap.size w w' := by
  obtain ⟨v, hv, hvb, hvs, hv0⟩ : ∃ v, w.alloc (.cells #[.int .u64 0, .int .u64 0, .int .u64 0, .int .u64 0, .int .u64 0, .int .u64 0] 29) = v ∧ Below w.heap.size w v ∧ v.heap.size = w.heap.size + 1 ∧ v.heap[w.heap.size]? = some (.cells (sm 0) 29 (0, 0)) := by
    refine ⟨_, rfl, (Below.refl _ _).alloc (Nat.le_refl _) _, by simp, ?_⟩
    rw [zeros_sm]; exact heap_alloc_last w _
  have lv : w.heap.size < v.heap.size := by omega
  have HR : Hid (BR w a L N) := hr
  have HN2 : Hid (N < 2 ^ L) := h1
  have HZB : Hid (∀ i, L ≤ i → i < 384 → bit N i = 0) := fun i h _ => bit_zero_up N i L h0 HN2.out h
  have HBAD : Hid (¬ Sg (-N) → Ending.returned (.tuple #[.agg (sm 0), .bool false]) = Ending.returned (.tuple #[.agg (sm (whV (-N))), .bool (whB (-N))])) := fun h => by rw [(wh_bad h).1, (wh_bad h).2]
  have HGOOD : Hid (Sg (-N) → Ending.returned (.tuple #[.agg (sm (-N)), .bool true]) = Ending.returned (.tuple #[.agg (sm (whV (-N))), .bool (whB (-N))])) := fun h => by rw [(wh_good h).1, (wh_good h).2]
  clear hr h1
  go_enter Try.func50, Try.ntmps50
  go_wp2_with (fail)
  clear hv
  refine (rsize_any N a L cap _ hL h0 HN2.out (HR.out.kept hvb)).mono ?_
  rintro e0 w0 ⟨⟨n, rfl, hnL, hlen⟩, hw0⟩
  subst w0
  have HLEN : Hid (IsLen N n) := hlen
  clear hlen
  by_cases hbig : 384 < n
  · have HNS : Hid (¬ Sg (-N)) := fun hs => by
      have h5 := len_ge N n h0 HLEN.out (by omega)
      have h6 := pow_mono 384 (n - 1) (by omega)
      rw [p384] at h6
      obtain ⟨s1, s2⟩ := hs
      have hP := pw 383
      generalize (2 : Int) ^ 383 = P at *
      omega
    have hbI : (384 : Int) < (n : Int) := by omega
    clear hbig
    have hone := sm_one 0
    have hbel := below_setRow w.heap.size (sm 0) hvb (Nat.le_refl _)
    have hld : (loadVar 29 ⟨w.heap.size, 0, none⟩).run Try.prog (v.setRow w.heap.size (sm 0)) = .ok (.agg (sm 0)) (v.setRow w.heap.size (sm 0)) :=
      run_loadVar_row _ _ 29 29 _ (0, 0) _ (setRow_heap v w.heap.size _ _ 29 (0, 0) hv0) Try.underlying29 rfl sizeRSum
    go_wp2_with (refine wpList_store6 29 sizeRSum rfl _ _ rfl w.heap.size (sm 0) _ rfl (by rw [← zeros_sm]; rfl) rfl rfl hone hv0 ?_)
    refine bodyPost_ret (v := .tuple #[.agg (sm 0), .bool false]) ?_ rfl ⟨HBAD.out HNS.out, hbel⟩
    simp [results, Try.results50, asAddr, hld]
  by_cases h384 : n = 384
  · subst h384
    have HC : Hid (∀ i, i < 384 → v.cell? ⟨(HR.out (by omega)).choose, i, none⟩ = some (.int .i64 (bit N i))) := fun i hi => by
      have h5 := (HR.out (by omega)).choose_spec
      exact (hvb.cell (p := ⟨_, i, none⟩) h5.2.1).trans (h5.2.2 i (by omega))
    obtain ⟨g, hga, hg⟩ : ∃ g, a = some ⟨g, 0, none⟩ ∧ ∀ i, i < 384 → v.cell? ⟨g, i, none⟩ = some (.int .i64 (bit N i)) := by
      obtain ⟨g, e, h6, h7⟩ := HR.out (by omega)
      exact ⟨g, e, fun i hi => (hvb.cell (p := ⟨g, i, none⟩) h6).trans (h7 i (by omega))⟩
    have HG : Hid (∀ i, i < 384 → v.cell? ⟨g, i, none⟩ = some (.int .i64 (bit N i))) := hg
    clear hg HC
    subst hga
    go_wp2_with (fail)
    go_loop [7] (fun i => ∃ k : Nat, k ≤ 383 ∧ i = .int .i64 k ∧ N % 2 ^ k = 0) (fun i => 383 - (intOf i).toNat)
    case atStart => exact ⟨0, Nat.zero_le _, rfl, by rw [Int.pow_zero, Int.emod_one]⟩
    case round =>
      obtain ⟨k, hk, rfl, hz⟩ := hrel
      have HZK : Hid (N % 2 ^ k = 0) := hz
      clear hz
      by_cases hlt : k < 383
      · have c1 := HG.out k (by omega)
        have hbb := bit_b N k
        have hkL : (k : Int) < (L : Int) := by omega
        by_cases hb : bit N k = 1
        · have HNS : Hid (¬ Sg (-N)) := neg_over N k h0 HLEN.out hlt hb
          rw [hb] at c1
          clear hb hbb
          have hone := sm_one 0
          have hbel := below_setRow w.heap.size (sm 0) hvb (Nat.le_refl _)
          have hld : (loadVar 29 ⟨w.heap.size, 0, none⟩).run Try.prog (v.setRow w.heap.size (sm 0)) = .ok (.agg (sm 0)) (v.setRow w.heap.size (sm 0)) :=
            run_loadVar_row _ _ 29 29 _ (0, 0) _ (setRow_heap v w.heap.size _ _ 29 (0, 0) hv0) Try.underlying29 rfl sizeRSum
          go_wp2_with (refine wpList_store6 29 sizeRSum rfl _ _ rfl w.heap.size (sm 0) _ rfl (by rw [← zeros_sm]; rfl) rfl rfl hone hv0 ?_)
          refine bodyPost_ret (v := .tuple #[.agg (sm 0), .bool false]) ?_ rfl ⟨HBAD.out HNS.out, hbel⟩
          simp [results, Try.results50, asAddr, hld]
        · have hb0 : bit N k = 0 := by omega
          have HX : Hid (N % 2 ^ (k + 1) = 0) := by show _ = _; rw [low_bit, hb0, HZK.out]; simp
          rw [hb0] at c1
          clear hb hbb hb0
          go_wp2
          go_round
          case rel => exact ⟨k + 1, by omega, by go_num, HX.out⟩
          case measure => simp [intOf]; omega
      · obtain rfl : k = 383 := by omega
        have HSG : Hid (Sg (-N)) := neg_just N h0 HLEN.out.1 HZK.out
        go_wp2_with (fail)
        refine (rwords_any N (some ⟨g, 0, none⟩) L cap _ hL (HR.out.kept hvb) HZB.out).mono ?_
        rintro e1 w1 ⟨rfl, hw1⟩
        have b1 := below_chain hvb hw1 (Nat.le_refl _)
        have s1 := hw1.size
        have q0 := (hw1.block _ lv).trans hv0
        have honeN := sm_one N
        have hal := heap_alloc_last w1 (.cells #[.int .u64 0, .int .u64 0, .int .u64 0, .int .u64 0, .int .u64 0, .int .u64 0] 29)
        obtain ⟨w2, hw2, b12, s2, q2⟩ := new_sum (W := w1) 29 N
        have b2 := below_chain b1 b12 (Nat.le_refl _)
        have q3 := (b12.block _ (by omega)).trans q0
        have l3 : w.heap.size < w2.heap.size := by omega
        clear hw1 b1 b12 q0 hv0 hvb
        go_wp2_with (first
          | (refine wpList_store6 29 sizeRSum rfl _ _ rfl w1.heap.size (sm N) _ rfl rfl rfl rfl honeN hal ?_; rw [hw2])
          | (refine wpList_load6 29 _ Try.underlying29 sizeRSum rfl _ rfl w1.heap.size (sm N) rfl rfl q2 ?_))
        refine (rneg_any N _).mono ?_
        rintro e4 w4 ⟨rfl, hw4⟩
        have b4 := below_chain b2 hw4 (Nat.le_refl _)
        have q4 := (hw4.block _ l3).trans q3
        have hone := sm_one (-N)
        have hbel := below_setRow w.heap.size (sm (-N)) b4 (Nat.le_refl _)
        have hld : (loadVar 29 ⟨w.heap.size, 0, none⟩).run Try.prog (w4.setRow w.heap.size (sm (-N))) = .ok (.agg (sm (-N))) (w4.setRow w.heap.size (sm (-N))) :=
          run_loadVar_row _ _ 29 29 _ (0, 0) _ (setRow_heap w4 w.heap.size _ _ 29 (0, 0) q4) Try.underlying29 rfl sizeRSum
        clear hw4 b4 b2 q3 q2
        go_wp2_with (refine wpList_store6 29 sizeRSum rfl _ _ rfl w.heap.size (sm (-N)) _ rfl rfl rfl rfl hone q4 ?_)
        refine bodyPost_ret (v := .tuple #[.agg (sm (-N)), .bool true]) ?_ rfl ⟨HGOOD.out HSG.out, hbel⟩
        simp [results, Try.results50, asAddr, hld]
  · have HSG : Hid (Sg (-N)) := by
      have h5 := HLEN.out.1
      have h6 := pow_mono n 383 (by omega)
      refine ⟨by omega, ?_⟩
      have hP := pw 383
      omega
    have hbI : ¬ (384 : Int) < (n : Int) := by omega
    have hne : ¬ (n : Int) = 384 := by omega
    have hneb : ((n : Int) == 384) = false := by simpa using hne
    clear hbig h384
    go_wp2_with (fail)
    refine (rwords_any N a L cap _ hL (HR.out.kept hvb) HZB.out).mono ?_
    rintro e1 w1 ⟨rfl, hw1⟩
    have b1 := below_chain hvb hw1 (Nat.le_refl _)
    have s1 := hw1.size
    have q0 := (hw1.block _ lv).trans hv0
    have honeN := sm_one N
    have hal := heap_alloc_last w1 (.cells #[.int .u64 0, .int .u64 0, .int .u64 0, .int .u64 0, .int .u64 0, .int .u64 0] 29)
    obtain ⟨w2, hw2, b12, s2, q2⟩ := new_sum (W := w1) 29 N
    have b2 := below_chain b1 b12 (Nat.le_refl _)
    have q3 := (b12.block _ (by omega)).trans q0
    have l3 : w.heap.size < w2.heap.size := by omega
    clear hw1 b1 b12 q0 hv0 hvb
    go_wp2_with (first
      | (refine wpList_store6 29 sizeRSum rfl _ _ rfl w1.heap.size (sm N) _ rfl rfl rfl rfl honeN hal ?_; rw [hw2])
      | (refine wpList_load6 29 _ Try.underlying29 sizeRSum rfl _ rfl w1.heap.size (sm N) rfl rfl q2 ?_))
    refine (rneg_any N _).mono ?_
    rintro e4 w4 ⟨rfl, hw4⟩
    have b4 := below_chain b2 hw4 (Nat.le_refl _)
    have q4 := (hw4.block _ l3).trans q3
    have hone := sm_one (-N)
    have hbel := below_setRow w.heap.size (sm (-N)) b4 (Nat.le_refl _)
    have hld : (loadVar 29 ⟨w.heap.size, 0, none⟩).run Try.prog (w4.setRow w.heap.size (sm (-N))) = .ok (.agg (sm (-N))) (w4.setRow w.heap.size (sm (-N))) :=
      run_loadVar_row _ _ 29 29 _ (0, 0) _ (setRow_heap w4 w.heap.size _ _ 29 (0, 0) q4) Try.underlying29 rfl sizeRSum
    clear hw4 b4 b2 q3 q2
    go_wp2_with (refine wpList_store6 29 sizeRSum rfl _ _ rfl w.heap.size (sm (-N)) _ rfl rfl rfl rfl hone q4 ?_)
    refine bodyPost_ret (v := .tuple #[.agg (sm (-N)), .bool true]) ?_ rfl ⟨HGOOD.out HSG.out, hbel⟩
    simp [results, Try.results50, asAddr, hld]
end Ty
end Go.Proofs.Ytbnmjmlcedkoaaa
