import Derived.Test.YtlhpnhjfibkgpabWpC
namespace Go.Proofs.Ytlhpnhjfibkgpab
namespace Wp
open Go.RowKit
set_option linter.unusedVariables false
set_option maxRecDepth 8000
set_option maxHeartbeats 1000000 in
theorem num_any (e : Int) (w : World) : Calls Try.prog 9 #[.int .i64 e] w fun e' w' => e' = .returned (.int .i64 e) ∧ w' = w := by
  go_enter Try.func9, Try.ntmps9
  go_wp2
  go_ret
  exact ⟨rfl, rfl⟩
/-- The words from W up to j are noughts. -/
def cl (s : Nat → Int) (W j : Nat) : Nat → Int := fun i => if W ≤ i ∧ i < j then 0 else s i
theorem cl_self (s : Nat → Int) (W : Nat) : cl s W W = s := by funext i; unfold cl; rw [if_neg (by omega)]
theorem cl_up (s : Nat → Int) (W j : Nat) (h : W ≤ j) : up (cl s W j) j 0 = cl s W (j + 1) := by
  funext i
  unfold up cl
  by_cases hi : i = j
  · rw [if_pos hi, if_pos (by omega)]
  · rw [if_neg hi]
    by_cases h2 : W ≤ i ∧ i < j
    · rw [if_pos h2, if_pos (by omega)]
    · rw [if_neg h2, if_neg (by omega)]
/-- The words that are kept. -/
def ct (s : Nat → Int) (W : Nat) : Nat → Int := cl s W 8
theorem sv_set (s : Nat → Int) (j : Nat) (x : Int) (h : j < 8) : (sv s).setIfInBounds j (.int .u64 x) = sv (up s j x) := by
  match j, h with
  | 0, _ => simp [up]
  | 1, _ => simp [up]
  | 2, _ => simp [up]
  | 3, _ => simp [up]
  | 4, _ => simp [up]
  | 5, _ => simp [up]
  | 6, _ => simp [up]
  | 7, _ => simp [up]
theorem sv_get (s : Nat → Int) (j : Nat) (h : j < 8) : (sv s)[j]? = some (.int .u64 (s j)) := by
  match j, h with
  | 0, _ => rfl
  | 1, _ => rfl
  | 2, _ => rfl
  | 3, _ => rfl
  | 4, _ => rfl
  | 5, _ => rfl
  | 6, _ => rfl
  | 7, _ => rfl
theorem k8c {w : World} {b : Nat} {s : Nat → Int} {t : TypeId} (h : w.heap[b]? = some (.cells (sv s) t (0, 0))) (j : Nat) (hj : j < 8) : w.cell? ⟨b, j, none⟩ = some (.int .u64 (s j)) := (cell_of_row w b j _ t (0, 0) h).trans (sv_get s j hj)
theorem set8 {w : World} {b : Nat} {s : Nat → Int} {t : TypeId} (h : w.heap[b]? = some (.cells (sv s) t (0, 0))) (j : Nat) (hj : j < 8) (x : Int) : w.setCell ⟨b, j, none⟩ (.int .u64 x) = w.setRow b (sv (up s j x)) := by
  rw [setCell_eq_setRow w b j (sv s) t (0, 0) _ h, sv_set s j x hj]
set_option maxHeartbeats 2000000 in
theorem cut_any (s : Nat → Int) (W : Nat) (hW : W ≤ 8) (w : World) : Calls Try.prog 28 #[.agg (sv s), .int .i64 (W : Int)] w fun e w' => e = .returned (.agg (sv (ct s W))) ∧ Below w.heap.size w w' := by
  have h0 : Hid (Below w.heap.size w ((w.alloc (.cells (sv s) 36)).alloc (.cells z8 36))) := by repeat first | exact Below.refl _ _ | refine bA ?_ (by first | exact Nat.le_refl _ | (simp only [World.size_alloc]; omega)) _
  have h1 : Hid (((w.alloc (.cells (sv s) 36)).alloc (.cells z8 36)).heap[w.heap.size]? = some (.cells (sv s) 36 (0, 0))) := keep _ (at0 _ _)
  have h2 : Hid (((w.alloc (.cells (sv s) 36)).alloc (.cells z8 36)).heap[w.heap.size + 1]? = some (.cells z8 36 (0, 0))) := by
    have := at0 (w.alloc (.cells (sv s) 36)) (.cells z8 36)
    rw [World.size_alloc] at this; exact this
  go_enter Try.func28, Try.ntmps28
  go_wp2
  go_loopw [5] (fun v wr => ∃ j : Nat, W ≤ j ∧ j ≤ 8 ∧ v = .int .i64 j ∧ Hid (Below w.heap.size w wr) ∧ Hid (wr.heap[w.heap.size]? = some (.cells (sv (cl s W j)) 36 (0, 0))) ∧ Hid (wr.heap[w.heap.size + 1]? = some (.cells z8 36 (0, 0)))) (fun v _ => 8 - (intOf v).toNat)
  case atStart => exact ⟨W, Nat.le_refl _, hW, rfl, h0, by rw [cl_self]; exact h1, h2⟩
  case round =>
    obtain ⟨j, hj0, hj, rfl, HB, H1, H2⟩ := hrel
    by_cases c : j < 8
    · have hc := k8c H1.out j c
      have hf := frozen_of_row wr w.heap.size j _ 36 H1.out
      have hs := set8 H1.out j c 0
      go_wp2
      refine ⟨⟨j + 1, by omega, by omega, by first | rfl | (congr 1), below_setRow HB.out (Nat.le_refl _) _, ?_, ?_⟩, by simp [intOf]; omega⟩
      · rw [cl_up s W j hj0]
        exact setRow_heap wr w.heap.size _ _ 36 (0, 0) H1.out
      · exact (setRow_other wr _ _ _ (by omega)).trans H2.out
    · have hj8 : j = 8 := by omega
      have c2 : ¬ ((j : Int) < 8) := by omega
      have H3 : Hid (wr.heap[w.heap.size]? = some (.cells (sv (ct s W)) 36 (0, 0))) := by rw [hj8] at H1; exact H1
      obtain ⟨q, hq⟩ : ∃ q, ct s W = q := ⟨_, rfl⟩
      have HQ := hide hq
      rw [hq] at H3
      clear hq
      have hk := k8 H3.out
      have hk2 := k8 (c := fun _ => 0) H2.out
      have hf := f8 H2.out
      clear hj8 c hj hj0
      go_wp2
      rw [sets8 H2.out rfl]
      refine bodyPost_ret (v := .agg (sv q)) ?_ rfl ⟨by rw [HQ.out], below_setRow HB.out (by omega) _⟩
      simp only [results, Try.results28, asAddr]
      simp [run_loadVar_row _ _ 36 36 _ (0, 0) _ (setRow_heap _ _ _ (sv q) 36 (0, 0) H2.out) Try.underlying36 rfl size35]
set_option maxHeartbeats 2000000 in
theorem mon_none (s : Nat → Int) (b : Int) (w : World) : Calls Try.prog 36 #[.int .i64 0, .agg (sv s), .int .i64 0, .int .u64 b] w fun e w' => e = .returned (.agg (sv s)) ∧ Below w.heap.size w w' := by
  go_enter Try.func36, Try.ntmps36
  go_wp2
  all_goals (refine bodyPost_ret (v := .agg (sv s)) ?_ rfl ⟨rfl, by repeat first | exact Below.refl _ _ | refine belowD ?_ | refine belowN ?_ _ | refine bA ?_ (by first | exact Nat.le_refl _ | (simp only [World.size_alloc]; omega)) _⟩)
  all_goals simp only [results, Try.results36, asAddr]
  all_goals go_simp
set_option maxHeartbeats 2000000 in
theorem mon_min2 (s : Nat → Int) (a : Int) (w : World) : Calls Try.prog 36 #[.int .i64 1, .agg (sv s), .int .i64 2, .int .u64 a] w fun e w' => e = .returned (.agg (sv (up s 2 (min (s 2) a)))) ∧ Below w.heap.size w w' := by
  have hE2 : Hid (sv (up s 2 (min (s 2) a)) = #[.int .u64 (s 0), .int .u64 (s 1), .int .u64 (min (s 2) a), .int .u64 (s 3), .int .u64 (s 4), .int .u64 (s 5), .int .u64 (s 6), .int .u64 (s 7)]) := by show _ = _; simp [up]
  go_enter Try.func36, Try.ntmps36
  go_wp2
  all_goals (refine bodyPost_ret (v := .agg (sv (up s 2 (min (s 2) a)))) ?_ rfl ⟨rfl, by repeat first | exact Below.refl _ _ | refine belowD ?_ | refine belowN ?_ _ | refine bA ?_ (by first | exact Nat.le_refl _ | (simp only [World.size_alloc]; omega)) _⟩)
  all_goals simp only [results, Try.results36, asAddr, hE2.out]
  all_goals go_simp
  all_goals omega
end Wp
end Go.Proofs.Ytlhpnhjfibkgpab
