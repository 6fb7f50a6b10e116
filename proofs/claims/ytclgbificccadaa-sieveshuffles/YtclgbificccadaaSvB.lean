import Derived.Test.YtclgbificccadaaSvA
import Derived.Below
namespace Go.Proofs.Ytclgbificccadaa
namespace Sv
open Go.RowKit
set_option linter.unusedVariables false
/-- The ranges of n vertices in k parts, as a value. -/
abbrev rg (n k : Int) : Value := .agg #[.int .u32 n, .int .i64 k]
/-- Numbers that Ranges may have. -/
def Rg (n k : Int) : Prop := 1 ≤ k ∧ k ≤ 512 ∧ k ≤ n ∧ n ≤ 2147483647
/-- When Split refuses. -/
def Bad (n k : Int) : Prop := n < 1 ∨ 2147483647 < n ∨ k < 1 ∨ 512 < k ∨ n < k
theorem Rg.of {n k : Int} (h : ¬ Bad n k) : Rg n k := by unfold Bad at h; unfold Rg; omega
theorem Bad.not {n k : Int} (h : Bad n k) (h' : Rg n k) : False := by unfold Bad at h; unfold Rg at h'; omega
/-- The part of a vertex. -/
def pt (n k v : Int) : Int := if n ≤ v then -1 else if v < n % k * (n / k + 1) then v / (n / k + 1) else n % k + (v - n % k * (n / k + 1)) / (n / k)
/-- How many vertices the first p parts have. -/
def sta (n k p : Int) : Int := p * (n / k) + min p (n % k)
theorem Rg.facts {n k : Int} (h : Rg n k) : 1 ≤ n / k ∧ n / k ≤ n ∧ 0 ≤ n % k ∧ n % k < k ∧ 0 ≤ n % k * (n / k + 1) ∧ n % k * (n / k + 1) ≤ n ∧ n = k * (n / k) + n % k := by
  obtain ⟨h1, h2, h3, h4⟩ := h
  have e := Int.mul_ediv_add_emod n k
  have a : 1 ≤ n / k := by rw [Int.le_ediv_iff_mul_le (by omega)]; omega
  have b : n / k ≤ n := Int.ediv_le_self _ (by omega)
  have c := Int.emod_nonneg n (show k ≠ 0 by omega)
  have d := Int.emod_lt_of_pos n (show 0 < k by omega)
  have f : 0 ≤ n % k * (n / k + 1) := Int.mul_nonneg c (by omega)
  have g : n % k * (n / k) ≤ k * (n / k) := Int.mul_le_mul_of_nonneg_right (by omega) (by omega)
  have g' : n % k * (n / k + 1) = n % k * (n / k) + n % k := by rw [Int.mul_add]; omega
  exact ⟨a, b, c, d, f, by omega, by omega⟩
theorem pt_none {n k v : Int} (h : n ≤ v) : pt n k v = -1 := if_pos h
theorem pt_b {n k v : Int} (h : Rg n k) (h0 : 0 ≤ v) (h1 : v < n) : 0 ≤ pt n k v ∧ pt n k v < k := by
  obtain ⟨a, b, c, d, e, f, g⟩ := h.facts
  unfold pt
  rw [if_neg (by omega)]
  split
  · rename_i hv
    have x0 : 0 ≤ v / (n / k + 1) := Int.ediv_nonneg h0 (by omega)
    have x1 : v / (n / k + 1) < n % k := Int.ediv_lt_of_lt_mul (by omega) hv
    omega
  · rename_i hv
    have x0 : 0 ≤ (v - n % k * (n / k + 1)) / (n / k) := Int.ediv_nonneg (by omega) (by omega)
    have g' : n % k * (n / k + 1) = n % k * (n / k) + n % k := by rw [Int.mul_add]; omega
    have g2 : (k - n % k) * (n / k) = k * (n / k) - n % k * (n / k) := Int.sub_mul _ _ _
    have x1 : (v - n % k * (n / k + 1)) / (n / k) < k - n % k := Int.ediv_lt_of_lt_mul (by omega) (by omega)
    omega
theorem sta_b {n k p : Int} (h : Rg n k) (h0 : 0 ≤ p) (h1 : p ≤ k) : 0 ≤ p * (n / k) ∧ p * (n / k) ≤ n ∧ 0 ≤ sta n k p ∧ sta n k p ≤ n := by
  obtain ⟨a, b, c, d, e, f, g⟩ := h.facts
  have x0 : 0 ≤ p * (n / k) := Int.mul_nonneg h0 (by omega)
  have x1 : p * (n / k) ≤ k * (n / k) := Int.mul_le_mul_of_nonneg_right h1 (by omega)
  unfold sta
  omega
theorem sta_next (n k p : Int) : sta n k (p + 1) = sta n k p + n / k + (if p < n % k then 1 else 0) := by
  unfold sta
  have : (p + 1) * (n / k) = p * (n / k) + n / k := by rw [Int.add_mul]; omega
  split <;> omega
theorem u32_small (z : Int) (h0 : 0 ≤ z) (h1 : z ≤ 4294967295) : IntKind.u32.wrap z = z := by simp only [IntKind.wrap, IntKind.signed, IntKind.bits]; simp; omega
set_option maxHeartbeats 1000000 in
theorem split_any (n k : Int) (hn0 : 0 ≤ n) (hn1 : n ≤ 4294967295) (w : World) : Calls Try.prog 12 #[.int .u32 n, .int .i64 k] w fun e w' =>
    Below w.heap.size w w' ∧ ((Bad n k ∧ e = .returned (.tuple #[rg 0 0, .int .i64 90])) ∨ (Rg n k ∧ e = .returned (.tuple #[rg n k, .int .i64 0]))) := by
  have hb (v) : Below w.heap.size w ((w.alloc (.cells v 39))) := (Below.refl _ w).alloc (Nat.le_refl _) _
  by_cases h0 : 2147483647 < n
  · go_enter Try.func12, Try.ntmps12
    go_wp2
    refine bodyPost_ret (v := .tuple #[rg 0 0, .int .i64 90]) ?_ rfl ⟨by first | exact hb _ | go_grown, .inl ⟨by unfold Bad; omega, rfl⟩⟩
    simp only [results, Try.results12, asAddr]
    go_simp
  by_cases h1 : k < 1
  · go_enter Try.func12, Try.ntmps12
    go_wp2
    refine bodyPost_ret (v := .tuple #[rg 0 0, .int .i64 90]) ?_ rfl ⟨by first | exact hb _ | go_grown, .inl ⟨by unfold Bad; omega, rfl⟩⟩
    simp only [results, Try.results12, asAddr]
    go_simp
  by_cases h2 : 512 < k
  · go_enter Try.func12, Try.ntmps12
    go_wp2
    refine bodyPost_ret (v := .tuple #[rg 0 0, .int .i64 90]) ?_ rfl ⟨by first | exact hb _ | go_grown, .inl ⟨by unfold Bad; omega, rfl⟩⟩
    simp only [results, Try.results12, asAddr]
    go_simp
  have hw := u32_small k (by omega) (by omega)
  by_cases h4 : n < k
  · go_enter Try.func12, Try.ntmps12
    go_wp2
    refine bodyPost_ret (v := .tuple #[rg 0 0, .int .i64 90]) ?_ rfl ⟨by first | exact hb _ | go_grown, .inl ⟨by unfold Bad; omega, rfl⟩⟩
    simp only [results, Try.results12, asAddr]
    go_simp
  go_enter Try.func12, Try.ntmps12
  go_wp2
  refine bodyPost_ret (v := .tuple #[rg n k, .int .i64 0]) ?_ rfl ⟨by first | exact hb _ | go_grown, .inr ⟨by unfold Rg; omega, rfl⟩⟩
  simp only [results, Try.results12, asAddr]
  go_simp
set_option maxHeartbeats 1000000 in
theorem rsplit_any (n k : Int) (hn0 : 0 ≤ n) (hn1 : n ≤ 4294967295) (w : World) : Calls Try.prog 16 #[.int .u32 n, .int .i64 k] w fun e w' =>
    Below w.heap.size w w' ∧ ((Bad n k ∧ e = .returned (.tuple #[rg 0 0, .int .i64 90])) ∨ (Rg n k ∧ e = .returned (.tuple #[rg n k, .int .i64 0]))) := by
  have hb (v) : Below w.heap.size w ((w.alloc (.cells v 53))) := (Below.refl _ w).alloc (Nat.le_refl _) _
  by_cases h0 : n < 1
  · go_enter Try.func16, Try.ntmps16
    go_wp2
    refine bodyPost_ret (v := .tuple #[rg 0 0, .int .i64 90]) ?_ rfl ⟨by first | exact hb _ | go_grown, .inl ⟨by unfold Bad; omega, rfl⟩⟩
    simp only [results, Try.results16, asAddr]
    go_simp
  by_cases h1 : 2147483647 < n
  · go_enter Try.func16, Try.ntmps16
    go_wp2
    refine bodyPost_ret (v := .tuple #[rg 0 0, .int .i64 90]) ?_ rfl ⟨by first | exact hb _ | go_grown, .inl ⟨by unfold Bad; omega, rfl⟩⟩
    simp only [results, Try.results16, asAddr]
    go_simp
  by_cases h2 : k < 1
  · go_enter Try.func16, Try.ntmps16
    go_wp2
    refine bodyPost_ret (v := .tuple #[rg 0 0, .int .i64 90]) ?_ rfl ⟨by first | exact hb _ | go_grown, .inl ⟨by unfold Bad; omega, rfl⟩⟩
    simp only [results, Try.results16, asAddr]
    go_simp
  by_cases h3 : n < k
  · go_enter Try.func16, Try.ntmps16
    go_wp2
    refine bodyPost_ret (v := .tuple #[rg 0 0, .int .i64 90]) ?_ rfl ⟨by first | exact hb _ | go_grown, .inl ⟨by unfold Bad; omega, rfl⟩⟩
    simp only [results, Try.results16, asAddr]
    go_simp
  by_cases h4 : 512 < k
  · go_enter Try.func16, Try.ntmps16
    go_wp2
    refine bodyPost_ret (v := .tuple #[rg 0 0, .int .i64 90]) ?_ rfl ⟨by first | exact hb _ | go_grown, .inl ⟨by unfold Bad; omega, rfl⟩⟩
    simp only [results, Try.results16, asAddr]
    go_simp
  go_enter Try.func16, Try.ntmps16
  go_wp2
  refine bodyPost_ret (v := .tuple #[rg n k, .int .i64 0]) ?_ rfl ⟨by first | exact hb _ | go_grown, .inr ⟨by unfold Rg; omega, rfl⟩⟩
  simp only [results, Try.results16, asAddr]
  go_simp
theorem b1 (w : World) (t : TypeId) (v : Array Value) : Below w.heap.size w (w.alloc (.cells v t)) := (Below.refl _ w).alloc (Nat.le_refl _) _
theorem belowN {B : Nat} {w w' : World} (h : Below B w w') (n : Nat) : Below B w (w'.drewN n) := ⟨h.os, h.tape, h.output, h.size, h.block⟩
set_option maxHeartbeats 1000000 in
theorem parts_any (n k : Int) (w : World) : Calls Try.prog 17 #[rg n k] w fun e w' => e = .returned (.int .i64 k) ∧ Below w.heap.size w w' := by
  go_enter Try.func17, Try.ntmps17
  go_wp2
  go_ret
  exact ⟨rfl, by first | exact (Below.refl _ w).alloc (Nat.le_refl _) _ | go_grown⟩
set_option maxHeartbeats 1000000 in
theorem vertices_any (n k : Int) (w : World) : Calls Try.prog 18 #[rg n k] w fun e w' => e = .returned (.int .u32 n) ∧ Below w.heap.size w w' := by
  go_enter Try.func18, Try.ntmps18
  go_wp2
  go_ret
  exact ⟨rfl, by first | exact (Below.refl _ w).alloc (Nat.le_refl _) _ | go_grown⟩
set_option maxHeartbeats 1000000 in
theorem sizes_any (n k : Int) (h : Rg n k) (w : World) : Calls Try.prog 33 #[rg n k] w fun e w' => e = .returned (.tuple #[.int .u32 (n / k), .int .u32 (n % k)]) ∧ Below w.heap.size w w' := by
  obtain ⟨h1, h2, h3, h4⟩ := id h
  obtain ⟨a, b, c, d, e, f, g⟩ := h.facts
  have hw := u32_small k (by omega) (by omega)
  have hq : Int.tdiv n k = n / k := Int.tdiv_eq_ediv_of_nonneg (by omega)
  have hr : Int.tmod n k = n % k := Int.tmod_eq_emod_of_nonneg (by omega)
  have hq1 := u32_small (n / k) (by omega) (by omega)
  have hr1 := u32_small (n % k) (by omega) (by omega)
  have hk0 : (k == 0) = false := by simp; omega
  clear g e f
  go_enter Try.func33, Try.ntmps33
  go_wp2
  go_quiet (fail)
  go_wp2
  go_ret2
  exact ⟨rfl, belowN (b1 _ _ _) _⟩
theorem b2 (w : World) (t t' : TypeId) (v v' : Array Value) : Below w.heap.size w ((w.alloc (.cells v t)).alloc (.cells v' t')) := (b1 w t v).alloc (by simp) _
set_option maxHeartbeats 1000000 in
theorem start_any (n k p : Int) (h : Rg n k) (h0 : 0 ≤ p) (h1 : p ≤ k) (w : World) : Calls Try.prog 34 #[rg n k, .int .u32 p] w fun e w' => e = .returned (.int .u32 (sta n k p)) ∧ Below w.heap.size w w' := by
  obtain ⟨x0, x1, x2, x3⟩ := sta_b h h0 h1
  obtain ⟨k1, k2, k3, k4⟩ := id h
  obtain ⟨a, b, c, d, e0, f0, g0⟩ := h.facts
  clear e0 f0 g0
  have HS := sizes_any n k h
  have hw1 := u32_small (p * (n / k)) x0 (by omega)
  have hst : Hid (sta n k p = p * (n / k) + min p (n % k)) := rfl
  have hb1 (v) : Below w.heap.size w (w.alloc (.cells v 39)) := (Below.refl _ w).alloc (Nat.le_refl _) _
  generalize hN : n / k = q at *
  generalize hM : n % k = r at *
  generalize hP : p * q = pq at *
  by_cases hm : p ≤ r
  · have hmin : min p r = p := by omega
    go_enter Try.func34, Try.ntmps34
    go_wp2_with (fail)
    refine (HS _).mono ?_
    rintro e9 w9 ⟨rfl, hg⟩
    go_wp2
    go_ret
    refine ⟨ret_int ?_, (hb1 _).trans (hg.mono (hb1 _).size)⟩
    rw [hst.out]; omega
  · have hmin : min p r = r := by omega
    go_enter Try.func34, Try.ntmps34
    go_wp2_with (fail)
    refine (HS _).mono ?_
    rintro e9 w9 ⟨rfl, hg⟩
    go_wp2
    go_ret
    refine ⟨ret_int ?_, (hb1 _).trans (hg.mono (hb1 _).size)⟩
    rw [hst.out]; omega
set_option maxHeartbeats 1000000 in
theorem part_any (n k v : Int) (h : Rg n k ∨ n ≤ v) (h0 : 0 ≤ v) (h1 : v ≤ 4294967295) (w : World) : Calls Try.prog 15 #[rg n k, .int .u32 v] w fun e w' => e = .returned (.int .i64 (pt n k v)) ∧ Below w.heap.size w w' := by
  by_cases hv : n ≤ v
  · rw [pt_none hv]
    go_enter Try.func15, Try.ntmps15
    go_wp2
    go_ret
    exact ⟨rfl, b1 _ _ _⟩
  replace h : Rg n k := h.resolve_right hv
  obtain ⟨k1, k2, k3, k4⟩ := id h
  obtain ⟨p0, p1⟩ := pt_b h h0 (by omega)
  have HP : Hid (pt n k v = if v < n % k * (n / k + 1) then v / (n / k + 1) else n % k + (v - n % k * (n / k + 1)) / (n / k)) := if_neg hv
  obtain ⟨a, b, c, d, e0, f0, g0⟩ := h.facts
  clear g0
  have HS := sizes_any n k h
  have hb1 (v) : Below w.heap.size w (w.alloc (.cells v 39)) := (Below.refl _ w).alloc (Nat.le_refl _) _
  clear h
  generalize pt n k v = P at *
  generalize hN : n / k = q at *
  generalize hM : n % k = r at *
  clear hN hM
  have hw1 := u32_small (q + 1) (by omega) (by omega)
  have hw2 := u32_small (r * (q + 1)) (by omega) (by omega)
  by_cases hx : v < r * (q + 1)
  · have HP' : Hid (P = v / (q + 1)) := HP.out.trans (if_pos hx)
    have hz : (q + 1 == 0) = false := by simp; omega
    have ht : Int.tdiv v (q + 1) = v / (q + 1) := Int.tdiv_eq_ediv_of_nonneg (by omega)
    have hw3 := u32_small (v / (q + 1)) (by rw [← HP'.out]; omega) (by rw [← HP'.out]; omega)
    have hw4 := wrap_small (v / (q + 1)) (by rw [← HP'.out]; omega) (by rw [← HP'.out]; omega)
    clear HP
    generalize hA : r * (q + 1) = A at *
    go_enter Try.func15, Try.ntmps15
    go_wp2_with (fail)
    refine (HS _).mono ?_
    rintro e9 w9 ⟨rfl, hg⟩
    go_wp2
    go_ret
    refine ⟨ret_int ?_, (hb1 _).trans (hg.mono (hb1 _).size)⟩
    exact HP'.out.symm
  · have HP' : Hid (P = r + (v - r * (q + 1)) / q) := HP.out.trans (if_neg hx)
    generalize hA : r * (q + 1) = A at *
    have hz : (q == 0) = false := by simp; omega
    have ht : Int.tdiv (v - A) q = (v - A) / q := Int.tdiv_eq_ediv_of_nonneg (by omega)
    have hq0 : 0 ≤ (v - A) / q := Int.ediv_nonneg (by omega) (by omega)
    have hs := u32_small (v - A) (by omega) (by omega)
    have hw3 := u32_small ((v - A) / q) hq0 (by have := HP'.out; omega)
    have hw5 := u32_small (r + (v - A) / q) (by omega) (by have := HP'.out; omega)
    have hw4 := wrap_small (r + (v - A) / q) (by omega) (by have := HP'.out; omega)
    clear HP
    go_enter Try.func15, Try.ntmps15
    go_wp2_with (fail)
    refine (HS _).mono ?_
    rintro e9 w9 ⟨rfl, hg⟩
    go_wp2
    go_ret
    refine ⟨ret_int ?_, (hb1 _).trans (hg.mono (hb1 _).size)⟩
    exact HP'.out.symm
end Sv
end Go.Proofs.Ytclgbificccadaa
