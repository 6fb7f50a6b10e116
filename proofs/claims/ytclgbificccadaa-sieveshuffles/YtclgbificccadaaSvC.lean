import Derived.Test.YtclgbificccadaaSvB
import Derived.Deep.RegionHeld3
namespace Go.Proofs.Ytclgbificccadaa
namespace Sv
open Go.RowKit
set_option linter.unusedVariables false
theorem u2i (z : Int) (h0 : 0 ≤ z) (h1 : z ≤ 4294967295) : IntKind.i64.wrap z = z := wrap_small z h0 (by omega)
set_option maxHeartbeats 1000000 in
theorem rpart_any (n k v : Int) (h : Rg n k ∨ n ≤ v) (h0 : 0 ≤ v) (h1 : v ≤ 4294967295) (w : World) : Calls Try.prog 19 #[rg n k, .int .u32 v] w fun e w' => e = .returned (.int .i64 (pt n k v)) ∧ Below w.heap.size w w' := by
  by_cases hv : n ≤ v
  · rw [pt_none hv]
    go_enter Try.func19, Try.ntmps19
    go_wp2
    go_ret
    exact ⟨rfl, b1 _ _ _⟩
  replace h : Rg n k := h.resolve_right hv
  obtain ⟨k1, k2, k3, k4⟩ := id h
  obtain ⟨p0, p1⟩ := pt_b h h0 (by omega)
  have HP : Hid (pt n k v = if v < n % k * (n / k + 1) then v / (n / k + 1) else n % k + (v - n % k * (n / k + 1)) / (n / k)) := if_neg hv
  obtain ⟨a, b, c, d, e0, f0, g0⟩ := h.facts
  clear g0
  have hw0 := u2i n (by omega) (by omega)
  have hwv := u2i v (by omega) (by omega)
  have hk0 : (k == 0) = false := by simp; omega
  have hq : Int.tdiv n k = n / k := Int.tdiv_eq_ediv_of_nonneg (by omega)
  have hr : Int.tmod n k = n % k := Int.tmod_eq_emod_of_nonneg (by omega)
  have hq1 := u2i (n / k) (by omega) (by omega)
  have hr1 := u2i (n % k) (by omega) (by omega)
  clear h
  generalize pt n k v = P at *
  generalize hN : n / k = q at *
  generalize hM : n % k = r at *
  clear hN hM
  have hw1 := u2i (q + 1) (by omega) (by omega)
  have hw2 := u2i (r * (q + 1)) (by omega) (by omega)
  by_cases hx : v < r * (q + 1)
  · have HP' : Hid (P = v / (q + 1)) := HP.out.trans (if_pos hx)
    have hz : (q + 1 == 0) = false := by simp; omega
    have ht : Int.tdiv v (q + 1) = v / (q + 1) := Int.tdiv_eq_ediv_of_nonneg (by omega)
    have hw4 := wrap_small (v / (q + 1)) (by rw [← HP'.out]; omega) (by rw [← HP'.out]; omega)
    clear HP
    generalize hA : r * (q + 1) = A at *
    go_enter Try.func19, Try.ntmps19
    go_wp2
    go_ret
    refine ⟨ret_int ?_, b1 _ _ _⟩
    exact HP'.out.symm
  · have HP' : Hid (P = r + (v - r * (q + 1)) / q) := HP.out.trans (if_neg hx)
    generalize hA : r * (q + 1) = A at *
    have hz : (q == 0) = false := by simp; omega
    have ht : Int.tdiv (v - A) q = (v - A) / q := Int.tdiv_eq_ediv_of_nonneg (by omega)
    have hq0 : 0 ≤ (v - A) / q := Int.ediv_nonneg (by omega) (by omega)
    have hs := u2i (v - A) (by omega) (by omega)
    have hw3 := u2i ((v - A) / q) hq0 (by have := HP'.out; omega)
    have hw4 := wrap_small (r + (v - A) / q) (by omega) (by have := HP'.out; omega)
    clear HP
    go_enter Try.func19, Try.ntmps19
    go_wp2
    go_ret
    refine ⟨ret_int ?_, b1 _ _ _⟩
    exact HP'.out.symm
set_option maxHeartbeats 1000000 in
theorem rspan_any (n k p : Int) (h : Rg n k ∨ k = 0) (w : World) : Calls Try.prog 21 #[rg n k, .int .i64 p] w fun e w' => Below w.heap.size w w' ∧ e = .returned (.tuple (if p < 0 ∨ k ≤ p then #[.int .u32 0, .int .u32 0] else #[.int .u32 (sta n k p), .int .u32 (sta n k (p + 1))])) := by
  by_cases h1 : p < 0
  · rw [if_pos (.inl h1)]
    go_enter Try.func21, Try.ntmps21
    go_wp2
    go_ret2
    exact ⟨b1 _ _ _, rfl⟩
  by_cases h2 : k ≤ p
  · rw [if_pos (.inr h2)]
    go_enter Try.func21, Try.ntmps21
    go_wp2
    go_ret2
    exact ⟨b1 _ _ _, rfl⟩
  rw [if_neg (by omega)]
  replace h : Rg n k := h.resolve_right (by omega)
  obtain ⟨k1, k2, k3, k4⟩ := id h
  obtain ⟨x0, x1, x2, x3⟩ := sta_b (p := p) h (by omega) (by omega)
  obtain ⟨y0, y1, y2, y3⟩ := sta_b (p := p + 1) h (by omega) (by omega)
  have HN : Hid (sta n k (p + 1) = sta n k p + n / k + (if p < n % k then 1 else 0)) := sta_next n k p
  have hst : Hid (sta n k p = p * (n / k) + min p (n % k)) := rfl
  obtain ⟨a, b, c, d, e0, f0, g0⟩ := h.facts
  clear g0 e0 f0
  have hw0 := u2i n (by omega) (by omega)
  have hk0 : (k == 0) = false := by simp; omega
  have hq : Int.tdiv n k = n / k := Int.tdiv_eq_ediv_of_nonneg (by omega)
  have hr : Int.tmod n k = n % k := Int.tmod_eq_emod_of_nonneg (by omega)
  have hq1 := u2i (n / k) (by omega) (by omega)
  have hr1 := u2i (n % k) (by omega) (by omega)
  clear h
  generalize sta n k (p + 1) = S1 at *
  generalize sta n k p = S0 at *
  generalize hN : n / k = q at *
  generalize hM : n % k = r at *
  clear hN hM
  have hw1 := u2i (p * q) (by omega) (by omega)
  generalize hA : p * q = A at *
  by_cases hm : p < r
  · have hmin : min p r = p := by omega
    have e0 : Hid (S0 = A + p) := by rw [hst.out, hmin]; exact rfl
    have e1 : Hid (A + p + q + 1 = S1) := by rw [HN.out, hst.out, hmin, if_pos hm]; exact rfl
    go_enter Try.func21, Try.ntmps21
    go_wp2
    all_goals go_ret2
    all_goals exact ⟨b1 _ _ _, ret_two (by have := e0.out; omega) (by have := e0.out; have := e1.out; omega)⟩
  · have hmin : min p r = r := by omega
    have e0 : Hid (S0 = A + r) := by rw [hst.out, hmin]; exact rfl
    have e1 : Hid (S1 = A + r + q) := by rw [HN.out, hst.out, hmin, if_neg hm, Int.add_zero]; exact rfl
    go_enter Try.func21, Try.ntmps21
    go_wp2
    all_goals go_ret2
    all_goals exact ⟨b1 _ _ _, ret_two (by have := e0.out; omega) (by have := e0.out; have := e1.out; omega)⟩
/-- Two cells of a block. -/
abbrev S2 (b : Nat) (x y : Value) (w : World) : Prop := w.cell? ⟨b, 0, none⟩ = some x ∧ w.cell? ⟨b, 1, none⟩ = some y
theorem S2.below {b B : Nat} {x y : Value} {w w' : World} (h : S2 b x y w) (hb : Below B w w') (hl : b < B) : S2 b x y w' :=
  ⟨(hb.cell (p := ⟨b, 0, none⟩) hl).trans h.1, (hb.cell (p := ⟨b, 1, none⟩) hl).trans h.2⟩
theorem S2.new (w : World) (x y : Value) (t : TypeId) : S2 w.heap.size x y (w.alloc (.cells #[x, y] t)) := ⟨by simp, by simp⟩
set_option maxHeartbeats 1000000 in
theorem span_any (n k p : Int) (h : Rg n k ∨ k = 0) (w : World) : Calls Try.prog 20 #[rg n k, .int .i64 p] w fun e w' => Below w.heap.size w w' ∧ e = .returned (.tuple (if p < 0 ∨ k ≤ p then #[.int .u32 0, .int .u32 0] else #[.int .u32 (sta n k p), .int .u32 (sta n k (p + 1))])) := by
  by_cases h1 : p < 0
  · rw [if_pos (.inl h1)]
    go_enter Try.func20, Try.ntmps20
    go_wp2
    go_ret2
    exact ⟨b1 _ _ _, rfl⟩
  by_cases h2 : k ≤ p
  · rw [if_pos (.inr h2)]
    go_enter Try.func20, Try.ntmps20
    go_wp2
    go_ret2
    exact ⟨b1 _ _ _, rfl⟩
  rw [if_neg (by omega)]
  replace h : Rg n k := h.resolve_right (by omega)
  obtain ⟨k1, k2, k3, k4⟩ := id h
  have H0 : Hid (∀ w, Calls Try.prog 34 #[rg n k, .int .u32 p] w fun e w' => e = .returned (.int .u32 (sta n k p)) ∧ Below w.heap.size w w') := fun w => start_any n k p h (by omega) (by omega) w
  have H1 : Hid (∀ w, Calls Try.prog 34 #[rg n k, .int .u32 (p + 1)] w fun e w' => e = .returned (.int .u32 (sta n k (p + 1))) ∧ Below w.heap.size w w') := fun w => start_any n k (p + 1) h (by omega) (by omega) w
  have u0 := u32_small p (by omega) (by omega)
  have u1 := u32_small (p + 1) (by omega) (by omega)
  have hS1 := S2.new w (.int .u32 n) (.int .i64 k) 39
  obtain ⟨b, hb⟩ : ∃ b, b = w.heap.size := ⟨_, rfl⟩
  obtain ⟨W, hW⟩ : ∃ W, W = w.alloc (.cells #[.int .u32 n, .int .i64 k] 39) := ⟨_, rfl⟩
  have hbW : Below w.heap.size w W := by rw [hW]; exact b1 _ _ _
  rw [← hW, ← hb] at hS1
  have HW : Hid (W = w.alloc (.cells #[.int .u32 n, .int .i64 k] 39)) := hW
  have HB : Hid (b = w.heap.size) := hb
  have hS : Hid (S2 b (.int .u32 n) (.int .i64 k) W.drew) := hS1
  have hd : Below W.heap.size W W.drew := (Below.refl _ _).drew
  have hl : b < W.heap.size := World.block_lt_of_cell? _ _ hS1.1
  clear hW hb hS1
  clear h
  generalize sta n k (p + 1) = S1 at *
  generalize sta n k p = S0 at *
  go_enter Try.func20, Try.ntmps20
  go_wp2
  rw [← HW.out, ← HB.out]
  clear HW HB
  go_region_held3 (S2 b (.int .u32 n) (.int .i64 k)) ((with_reducible exact hS.out))
    ((first
      | (have hg := o5; clear hg; go_at_call 34; refine (H1.out _).mono ?_; rintro e6 w6 ⟨rfl, o6⟩; (have b6 := hd.trans (o6.mono hd.size)); (replace hS : Hid (S2 b (.int .u32 n) (.int .i64 k) w6) := S2.below hS.out o6 (Nat.lt_of_lt_of_le hl hd.size)))
      | (go_at_call 34; refine (H0.out _).mono ?_; rintro e5 w5 ⟨rfl, o5⟩; (replace hS : Hid (S2 b (.int .u32 n) (.int .i64 k) w5) := S2.below hS.out o5 hl); (replace hd := hd.trans (o5.mono hd.size))))
    )
  go_wp2
  go_ret2
  exact ⟨hbW.trans (b6.mono hbW.size), rfl⟩
end Sv
end Go.Proofs.Ytclgbificccadaa
