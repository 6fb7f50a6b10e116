import Derived.Test.YtbnmjmlcedkoaabDoorTySg
namespace Go.Proofs.YtbnmjmlcedkoaabDoor
namespace Ty
open Go.RowKit
set_option linter.unusedVariables false
def cp (x y : Int) : Int := if x < y then -1 else if y < x then 1 else 0
theorem nan_i (x : Int) (w : World) : Calls Tryd.prog 47 #[.int .i64 x] w fun e w' => e = .returned (.bool false) ∧ w' = w := by
  go_enter Tryd.func47, Tryd.ntmps47
  go_wp2
  go_ret
  exact ⟨by simp, rfl⟩
theorem nan_u (x : Int) (w : World) : Calls Tryd.prog 48 #[.int .u64 x] w fun e w' => e = .returned (.bool false) ∧ w' = w := by
  go_enter Tryd.func48, Tryd.ntmps48
  go_wp2
  go_ret
  exact ⟨by simp, rfl⟩
theorem cmp_i (x y : Int) (w : World) : Calls Tryd.prog 29 #[.int .i64 x, .int .i64 y] w fun e w' => e = .returned (.int .i64 (cp x y)) ∧ w' = w := by
  have HC : Hid (cp x y = if x < y then -1 else if y < x then 1 else 0) := rfl
  go_enter Tryd.func29, Tryd.ntmps29
  go_wp2_with ((go_at_call 47; refine (nan_i _ _).mono ?_; rintro e9 w9 ⟨rfl, hw9⟩; subst w9))
  all_goals
    go_ret
    refine ⟨ret_int ?_, rfl⟩
    rw [HC.out]
    first
      | rw [if_pos (by omega)]
      | rw [if_neg (by omega), if_pos (by omega)]
      | rw [if_neg (by omega), if_neg (by omega)]
theorem cmp_u (x y : Int) (w : World) : Calls Tryd.prog 30 #[.int .u64 x, .int .u64 y] w fun e w' => e = .returned (.int .i64 (cp x y)) ∧ w' = w := by
  have HC : Hid (cp x y = if x < y then -1 else if y < x then 1 else 0) := rfl
  go_enter Tryd.func30, Tryd.ntmps30
  go_wp2_with ((go_at_call 48; refine (nan_u _ _).mono ?_; rintro e9 w9 ⟨rfl, hw9⟩; subst w9))
  all_goals
    go_ret
    refine ⟨ret_int ?_, rfl⟩
    rw [HC.out]
    first
      | rw [if_pos (by omega)]
      | rw [if_neg (by omega), if_pos (by omega)]
      | rw [if_neg (by omega), if_neg (by omega)]
theorem div_lt {A B P : Int} (hP : 0 < P) (h : A / P < B / P) : A < B := by
  by_cases h2 : A < B
  · exact h2
  · have := Int.ediv_le_ediv hP (show B ≤ A by omega); omega
theorem cp_div {A B P : Int} (hP : 0 < P) (h : ¬ A / P = B / P) : cp (A / P) (B / P) = cp A B := by
  unfold cp
  rcases Int.lt_or_gt_of_ne h with h1 | h1
  · rw [if_pos h1, if_pos (div_lt hP h1)]
  · have := div_lt hP h1
    rw [if_neg (by omega), if_pos h1, if_neg (by omega), if_pos this]
theorem cp_zero {x y : Int} : cp x y = 0 ↔ x = y := by unfold cp; split <;> try split
                                                       all_goals omega
/-- One word more. -/
theorem div_step (A : Int) (j : Nat) : A / 2 ^ (64 * j) = A / 2 ^ (64 * (j + 1)) * 18446744073709551616 + wd A j := by
  unfold wd
  rw [show 64 * (j + 1) = 64 * j + 64 from by omega, Int.pow_add, two64, ← Int.ediv_ediv_of_nonneg (Int.le_of_lt (pw _))]
  generalize A / 2 ^ (64 * j) = q
  omega
theorem cp_step (A B : Int) (j : Nat) (h : A / 2 ^ (64 * (j + 1)) = B / 2 ^ (64 * (j + 1))) : cp (wd A j) (wd B j) = cp (A / 2 ^ (64 * j)) (B / 2 ^ (64 * j)) := by
  rw [div_step A j, div_step B j, h]
  unfold cp
  generalize B / 2 ^ (64 * (j + 1)) * 18446744073709551616 = t
  have e1 : (t + wd A j < t + wd B j) ↔ (wd A j < wd B j) := ⟨fun h => by omega, fun h => by omega⟩
  have e2 : (t + wd B j < t + wd A j) ↔ (wd B j < wd A j) := ⟨fun h => by omega, fun h => by omega⟩
  simp only [e1, e2]
set_option maxHeartbeats 800000 in
theorem compare_any (A B : Int) (ha : Sg A) (hb : Sg B) (w : World) :
    Calls Tryd.prog 14 #[.agg (sm A), .agg (sm B)] w fun e w' => e = .returned (.int .i64 (cp A B)) ∧ Below w.heap.size w w' := by
  obtain ⟨v, hv, hvb, r0, r1⟩ : ∃ v, (w.alloc (.cells (sm A) 27)).alloc (.cells (sm B) 27) = v ∧ Below w.heap.size w v ∧ v.rowIs w.heap.size 27 6 (fun i => .int .u64 (wd A i)) ∧ v.rowIs (w.heap.size + 1) 27 6 (fun i => .int .u64 (wd B i)) := by
    obtain ⟨h1, h2⟩ := heap_two w (.cells (sm A) 27) (.cells (sm B) 27)
    exact ⟨_, rfl, ((Below.refl _ _).alloc (Nat.le_refl _) _).alloc (by simp) _, row_sm h1, row_sm h2⟩
  have c0 := r0.cell (show 5 < 6 by omega)
  have c1 := r1.cell (show 5 < 6 by omega)
  have e0 := wd5 A ha
  have e1 := wd5 B hb
  have HC : Hid (v.rowIs w.heap.size 27 6 (fun i => .int .u64 (wd A i)) ∧ v.rowIs (w.heap.size + 1) 27 6 (fun i => .int .u64 (wd B i))) := ⟨r0, r1⟩
  obtain ⟨p, hp⟩ : ∃ p, p = A / 2 ^ (64 * 5) := ⟨_, rfl⟩
  obtain ⟨q, hq⟩ : ∃ q, q = B / 2 ^ (64 * 5) := ⟨_, rfl⟩
  have HQ : Hid (¬ p = q → cp p q = cp A B) := fun h => by rw [hp, hq] at *; exact cp_div (pw _) h
  have HD : Hid (p = q → A / 2 ^ (64 * (5 - 0)) = B / 2 ^ (64 * (5 - 0))) := fun h => by rw [hp, hq] at h; exact h
  rw [← hp] at e0
  rw [← hq] at e1
  clear hp hq
  clear r0 r1
  generalize sm A = ca at *
  generalize sm B = cb at *
  go_enter Tryd.func14, Tryd.ntmps14
  by_cases hpq : p = q
  · have hc0 : (cp p q != 0) = false := by rw [cp_zero.2 hpq]; rfl
    have HPQ : Hid (p = q) := hpq
    clear hpq
    go_wp2_with ((go_at_call 29; refine (cmp_i _ _ _).mono ?_; rintro e9 w9 ⟨rfl, hw9⟩; subst w9))
    go_loopw [18] (fun i wr => ∃ k : Nat, k ≤ 5 ∧ i = .int .i64 k ∧ A / 2 ^ (64 * (5 - k)) = B / 2 ^ (64 * (5 - k)) ∧ ∃ m, wr = v.drewN m) (fun i _ => 5 - (intOf i).toNat)
    case atStart => exact ⟨0, Nat.zero_le _, rfl, HD.out HPQ.out, 0, rfl⟩
    case round =>
      clear HQ HD HPQ e0 e1 c0 c1 hc0
      obtain ⟨k, hk, rfl, hE, m, rfl⟩ := hrel
      have HE : Hid (A / 2 ^ (64 * (5 - k)) = B / 2 ^ (64 * (5 - k))) := hE
      clear hE
      by_cases hlt : k < 5
      · obtain ⟨j, hj⟩ : ∃ j : Nat, j = 4 - k := ⟨_, rfl⟩
        have hidx : (4 : Int) - (k : Int) = (j : Int) := by omega
        have c0 := HC.out.1.cell (show j < 6 by omega)
        have c1 := HC.out.2.cell (show j < 6 by omega)
        have e5 : 5 - k = j + 1 := by omega
        have HS : Hid (cp (wd A j) (wd B j) = cp (A / 2 ^ (64 * j)) (B / 2 ^ (64 * j))) := cp_step A B j (by rw [← e5]; exact HE.out)
        have HN : Hid (A / 2 ^ (64 * j) = B / 2 ^ (64 * j) → A / 2 ^ (64 * (5 - (k + 1))) = B / 2 ^ (64 * (5 - (k + 1)))) := fun h => by rw [show 5 - (k + 1) = j from by omega]; exact h
        have hj6 : j < 6 := by omega
        have hwj : IntKind.i64.wrap (j : Int) = (j : Int) := by rw [IntKind.wrap_i64]; omega
        have hj8 : (j : Int) < 6 := by omega
        clear e5 hj
        generalize wd A j = x at *
        generalize wd B j = y at *
        by_cases hxy : A / 2 ^ (64 * j) = B / 2 ^ (64 * j)
        · have hc1 : (cp x y != 0) = false := by rw [HS.out, cp_zero.2 hxy]; rfl
          have HX : Hid (A / 2 ^ (64 * j) = B / 2 ^ (64 * j)) := hxy
          clear hxy
          go_wp2_with (fail)
          go_region_held (fun w' => w'.cell? ⟨w.heap.size, j, none⟩ = some (.int .u64 x) ∧ w'.cell? ⟨w.heap.size + 1, j, none⟩ = some (.int .u64 y)) (first | exact ⟨c0, c1⟩ | assumption)
            ((go_at_call 30; refine (cmp_u _ _ _).mono ?_; rintro e9 w9 ⟨rfl, hw9⟩; subst w9))
          all_goals (go_wp2; exact ⟨⟨k + 1, by omega, by go_num, HN.out HX.out, m + 1, rfl⟩, by simp [intOf]; omega⟩)
        · have hc1 : (cp x y != 0) = true := by
            rw [HS.out]; simp only [bne_iff_ne, ne_eq]; exact fun h => hxy (cp_zero.1 h)
          have HX : Hid (cp x y = cp A B) := HS.out.trans (cp_div (pw _) hxy)
          clear hxy
          go_wp2_with (fail)
          go_region_held (fun w' => w'.cell? ⟨w.heap.size, j, none⟩ = some (.int .u64 x) ∧ w'.cell? ⟨w.heap.size + 1, j, none⟩ = some (.int .u64 y)) (first | exact ⟨c0, c1⟩ | assumption)
            ((go_at_call 30; refine (cmp_u _ _ _).mono ?_; rintro e9 w9 ⟨rfl, hw9⟩; subst w9))
          all_goals
            go_wp2
            go_ret
            exact ⟨ret_int HX.out, below_drewN hvb (m + 1)⟩
      · obtain rfl : k = 5 := by omega
        have hAB : A = B := by
          have h := HE.out
          simpa using h
        have HZ : Hid (cp A B = 0) := cp_zero.2 hAB
        clear hAB
        go_wp2
        go_ret
        exact ⟨ret_int HZ.out.symm, below_drewN hvb m⟩
  · have hc0 : (cp p q != 0) = true := by simp only [bne_iff_ne, ne_eq]; exact fun h => hpq (cp_zero.1 h)
    have HX : Hid (cp p q = cp A B) := HQ.out hpq
    clear HQ HD hpq
    go_wp2_with ((go_at_call 29; refine (cmp_i _ _ _).mono ?_; rintro e9 w9 ⟨rfl, hw9⟩; subst w9))
    go_ret
    exact ⟨ret_int HX.out, hvb⟩
end Ty
end Go.Proofs.YtbnmjmlcedkoaabDoor
