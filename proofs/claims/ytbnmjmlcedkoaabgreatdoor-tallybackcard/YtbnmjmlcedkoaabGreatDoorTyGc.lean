import Derived.Test.YtbnmjmlcedkoaabGreatDoorTyA
import Derived.Test.YtbnmjmlcedkoaabGreatDoorTyGb
namespace Go.Proofs.YtbnmjmlcedkoaabGreatDoor
namespace Ty
open Go.RowKit
set_option linter.unusedVariables false
/-- A number that a sum can be, with its sign. -/
def Sg (A : Int) : Prop := -(2 ^ 383) ≤ A ∧ A < 2 ^ 383
def fl (A : Int) : Int := if A < 0 then 18446744073709551615 else 0
theorem pow_mono (a b : Nat) (h : a ≤ b) : (2 : Int) ^ a ≤ 2 ^ b := by
  obtain ⟨c, rfl⟩ : ∃ c, b = a + c := ⟨b - a, by omega⟩
  rw [Int.pow_add]
  have h1 := pw a
  have h2 := pw c
  have h3 : (2 : Int) ^ a * 1 ≤ 2 ^ a * 2 ^ c := Int.mul_le_mul_of_nonneg_left (by omega) (by omega)
  omega
theorem ediv_neg_iff {A P : Int} (hP : 0 < P) : A / P < 0 ↔ A < 0 := by
  constructor
  · intro h
    by_cases h2 : A < 0
    · exact h2
    · have := Int.ediv_nonneg (show 0 ≤ A by omega) (Int.le_of_lt hP); omega
  · intro h
    exact Int.ediv_lt_of_lt_mul hP (by omega)
theorem p383 (i : Nat) (h : i ≤ 5) : (2 : Int) ^ 383 = 2 ^ (64 * i) * 2 ^ (383 - 64 * i) := by rw [← Int.pow_add]; congr 1; omega
theorem top_b (A : Int) (h : Sg A) : -9223372036854775808 ≤ A / 2 ^ (64 * 5) ∧ A / 2 ^ (64 * 5) < 9223372036854775808 := by
  obtain ⟨h1, h2⟩ := h
  have e := p383 5 (by omega)
  have e2 : (2 : Int) ^ (383 - 64 * 5) = 9223372036854775808 := by decide
  rw [e2] at e
  rw [e] at h1 h2
  have hP := pw (64 * 5)
  generalize (2 : Int) ^ (64 * 5) = P at *
  constructor
  · exact Int.le_ediv_of_mul_le hP (by rw [Int.neg_mul, Int.mul_comm]; exact h1)
  · exact Int.ediv_lt_of_lt_mul hP (by rw [Int.mul_comm]; exact h2)
theorem top_neg (A : Int) : A / 2 ^ (64 * 5) < 0 ↔ A < 0 := ediv_neg_iff (pw _)
theorem wd5 (A : Int) (h : Sg A) : wrap64 (wd A 5) = A / 2 ^ (64 * 5) := by
  have hb := top_b A h
  unfold wd
  generalize A / 2 ^ (64 * 5) = q at *
  unfold wrap64; omega
theorem wd_high (A : Int) (h : Sg A) (i : Nat) (hi : 6 ≤ i) : wd A i = fl A := by
  unfold wd fl
  obtain ⟨h1, h2⟩ := h
  have hle : (2 : Int) ^ 383 ≤ 2 ^ (64 * i) := pow_mono 383 (64 * i) (by omega)
  have hP := pw (64 * i)
  generalize (2 : Int) ^ (64 * i) = P at *
  split
  · have e1 : A / P < 0 := (ediv_neg_iff hP).2 (by assumption)
    have e2 : -1 ≤ A / P := Int.le_ediv_of_mul_le hP (by omega)
    have : A / P = -1 := by omega
    rw [this]; rfl
  · rw [Int.ediv_eq_zero_of_lt (by omega) (by omega)]; rfl
theorem ret_int {k : IntKind} {a b : Int} (h : a = b) : Ending.returned (.int k a) = .returned (.int k b) := by rw [h]
set_option maxHeartbeats 800000 in
theorem fill_any (A : Int) (h : Sg A) (w : World) :
    Calls Tryz.prog 68 #[.agg (sm A)] w fun e w' => e = .returned (.int .u64 (fl A)) ∧ Below w.heap.size w w' := by
  have hal := row_sm (heap_alloc_last w (.cells (sm A) 25))
  have c5 := hal.cell (show 5 < 6 by omega)
  have hB : Below w.heap.size w (w.alloc (.cells (sm A) 25)) := (Below.refl _ _).alloc (Nat.le_refl _) _
  have e5 := wd5 A h
  have hn := top_neg A
  have ht := top_b A h
  have HF : Hid (IntKind.u64.wrap (A / 2 ^ (64 * 5) / 9223372036854775808) = fl A) := by
    show _ = _
    unfold fl
    generalize A / 2 ^ (64 * 5) = q at *
    rw [IntKind.wrap_u64]
    split
    · have : q < 0 := hn.2 (by assumption)
      omega
    · have : ¬ q < 0 := fun h => by have := hn.1 h; omega
      omega
  have hwb := wd_b A 5
  generalize A / 2 ^ (64 * 5) = q at *
  generalize wd A 5 = x at *
  clear hal h
  generalize sm A = ca at *
  generalize hu : w.alloc (.cells ca 25) = u at *
  go_enter Tryz.func68, Tryz.ntmps68
  go_wp2
  go_ret
  exact ⟨ret_int HF.out, hB⟩
theorem low_eq (A B : Int) (k : Nat) (h : ∀ i, i < k → wd A i = wd B i) : A % 2 ^ (64 * k) = B % 2 ^ (64 * k) := by
  induction k with
  | zero => simp [Int.emod_one]
  | succ k ih =>
    have e1 : (2 : Int) ^ (64 * (k + 1)) = 2 ^ (64 * k) * 18446744073709551616 := by rw [← two64, ← Int.pow_add]; congr 1
    have h1 := ih (fun i hi => h i (by omega))
    have h2 := h k (by omega)
    unfold wd at h2
    rw [e1, low_succ _ _ A (pw _) (by decide), low_succ _ _ B (pw _) (by decide), h1, h2]
theorem sg_eq (A B : Int) (ha : Sg A) (hb : Sg B) (h : A % 2 ^ (64 * 6) = B % 2 ^ (64 * 6)) : A = B := by
  have e : (2 : Int) ^ (64 * 6) = 2 * 2 ^ 383 := by rw [show 64 * 6 = 383 + 1 from rfl, Int.pow_succ, Int.mul_comm]
  rw [e] at h
  obtain ⟨a1, a2⟩ := ha
  obtain ⟨b1, b2⟩ := hb
  have hP := pw 383
  generalize (2 : Int) ^ 383 = P at *
  have h1 := Int.mul_ediv_add_emod A (2 * P)
  have h2 := Int.mul_ediv_add_emod B (2 * P)
  have h3 : A - B = 2 * P * (A / (2 * P) - B / (2 * P)) := by rw [Int.mul_sub]; omega
  generalize A / (2 * P) - B / (2 * P) = d at *
  by_cases h0 : d = 0
  · rw [h0, Int.mul_zero] at h3; omega
  · rcases Int.lt_or_gt_of_ne h0 with h5 | h5
    · have : 2 * P * d ≤ 2 * P * (-1) := Int.mul_le_mul_of_nonneg_left (by omega) (by omega)
      omega
    · have : 2 * P * 1 ≤ 2 * P * d := Int.mul_le_mul_of_nonneg_left (by omega) (by omega)
      omega
theorem same_words (A B : Int) (h : same A B = true) : ∀ i, i < 6 → wd A i = wd B i := by
  unfold same at h
  simp only [Bool.and_eq_true, beq_iff_eq] at h
  obtain ⟨⟨⟨⟨⟨h0, h1⟩, h2⟩, h3⟩, h4⟩, h5⟩ := h
  intro i hi
  match i, hi with
  | 0, _ => exact h0
  | 1, _ => exact h1
  | 2, _ => exact h2
  | 3, _ => exact h3
  | 4, _ => exact h4
  | 5, _ => exact h5
theorem same_iff (A B : Int) (ha : Sg A) (hb : Sg B) : same A B = true ↔ A = B :=
  ⟨fun h => sg_eq A B ha hb (low_eq A B 6 (same_words A B h)), fun h => by rw [h]; exact same_refl B⟩
theorem sg_zero : Sg 0 := ⟨by have := pw 383; omega, pw 383⟩
def sgn (A : Int) : Int := if A < 0 then -1 else if A = 0 then 0 else 1
set_option maxHeartbeats 800000 in
theorem sign_any (A : Int) (h : Sg A) (w : World) :
    Calls Tryz.prog 33 #[.agg (sm A)] w fun e w' => e = .returned (.int .i64 (sgn A)) ∧ Below w.heap.size w w' := by
  obtain ⟨v, hv, hvb, hv0⟩ : ∃ v, w.alloc (.cells (sm A) 25) = v ∧ Below w.heap.size w v ∧ v.heap[w.heap.size]? = some (.cells (sm A) 25 (0, 0)) := ⟨_, rfl, (Below.refl _ _).alloc (Nat.le_refl _) _, heap_alloc_last w _⟩
  have HF : Hid (∀ w, Calls Tryz.prog 68 #[.agg (sm A)] w fun e w' => e = .returned (.int .u64 (fl A)) ∧ Below w.heap.size w w') := fun w => fill_any A h w
  have hEq := eq_sm 25 Tryz.underlying25 A 0
  rw [← zeros_sm] at hEq
  have hsz : (sm A).size = 6 := rfl
  have hs := same_iff A 0 h sg_zero
  generalize same A 0 = sb at *
  generalize sm A = ca at *
  go_enter Tryz.func33, Tryz.ntmps33
  go_wp2_with (refine wpList_load6 25 _ Tryz.underlying25 sizeSum rfl _ rfl w.heap.size ca rfl hsz hv0 ?_)
  refine (HF.out _).mono ?_
  rintro e1 w1 ⟨rfl, hw1⟩
  have b1 : Below w.heap.size w w1 := hvb.trans (hw1.mono hvb.size)
  have q0 := (hw1.block w.heap.size (by have := (Array.getElem?_eq_some_iff.1 hv0).1; omega)).trans hv0
  clear hv hw1 hvb hv0 HF
  by_cases hneg : A < 0
  · have hf : (fl A != 0) = true := by unfold fl; rw [if_pos hneg]; rfl
    have HS : Hid (sgn A = -1) := by show _ = _; unfold sgn; rw [if_pos hneg]
    clear hEq hs
    go_wp2
    go_ret
    exact ⟨ret_int HS.out.symm, b1⟩
  · have hf : (fl A != 0) = false := by unfold fl; rw [if_neg hneg]; rfl
    by_cases hz : A = 0
    · have HS : Hid (sgn A = 0) := by show _ = _; unfold sgn; rw [if_neg hneg, if_pos hz]
      obtain rfl : sb = true := hs.2 hz
      clear hs
      go_wp2_with (refine wpList_load6 25 _ Tryz.underlying25 sizeSum rfl _ rfl w.heap.size ca rfl hsz q0 ?_)
      go_ret
      exact ⟨ret_int HS.out.symm, b1⟩
    · have HS : Hid (sgn A = 1) := by show _ = _; unfold sgn; rw [if_neg hneg, if_neg hz]
      obtain rfl : sb = false := by cases sb with | false => rfl | true => exact absurd (hs.1 rfl) hz
      clear hs
      go_wp2_with (refine wpList_load6 25 _ Tryz.underlying25 sizeSum rfl _ rfl w.heap.size ca rfl hsz q0 ?_)
      go_ret
      exact ⟨ret_int HS.out.symm, b1⟩
end Ty
end Go.Proofs.YtbnmjmlcedkoaabGreatDoor
namespace Go.Proofs.YtbnmjmlcedkoaabGreatDoor
namespace Ty
open Go.RowKit
set_option linter.unusedVariables false
def cp (x y : Int) : Int := if x < y then -1 else if y < x then 1 else 0
theorem div_lt {A B P : Int} (hP : 0 < P) (h : A / P < B / P) : A < B := by
  by_cases h2 : A < B
  · exact h2
  · have := Int.ediv_le_ediv hP (show B ≤ A by omega); omega
theorem cp_div {A B P : Int} (hP : 0 < P) (h : ¬ A / P = B / P) : cp (A / P) (B / P) = cp A B := by
  unfold cp
  rcases Int.lt_or_gt_of_ne h with h1 | h1
  · rw [if_pos h1, if_pos (div_lt hP h1)]
  · have := div_lt hP h1
    rw [if_neg (by omega), if_pos h1, if_neg (by omega), if_pos this]
theorem cp_zero {x y : Int} : cp x y = 0 ↔ x = y := by unfold cp; split <;> try split
                                                       all_goals omega
/-- One word more. -/
theorem div_step (A : Int) (j : Nat) : A / 2 ^ (64 * j) = A / 2 ^ (64 * (j + 1)) * 18446744073709551616 + wd A j := by
  unfold wd
  rw [show 64 * (j + 1) = 64 * j + 64 from by omega, Int.pow_add, two64, ← Int.ediv_ediv_of_nonneg (Int.le_of_lt (pw _))]
  generalize A / 2 ^ (64 * j) = q
  omega
theorem cp_step (A B : Int) (j : Nat) (h : A / 2 ^ (64 * (j + 1)) = B / 2 ^ (64 * (j + 1))) : cp (wd A j) (wd B j) = cp (A / 2 ^ (64 * j)) (B / 2 ^ (64 * j)) := by
  rw [div_step A j, div_step B j, h]
  unfold cp
  generalize B / 2 ^ (64 * (j + 1)) * 18446744073709551616 = t
  have e1 : (t + wd A j < t + wd B j) ↔ (wd A j < wd B j) := ⟨fun h => by omega, fun h => by omega⟩
  have e2 : (t + wd B j < t + wd A j) ↔ (wd B j < wd A j) := ⟨fun h => by omega, fun h => by omega⟩
  simp only [e1, e2]
end Ty
end Go.Proofs.YtbnmjmlcedkoaabGreatDoor
namespace Go.Proofs.YtbnmjmlcedkoaabGreatDoor
namespace Ty
open Go.RowKit
set_option linter.unusedVariables false
theorem pt_step (N n : Int) (t : Nat) (h0 : 0 < n) :
    (N / 2 ^ (64 * (t + 1)) % n * 18446744073709551616 + wd N t) / n = wd (N / n) t ∧ (N / 2 ^ (64 * (t + 1)) % n * 18446744073709551616 + wd N t) % n = N / 2 ^ (64 * t) % n := by
  have hs := div_step N t
  have hw := wd_b N t
  obtain ⟨h1, h2⟩ := dv_two (N / 2 ^ (64 * (t + 1))) (wd N t) 18446744073709551616 n h0
  rw [← hs] at h1 h2
  have hm := Int.emod_nonneg (N / 2 ^ (64 * (t + 1))) (show n ≠ 0 by omega)
  have hm2 := Int.emod_lt_of_pos (N / 2 ^ (64 * (t + 1))) h0
  refine ⟨?_, h2.symm⟩
  obtain ⟨q1, q2, q3, q4⟩ := quo_b hm hm2 hw.1 hw.2
  have e : N / n / 2 ^ (64 * t) = N / 2 ^ (64 * t) / n := by
    rw [Int.ediv_ediv_of_nonneg (by omega), Int.ediv_ediv_of_nonneg (Int.le_of_lt (pw _)), Int.mul_comm]
  have e2 : wd (N / n) t = N / n / 2 ^ (64 * t) % 18446744073709551616 := rfl
  rw [e2, e, h1]
  omega
def QMid (w wr : World) (A n : Int) (i : Nat) : Prop :=
  Below w.heap.size w wr ∧ wr.rowIs w.heap.size 25 6 (fun j => .int .u64 (wd A j)) ∧ wr.rowIs (w.heap.size + 1) 25 6 (fun j => .int .u64 (if 6 ≤ j + i then wd (A / n) j else 0))
theorem qm_start (w : World) (A n : Int) : QMid w ((w.alloc (.cells (sm A) 25)).alloc (.cells (sm 0) 25)) A n 0 := by
  obtain ⟨h1, h2⟩ := heap_two w (.cells (sm A) 25) (.cells (sm 0) 25)
  refine ⟨((Below.refl _ _).alloc (Nat.le_refl _) _).alloc (by simp) _, row_sm h1, (row_sm h2).congr (fun i hi => ?_)⟩
  rw [zero_wd, if_neg (by omega)]
theorem qm_step {w wr : World} {A n : Int} {i : Nat} (hm : QMid w wr A n i) (hi : i < 6) (t : Nat) (ht : t = 5 - i) (m : Nat) : QMid w ((wr.drewN m).setCell ⟨w.heap.size + 1, t, none⟩ (.int .u64 (wd (A / n) t))) A n (i + 1) := by
  obtain ⟨b1, r0', r1'⟩ := hm
  have r0 : (wr.drewN m).rowIs w.heap.size 25 6 (fun j => .int .u64 (wd A j)) := r0'.of_block rfl
  have r1 : (wr.drewN m).rowIs (w.heap.size + 1) 25 6 (fun j => .int .u64 (if 6 ≤ j + i then wd (A / n) j else 0)) := r1'.of_block rfl
  refine ⟨(below_drewN b1 m).setCell (by show w.heap.size ≤ w.heap.size + 1; omega) _, r0.setOther (by show w.heap.size ≠ w.heap.size + 1; omega) _, (r1.set t _).congr (fun j hj => ?_)⟩
  by_cases e : j = t
  · rw [if_pos e, if_pos (by omega), e]
  · rw [if_neg e]
    by_cases h : 6 ≤ j + i
    · rw [if_pos h, if_pos (by omega)]
    · rw [if_neg h, if_neg (by omega)]
set_option maxHeartbeats 1600000 in
theorem parted_any (A n : Int) (h0 : 0 < n) (h1 : n < 18446744073709551616) (a0 : 0 ≤ A) (a1 : A < 2 ^ (64 * 6)) (w : World) :
    Calls Tryz.prog 60 #[.agg (sm A), .int .u64 n] w fun e w' => e = .returned (.tuple #[.agg (sm (A / n)), .int .u64 (A % n)]) ∧ Below w.heap.size w w' := by
  have hq := qm_start w A n
  rw [← zeros_sm] at hq
  generalize hsa : sm A = ca at *
  go_enter Tryz.func60, Tryz.ntmps60
  go_wp2
  go_loopw [5, 8] (fun c i wr => ∃ j : Nat, j ≤ 6 ∧ i = .int .i64 j ∧ c = .int .u64 (A / 2 ^ (64 * (6 - j)) % n) ∧ QMid w wr A n j) (fun _ i _ => 6 - (intOf i).toNat)
  case atStart => exact ⟨0, Nat.zero_le _, rfl, by rw [Int.ediv_eq_zero_of_lt a0 a1, Int.zero_emod], hq⟩
  case round =>
    clear hq hsa
    obtain ⟨j, hj, rfl, rfl, hm⟩ := hrel
    by_cases hlt : j < 6
    · obtain ⟨t, ht⟩ : ∃ t : Nat, t = 5 - j := ⟨_, rfl⟩
      have HM : Hid (∀ m, QMid w ((wr.drewN m).setCell ⟨w.heap.size + 1, t, none⟩ (.int .u64 (wd (A / n) t))) A n (j + 1)) := qm_step hm hlt t ht
      have hidx : (5 : Int) - (j : Int) = (t : Int) := by omega
      have e6 : 6 - j = t + 1 := by omega
      have e7 : 6 - (j + 1) = t := by omega
      rw [e6]
      obtain ⟨p1, p2⟩ := pt_step A n t h0
      have HN : Hid (A / 2 ^ (64 * (6 - (j + 1))) % n = A / 2 ^ (64 * t) % n) := by show _ = _; rw [e7]
      have hm0 := Int.emod_nonneg (A / 2 ^ (64 * (t + 1))) (show n ≠ 0 by omega)
      have hm1 := Int.emod_lt_of_pos (A / 2 ^ (64 * (t + 1))) h0
      obtain ⟨b1, r0, r1⟩ := hm
      have c0 := r0.cell (show t < 6 by omega)
      have c1 := r1.cell (show t < 6 by omega)
      have f1 := r1.frozen t
      have ht6 : (t : Int) < 6 := by omega
      have hwb := wd_b A t
      have HD : Hid (∀ w, Calls Tryz.prog 87 #[.int .u64 (A / 2 ^ (64 * (t + 1)) % n), .int .u64 (wd A t), .int .u64 n] w fun e w' => e = .returned (.tuple #[.int .u64 (wd (A / n) t), .int .u64 (A / 2 ^ (64 * t) % n)]) ∧ ∃ m, w' = w.drewN m) := fun w => by
        have h := div64_any (A / 2 ^ (64 * (t + 1)) % n) (wd A t) n hm0 hm1 h1 hwb.1 hwb.2 w
        rw [p1, p2] at h; exact h
      clear r0 r1 b1 e6 e7 ht p1 p2
      generalize A / 2 ^ (64 * (t + 1)) % n = l0 at *
      generalize A / 2 ^ (64 * t) % n = l1 at *
      generalize wd A t = x at *
      go_wp2_with (fail)
      refine (HD.out _).mono ?_
      rintro e9 w9 ⟨rfl, m, hw9⟩
      subst w9
      have c2 : (wr.drewN m).cell? ⟨w.heap.size + 1, t, none⟩ = _ := c1
      have f2 : (wr.drewN m).frozen? ⟨w.heap.size + 1, t, none⟩ = _ := f1
      clear c0 c1 f1
      go_wp2
      exact ⟨⟨j + 1, by omega, by go_num, by rw [HN.out], HM.out m⟩, by simp [intOf]; omega⟩
    · obtain rfl : j = 6 := by omega
      obtain ⟨b1, r0, r1⟩ := hm
      have q1 := sm_row (N := A / n) (r1.congr (fun i hi => by rw [if_pos (by omega)]))
      have hbel := below_setRow (w.heap.size + 1) (sm (A / n)) b1 (by omega)
      have hld : (loadVar 25 ⟨w.heap.size + 1, 0, none⟩).run Tryz.prog (wr.setRow (w.heap.size + 1) (sm (A / n))) = .ok (.agg (sm (A / n))) (wr.setRow (w.heap.size + 1) (sm (A / n))) :=
        run_loadVar_row _ _ 25 25 _ (0, 0) _ (setRow_heap wr (w.heap.size + 1) _ _ 25 (0, 0) q1) Tryz.underlying25 rfl sizeSum
      have e0 : A / 2 ^ (64 * (6 - 6)) % n = A % n := by simp
      rw [e0]
      clear e0 r0 r1
      go_wp2_with (first
        | (refine wpList_load6 25 _ Tryz.underlying25 sizeSum rfl _ rfl (w.heap.size + 1) (sm (A / n)) rfl rfl q1 ?_)
        | (refine wpList_store6 25 sizeSum rfl _ _ rfl (w.heap.size + 1) (sm (A / n)) (sm (A / n)) rfl rfl rfl rfl (sm_one (A / n)) q1 ?_))
      refine bodyPost_ret (v := .tuple #[.agg (sm (A / n)), .int .u64 (A % n)]) ?_ rfl ⟨rfl, hbel⟩
      simp [results, Tryz.results60, asAddr, hld]
end Ty
end Go.Proofs.YtbnmjmlcedkoaabGreatDoor
namespace Go.Proofs.YtbnmjmlcedkoaabGreatDoor
namespace Ty
open Go.RowKit
set_option linter.unusedVariables false
/-- How many bits a number has. -/
def IsLen (N : Int) (n : Nat) : Prop := N < 2 ^ n ∧ (0 < n → bit N (n - 1) = 1)
theorem len_less (N : Int) (k : Nat) (h0 : 0 ≤ N) (h : N < 2 ^ (k + 1)) (hb : bit N k = 0) : N < 2 ^ k := by
  have e := low_bit N k
  rw [hb, Int.mul_zero, Int.zero_add, Int.emod_eq_of_lt h0 h] at e
  rw [e]; exact Int.emod_lt_of_pos _ (pw k)
def ab (A : Int) : Int := if A < 0 then -A else A
theorem ab_b (A : Int) (h : Sg A) : 0 ≤ ab A ∧ ab A ≤ 2 ^ 383 := by
  unfold ab
  obtain ⟨h1, h2⟩ := h
  generalize (2 : Int) ^ 383 = P at *
  split <;> omega
theorem isLen_one (N : Int) (a b : Nat) (h0 : 0 ≤ N) (ha : IsLen N a) (hb : IsLen N b) : a = b := by
  have key : ∀ a b : Nat, IsLen N a → IsLen N b → ¬ a < b := by
    intro a b ha hb hlt
    have h1 := hb.2 (by omega)
    have h2 := bit_zero_up N (b - 1) a h0 ha.1 (by omega)
    omega
  have h1 := key a b ha hb
  have h2 := key b a hb ha
  omega
/-- What rounding gives. -/
def rU (neg : Bool) (size : Int) : Int := if 2139095040 ≤ size then 0 else size + if neg then 2147483648 else 0
def rE (size : Int) : Int := if 2139095040 ≤ size then 20 else 0
def b2i (b : Bool) : Int := if b then 1 else 0
/-- Bits to be dropped so that 24 are left. -/
def dr (L : Nat) : Nat := L - 24
theorem kept_b (Q : Int) (L : Nat) (h0 : 0 ≤ Q) (hL : IsLen Q L) : 0 ≤ Q / 2 ^ dr L ∧ Q / 2 ^ dr L < 16777216 ∧ (0 < dr L → 8388608 ≤ Q / 2 ^ dr L) := by
  obtain ⟨h1, h2⟩ := hL
  have hP := pw (dr L)
  have a : 0 ≤ Q / 2 ^ dr L := Int.ediv_nonneg h0 (by omega)
  refine ⟨a, ?_, fun hd => ?_⟩
  · refine Int.ediv_lt_of_lt_mul hP ?_
    have e : (16777216 : Int) = 2 ^ 24 := by decide
    rw [e, ← Int.pow_add]
    have h3 := pow_mono L (24 + dr L) (by unfold dr; omega)
    omega
  · have hl : L = dr L + 24 := by unfold dr at *; omega
    have hb := h2 (by omega)
    have e : bit Q (L - 1) = Q / 2 ^ dr L / 8388608 % 2 := by
      unfold bit
      rw [show L - 1 = dr L + 23 from by omega, Int.pow_add, ← Int.ediv_ediv_of_nonneg (by omega)]
      rfl
    rw [e] at hb
    generalize Q / 2 ^ dr L = x at *
    omega
theorem dv2 (Q : Int) (k : Nat) : Q / 2 ^ k = 2 * (Q / 2 ^ (k + 1)) + bit Q k := by
  unfold bit
  rw [Int.pow_succ, ← Int.ediv_ediv_of_nonneg (Int.le_of_lt (pw k))]
  generalize Q / 2 ^ k = x
  omega
theorem len_ex (Q : Int) (h0 : 0 ≤ Q) : ∀ n : Nat, Q < 2 ^ n → ∃ L, L ≤ n ∧ IsLen Q L
  | 0, h => ⟨0, Nat.le_refl _, h, fun h => by omega⟩
  | n + 1, h => by
    by_cases hn : Q < 2 ^ n
    · obtain ⟨L, hL, hi⟩ := len_ex Q h0 n hn
      exact ⟨L, by omega, hi⟩
    · refine ⟨n + 1, Nat.le_refl _, h, fun _ => ?_⟩
      have hb := bit_b Q n
      by_cases hz : bit Q n = 0
      · exact absurd (len_less Q n h0 h hz) hn
      · show bit Q (n + 1 - 1) = 1
        rw [Nat.add_sub_cancel]; omega
end Ty
end Go.Proofs.YtbnmjmlcedkoaabGreatDoor
