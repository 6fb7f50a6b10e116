import Derived.Test.YtgoigcpdfecfhaaGreatDoorMgG
namespace Go.Proofs.YtgoigcpdfecfhaaGreatDoor
namespace Ty
open Go.RowKit
set_option linter.unusedVariables false
def bit (N : Int) (i : Nat) : Int := N / 2 ^ i % 2
theorem bit_dg (N : Int) (i : Nat) : bit N i = dg 1 N i := by unfold bit dg; rw [Nat.one_mul]; rfl
theorem bit_b (N : Int) (i : Nat) : 0 ≤ bit N i ∧ bit N i ≤ 1 := by unfold bit; omega
theorem bit_add (A B : Int) (i : Nat) : (bit A i + bit B i + cr 1 A B i) % 2 = bit (A + B) i ∧ (bit A i + bit B i + cr 1 A B i) / 2 = cr 1 A B (i + 1) := by
  have h := add_step 1 A B i
  rw [bit_dg, bit_dg, bit_dg]; exact h
theorem bit_not (A : Int) (i : Nat) : 1 - bit A i = bit (-A - 1) i := by
  unfold bit
  have hP := pw i
  generalize (2 : Int) ^ i = P at *
  have e : (-A - 1) / P = -(A / P) - 1 := by
    have h1 := Int.mul_ediv_add_emod A P
    have r1 := Int.emod_nonneg A (Int.ne_of_gt hP)
    have r2 := Int.emod_lt_of_pos A hP
    have e2 : -A - 1 = (P - 1 - A % P) + P * (-(A / P) - 1) := by rw [Int.mul_sub, Int.mul_neg]; omega
    rw [e2, Int.add_mul_ediv_left _ _ (Int.ne_of_gt hP), Int.ediv_eq_zero_of_lt (by omega) (by omega)]; omega
  rw [e]; omega
/-- Of a number without what is above: a bit of it. -/
theorem mod_div (X : Int) (r m : Nat) (h : r < m) : X % 2 ^ m / 2 ^ r % 2 = X / 2 ^ r % 2 := by
  have e : (2 : Int) ^ m = 2 ^ r * (2 * 2 ^ (m - r - 1)) := by
    rw [show (2 : Int) * 2 ^ (m - r - 1) = 2 ^ (m - r - 1 + 1) from by rw [Int.pow_succ, Int.mul_comm], ← Int.pow_add]; congr 1; omega
  rw [e]
  have hP := pw r
  have hR := pw (m - r - 1)
  generalize (2 : Int) ^ r = P at *
  generalize (2 : Int) ^ (m - r - 1) = R at *
  rw [low_succ P (2 * R) X hP (by omega), Int.add_comm, Int.add_mul_ediv_left _ _ (Int.ne_of_gt hP), Int.ediv_eq_zero_of_lt (Int.emod_nonneg _ (Int.ne_of_gt hP)) (Int.emod_lt_of_pos _ hP), Int.zero_add]
  rw [Int.emod_emod_of_dvd _ (Int.dvd_mul_right _ _)]
theorem bit_wd (A : Int) (i : Nat) : wd A (i / 64) / 2 ^ (i % 64) % 2 = bit A i := by
  unfold wd bit
  rw [← two64, mod_div _ _ 64 (Nat.mod_lt _ (by omega)), Int.ediv_ediv_of_nonneg (Int.le_of_lt (pw _)), ← Int.pow_add, Nat.div_add_mod]
theorem bit_mod (A : Int) (i m : Nat) (h : i < m) : bit (A % 2 ^ m) i = bit A i := by unfold bit; exact mod_div A i m h
theorem low_bit (N : Int) (k : Nat) : N % 2 ^ (k + 1) = 2 ^ k * bit N k + N % 2 ^ k := by
  unfold bit
  rw [Int.pow_succ, low_succ _ 2 N (pw k) (by decide)]
theorem wd_low (N : Int) (k j : Nat) (h : j ≠ k / 64) : wd (N % 2 ^ (k + 1)) j = wd (N % 2 ^ k) j := by
  rw [low_bit]
  have hb := bit_b N k
  generalize bit N k = b at *
  have hl0 := Int.emod_nonneg N (Int.ne_of_gt (pw k))
  have hl1 := Int.emod_lt_of_pos N (pw k)
  generalize N % 2 ^ k = L at *
  unfold wd
  by_cases hj : j < k / 64
  · have e : (2 : Int) ^ k = 2 ^ (64 * j) * (18446744073709551616 * 2 ^ (k - 64 * (j + 1))) := by
      rw [← two64, ← Int.pow_add, ← Int.pow_add]; congr 1; omega
    rw [e, Int.mul_assoc, Int.add_comm, Int.add_mul_ediv_left _ _ (Int.ne_of_gt (pw _)), Int.mul_assoc, Int.add_mul_emod_self_left]
  · have e : (2 : Int) ^ (64 * j) = 2 ^ (k + 1) * 2 ^ (64 * j - (k + 1)) := by rw [← Int.pow_add]; congr 1; omega
    have hk : (2 : Int) ^ (k + 1) = 2 * 2 ^ k := by rw [Int.pow_succ]; omega
    have h1 : L < 2 ^ (64 * j) := by
      rw [e, hk]
      have : (2 * 2 ^ k) * 1 ≤ (2 * (2 : Int) ^ k) * 2 ^ (64 * j - (k + 1)) := Int.mul_le_mul_of_nonneg_left (by have := pw (64 * j - (k + 1)); omega) (by omega)
      omega
    have h2 : 2 ^ k * b + L < 2 ^ (64 * j) := by
      rw [e, hk]
      have : (2 * 2 ^ k) * 1 ≤ (2 * (2 : Int) ^ k) * 2 ^ (64 * j - (k + 1)) := Int.mul_le_mul_of_nonneg_left (by have := pw (64 * j - (k + 1)); omega) (by omega)
      have : 2 ^ k * b ≤ (2 : Int) ^ k * 1 := Int.mul_le_mul_of_nonneg_left hb.2 (by omega)
      omega
    rw [Int.ediv_eq_zero_of_lt hl0 h1, Int.ediv_eq_zero_of_lt (Int.add_nonneg (Int.mul_nonneg (Int.le_of_lt (pw k)) hb.1) hl0) h2]
theorem wd_at (N : Int) (k : Nat) : wd (N % 2 ^ k) (k / 64) < 2 ^ (k % 64) ∧ wd (N % 2 ^ (k + 1)) (k / 64) = 2 ^ (k % 64) * bit N k + wd (N % 2 ^ k) (k / 64) := by
  rw [low_bit]
  have hb := bit_b N k
  generalize bit N k = b at *
  have hl0 := Int.emod_nonneg N (Int.ne_of_gt (pw k))
  have hl1 := Int.emod_lt_of_pos N (pw k)
  generalize N % 2 ^ k = L at *
  unfold wd
  have e : (2 : Int) ^ k = 2 ^ (64 * (k / 64)) * 2 ^ (k % 64) := by rw [← Int.pow_add]; congr 1; omega
  rw [e, Int.mul_assoc, Int.add_comm (2 ^ (64 * (k / 64)) * _) L, Int.add_mul_ediv_left _ _ (Int.ne_of_gt (pw _))]
  rw [e] at hl1
  have hP := pw (64 * (k / 64))
  have h1 : L / 2 ^ (64 * (k / 64)) < 2 ^ (k % 64) := Int.ediv_lt_of_lt_mul hP (by rw [Int.mul_comm]; exact hl1)
  have h2 : 0 ≤ L / 2 ^ (64 * (k / 64)) := Int.ediv_nonneg hl0 (by omega)
  generalize L / 2 ^ (64 * (k / 64)) = x at *
  have h3 : (2 : Int) ^ (k % 64) * 2 ≤ 18446744073709551616 := by
    rw [← Int.pow_succ, ← two64]
    have : 2 ^ (k % 64 + 1) ≤ 2 ^ 64 := Nat.pow_le_pow_right (by omega) (by omega)
    exact_mod_cast this
  have hp := pw (k % 64)
  have h4 : (2 : Int) ^ (k % 64) * b ≤ 2 ^ (k % 64) * 1 := Int.mul_le_mul_of_nonneg_left hb.2 (by omega)
  have h5 : 0 ≤ (2 : Int) ^ (k % 64) * b := Int.mul_nonneg (by omega) hb.1
  rw [Int.emod_eq_of_lt h2 (by omega), Int.emod_eq_of_lt (by omega) (by omega)]
  exact ⟨h1, by omega⟩
theorem or_pow (x : Int) (p : Nat) (h0 : 0 ≤ x) (h1 : x < 2 ^ p) (hp : p < 64) : bits .or .u64 x (2 ^ p) = 2 ^ p + x := by
  have hP := pw p
  have hP2 : (2 : Int) ^ p < 18446744073709551616 := by
    rw [← two64]
    have : 2 ^ p < 2 ^ 64 := Nat.pow_lt_pow_right (by omega) (by omega)
    exact_mod_cast this
  have hc : bits .or .u64 x (2 ^ p) = bits .or .u64 (2 ^ p) x := by
    rw [u64_or _ _ h0 (by omega) (by omega) hP2, u64_or _ _ (by omega) hP2 h0 (by omega), Nat.or_comm]
  rw [hc, bits_join .u64 64 (by decide) (fun n a b => by rw [IntKind.wrap_u64]; omega) p _ _ (by omega) (by simp) (by simpa using hP2) h0 h1 (by
    have : (2 : Int) ^ p * 2 ≤ 18446744073709551616 := by
      rw [← Int.pow_succ, ← two64]
      have : 2 ^ (p + 1) ≤ 2 ^ 64 := Nat.pow_le_pow_right (by omega) (by omega)
      exact_mod_cast this
    simp; omega)]
theorem bit_zero_up (N : Int) (i m : Nat) (h0 : 0 ≤ N) (h1 : N < 2 ^ m) (h : m ≤ i) : bit N i = 0 := by
  unfold bit
  have : (2 : Int) ^ m ≤ 2 ^ i := by exact_mod_cast Nat.pow_le_pow_right (by omega : 0 < 2) h
  rw [Int.ediv_eq_zero_of_lt h0 (by omega)]; rfl
theorem bit_shift (m : Int) (s i : Nat) : bit (m * 2 ^ s) (s + i) = bit m i := by
  unfold bit
  rw [Int.pow_add, ← Int.ediv_ediv_of_nonneg (Int.le_of_lt (pw s)), Int.mul_ediv_cancel _ (Int.ne_of_gt (pw s))]
theorem bit_shift_low (m : Int) (s i : Nat) (h : i < s) : bit (m * 2 ^ s) i = 0 := by
  unfold bit
  have e : (2 : Int) ^ s = 2 ^ i * (2 * 2 ^ (s - i - 1)) := by
    rw [show (2 : Int) * 2 ^ (s - i - 1) = 2 ^ (s - i - 1 + 1) from by rw [Int.pow_succ, Int.mul_comm], ← Int.pow_add]; congr 1; omega
  rw [e, show m * (2 ^ i * (2 * 2 ^ (s - i - 1))) = (m * (2 * 2 ^ (s - i - 1))) * 2 ^ i from by rw [Int.mul_comm (2 ^ i), ← Int.mul_assoc], Int.mul_ediv_cancel _ (Int.ne_of_gt (pw i))]
  rw [show m * (2 * 2 ^ (s - i - 1)) = 2 * (m * 2 ^ (s - i - 1)) from by rw [← Int.mul_assoc, Int.mul_comm m 2, Int.mul_assoc], Int.mul_emod_right]
end Ty
end Go.Proofs.YtgoigcpdfecfhaaGreatDoor
namespace Go.Proofs.YtgoigcpdfecfhaaGreatDoor
namespace Ty
open Go.RowKit
set_option linter.unusedVariables false
theorem infoInt : (Tryz.prog.info? 3).map (fun i => (i.zero, i.size, i.bytes)) = some (some (.int .i64 0), 1, 8) := by kernel_rfl
/-- 384 zeros. -/
def mz : Array Value := madeCells #[.int .i64 0] 384
theorem make384 (w : World) : (Instr.makeSlice 140 (.int .i64 384) (.int .i64 384)).run Tryz.prog w = .ok (.slice (some ⟨w.heap.size, 0, none⟩) 384 384) (w.alloc (.cells mz 3)) :=
  run_make_row' 140 3 (.int .i64 0) 8 Tryz.underlying140 infoInt rfl .i64 .i64 384 (by omega) (by omega) w
theorem mz_row (w : World) : (w.alloc (.cells mz 3)).rowIs w.heap.size 3 384 (fun _ => .int .i64 0) := World.rowIs_made w _ 384 3
/-- Block g holds the 384 bits of N, the lowest first. -/
def Bits (w : World) (g : Nat) (N : Int) : Prop := w.rowIs g 3 384 (fun i => .int .i64 (bit N i))
theorem Bits.kept {w w' : World} {g B : Nat} {N : Int} (h : Bits w g N) (hb : Below B w w') (hg : g < B) : Bits w' g N := World.rowIs.of_block h (hb.block g hg)
def BMid (w wr : World) (A : Int) (k : Nat) : Prop :=
  Below w.heap.size w wr ∧ wr.rowIs w.heap.size 159 6 (fun i => .int .u64 (wd A i)) ∧ wr.rowIs (w.heap.size + 1) 3 384 (fun i => .int .i64 (if i < k then bit A i else 0))
theorem bm_start (w : World) (A : Int) : BMid w ((w.alloc (.cells (sm A) 159)).alloc (.cells mz 3)) A 0 := by
  obtain ⟨h1, h2⟩ := heap_two w (.cells (sm A) 159) (.cells mz 3)
  refine ⟨((Below.refl _ _).alloc (Nat.le_refl _) _).alloc (by simp) _, row_sm h1, ?_⟩
  have h3 := mz_row (w.alloc (.cells (sm A) 159))
  have e : (w.alloc (.cells (sm A) 159)).heap.size = w.heap.size + 1 := by simp
  rw [e] at h3
  exact h3.congr (fun i hi => by simp)
theorem bm_step {w wr : World} {A : Int} {k : Nat} (hm : BMid w wr A k) : BMid w (wr.setCell ⟨w.heap.size + 1, k, none⟩ (.int .i64 (bit A k))) A (k + 1) := by
  obtain ⟨b1, r0, r1⟩ := hm
  refine ⟨b1.setCell (by show w.heap.size ≤ w.heap.size + 1; omega) _, r0.setOther (by show w.heap.size ≠ w.heap.size + 1; omega) _, (r1.set k _).congr (fun i hi => ?_)⟩
  by_cases e : i = k
  · subst e; simp
  · simp only [e, if_false]
    by_cases h : i < k
    · rw [if_pos h, if_pos (by omega)]
    · rw [if_neg h, if_neg (by omega)]
set_option maxHeartbeats 800000 in
set_option maxRecDepth 8000 in
theorem rbits_any (A : Int) (w : World) :
    Calls Tryz.prog 191 #[.agg (sm A)] w fun e w' => ∃ g, e = .returned (.slice (some ⟨g, 0, none⟩) 384 384) ∧ w.heap.size ≤ g ∧ Bits w' g A ∧ Below w.heap.size w w' := by
  have h0 := bm_start w A
  generalize hsa : sm A = ca at *
  have hmk := make384
  generalize mz = mz0 at *
  go_enter Tryz.func191, Tryz.ntmps191
  go_wp2
  clear hmk
  go_loopw [4] (fun i wr => ∃ k : Nat, k ≤ 384 ∧ i = .int .i64 k ∧ BMid w wr A k) (fun i _ => 384 - (intOf i).toNat)
  case atStart => exact ⟨0, by omega, rfl, h0⟩
  case round =>
    clear h0 hsa
    obtain ⟨k, hk, rfl, hm⟩ := hrel
    by_cases hlt : k < 384
    · have HM : Hid (BMid w (wr.setCell ⟨w.heap.size + 1, k, none⟩ (.int .i64 (bit A k))) A (k + 1)) := bm_step hm
      obtain ⟨b1, r0, r1⟩ := hm
      have c0 := r0.cell (show k / 64 < 6 by omega)
      have c1 := r1.cell hlt
      have f0 := r1.frozen k
      have HW : Hid (wrap64 ((wd A (k / 64) / 2 ^ (k % 64)).tmod 2) = bit A k) := by
        show _ = _
        have h1 := bit_b A k
        rw [Int.tmod_eq_emod_of_nonneg (Int.ediv_nonneg (wd_b A (k / 64)).1 (Int.le_of_lt (pw _))), bit_wd A k]
        exact IntWalk.wrap64_in _ ⟨by omega, by omega⟩
      have hwb := wd_b A (k / 64)
      clear r0 r1 b1
      go_wp2
      rw [HW.out]
      exact ⟨⟨k + 1, by omega, by go_num, HM.out⟩, by simp [intOf]; omega⟩
    · obtain rfl : k = 384 := by omega
      obtain ⟨b1, r0, r1⟩ := hm
      go_wp2
      go_ret
      exact ⟨_, rfl, by omega, r1.congr (fun i hi => by rw [if_pos hi]), b1⟩
/-! plus -/
def PMid (w wr : World) (A B : Int) (k : Nat) : Prop :=
  Below w.heap.size w wr ∧ wr.rowIs w.heap.size 3 384 (fun i => .int .i64 (if i < k then bit (A + B) i else 0))
theorem pm_start (w : World) (A B : Int) : PMid w (w.alloc (.cells mz 3)) A B 0 :=
  ⟨(Below.refl _ _).alloc (Nat.le_refl _) _, (mz_row w).congr (fun i hi => by simp)⟩
theorem pm_step {w wr : World} {A B : Int} {k : Nat} (hm : PMid w wr A B k) (m : Nat) : PMid w ((wr.drewN m).setCell ⟨w.heap.size, k, none⟩ (.int .i64 (bit (A + B) k))) A B (k + 1) := by
  obtain ⟨b1, r1'⟩ := hm
  have r1 : (wr.drewN m).rowIs w.heap.size 3 384 (fun i => .int .i64 (if i < k then bit (A + B) i else 0)) := r1'.of_block rfl
  replace b1 := below_drewN b1 m
  refine ⟨b1.setCell (Nat.le_refl _) _, (r1.set k _).congr (fun i hi => ?_)⟩
  by_cases e : i = k
  · subst e; simp
  · simp only [e, if_false]
    by_cases h : i < k
    · rw [if_pos h, if_pos (by omega)]
    · rw [if_neg h, if_neg (by omega)]
set_option maxHeartbeats 800000 in
set_option maxRecDepth 8000 in
theorem rplus_any (A B : Int) (g1 g2 : Nat) (w : World) (ha : Bits w g1 A) (hb : Bits w g2 B) :
    Calls Tryz.prog 190 #[.slice (some ⟨g1, 0, none⟩) 384 384, .slice (some ⟨g2, 0, none⟩) 384 384] w fun e w' => ∃ g, e = .returned (.slice (some ⟨g, 0, none⟩) 384 384) ∧ w.heap.size ≤ g ∧ Bits w' g (A + B) ∧ Below w.heap.size w w' := by
  have h0 := pm_start w A B
  have hmk := make384
  generalize mz = mz0 at *
  have HA : Hid (Bits w g1 A ∧ Bits w g2 B) := ⟨ha, hb⟩
  clear ha hb
  go_enter Tryz.func190, Tryz.ntmps190
  go_wp2
  clear hmk
  go_loopw [6, 7] (fun c i wr => ∃ k : Nat, k ≤ 384 ∧ i = .int .i64 k ∧ c = .int .i64 (cr 1 A B k) ∧ PMid w wr A B k) (fun _ i _ => 384 - (intOf i).toNat)
  case atStart => exact ⟨0, by omega, rfl, by rw [cr_zero], h0⟩
  case round =>
    clear h0
    obtain ⟨k, hk, rfl, rfl, hm⟩ := hrel
    by_cases hlt : k < 384
    · have HM : Hid (∀ m, PMid w ((wr.drewN m).setCell ⟨w.heap.size, k, none⟩ (.int .i64 (bit (A + B) k))) A B (k + 1)) := pm_step hm
      obtain ⟨b1, r1⟩ := hm
      have ca := (World.rowIs.of_block HA.out.1 (b1.block g1 (World.rowIs.lt HA.out.1))).cell hlt
      have cb := (World.rowIs.of_block HA.out.2 (b1.block g2 (World.rowIs.lt HA.out.2))).cell hlt
      have c1 := r1.cell hlt
      have f0 := r1.frozen k
      have hba := bit_b A k
      have hbb := bit_b B k
      have hcb := cr_b 1 A B k
      have hS := bit_add A B k
      clear r1 b1
      generalize bit A k = x at *
      generalize bit B k = y at *
      generalize cr 1 A B k = c at *
      have HS : Hid ((x + y + c) % 2 = bit (A + B) k ∧ (x + y + c) / 2 = cr 1 A B (k + 1)) := hS
      clear hS
      obtain ⟨x0, x1⟩ := hba
      obtain ⟨y0, y1⟩ := hbb
      obtain ⟨z0, z1⟩ := hcb
      go_wp2
      go_quiet (fail)
      go_wp2
      rw [HS.out.1, HS.out.2]
      exact ⟨⟨k + 1, by omega, by go_num, rfl, HM.out _⟩, by simp [intOf]; omega⟩
    · obtain rfl : k = 384 := by omega
      obtain ⟨b1, r1⟩ := hm
      go_wp2
      go_ret
      exact ⟨_, rfl, by omega, r1.congr (fun i hi => by rw [if_pos hi]), b1⟩
end Ty
end Go.Proofs.YtgoigcpdfecfhaaGreatDoor
namespace Go.Proofs.YtgoigcpdfecfhaaGreatDoor
namespace Ty
open Go.RowKit
set_option linter.unusedVariables false
theorem pow_lt64 (p : Nat) (hp : p < 64) : (2 : Int) ^ p < 18446744073709551616 := by
  rw [← two64]
  have : 2 ^ p < 2 ^ 64 := Nat.pow_lt_pow_right (by omega) (by omega)
  exact_mod_cast this
theorem wrap_pow (p : Nat) (hp : p < 64) : IntKind.u64.wrap (2 ^ p) = 2 ^ p := by
  rw [IntKind.wrap_u64]; exact Int.emod_eq_of_lt (Int.le_of_lt (pw p)) (pow_lt64 p hp)
/-- A list of L bits of N. -/
def BR (w : World) (a : Option Addr) (L : Nat) (N : Int) : Prop := 0 < L → ∃ g, a = some ⟨g, 0, none⟩ ∧ g < w.heap.size ∧ ∀ i, i < L → w.cell? ⟨g, i, none⟩ = some (.int .i64 (bit N i))
theorem Bits.br {w : World} {g : Nat} {N : Int} (h : Bits w g N) : BR w (some ⟨g, 0, none⟩) 384 N := fun _ => ⟨g, rfl, World.rowIs.lt h, fun i hi => World.rowIs.cell h hi⟩
theorem BR.kept {w w' : World} {a : Option Addr} {L : Nat} {N : Int} (h : BR w a L N) (hb : Below w.heap.size w w') : BR w' a L N := fun h0 => by
  obtain ⟨g, e, hg, hc⟩ := h h0
  exact ⟨g, e, Nat.lt_of_lt_of_le hg hb.size, fun i hi => (hb.cell (p := ⟨g, i, none⟩) hg).trans (hc i hi)⟩
def WMid (w wr : World) (N : Int) (k : Nat) : Prop :=
  Below w.heap.size w wr ∧ wr.rowIs w.heap.size 159 6 (fun i => .int .u64 (wd 0 i)) ∧ wr.rowIs (w.heap.size + 1) 159 6 (fun j => .int .u64 (wd (N % 2 ^ k) j))
theorem wm_start (w : World) (N : Int) : WMid w ((w.alloc (.cells (sm 0) 159)).alloc (.cells (sm 0) 159)) N 0 := by
  obtain ⟨h1, h2⟩ := heap_two w (.cells (sm 0) 159) (.cells (sm 0) 159)
  refine ⟨((Below.refl _ _).alloc (Nat.le_refl _) _).alloc (by simp) _, row_sm h1, (row_sm h2).congr (fun i hi => ?_)⟩
  rw [show N % 2 ^ 0 = 0 from by rw [Int.pow_zero, Int.emod_one]]
theorem wm_one {w wr : World} {N : Int} {k : Nat} (hm : WMid w wr N k) (h : bit N k = 1) : WMid w (wr.setCell ⟨w.heap.size + 1, k / 64, none⟩ (.int .u64 (2 ^ (k % 64) + wd (N % 2 ^ k) (k / 64)))) N (k + 1) := by
  obtain ⟨b1, r0, r1⟩ := hm
  refine ⟨b1.setCell (by show w.heap.size ≤ w.heap.size + 1; omega) _, r0.setOther (by show w.heap.size ≠ w.heap.size + 1; omega) _, (r1.set (k / 64) _).congr (fun i hi => ?_)⟩
  by_cases e : i = k / 64
  · rw [if_pos e, e, (wd_at N k).2, h, Int.mul_one]
  · rw [if_neg e, wd_low N k i e]
theorem wm_zero {w wr : World} {N : Int} {k : Nat} (hm : WMid w wr N k) (h : bit N k = 0) : WMid w wr N (k + 1) := by
  obtain ⟨b1, r0, r1⟩ := hm
  refine ⟨b1, r0, r1.congr (fun i hi => ?_)⟩
  rw [low_bit, h, Int.mul_zero, Int.zero_add]
theorem wm_end {w wr : World} {N : Int} {k : Nat} (hm : WMid w wr N k) (h : ∀ i, k ≤ i → i < 384 → bit N i = 0) (hk : k ≤ 384) : wr.rowIs (w.heap.size + 1) 159 6 (fun j => .int .u64 (wd N j)) := by
  have key : ∀ n, k + n ≤ 384 → WMid w wr N (k + n) := by
    intro n
    induction n with
    | zero => intro _; exact hm
    | succ n ih => intro h1; exact wm_zero (ih (by omega)) (h (k + n) (by omega) (by omega))
  have h2 := key (384 - k) (by omega)
  rw [show k + (384 - k) = 384 from by omega] at h2
  exact h2.2.2.congr (fun i hi => by rw [wd_mod N i hi])
set_option maxHeartbeats 800000 in
set_option maxRecDepth 8000 in
theorem rwords_any (N : Int) (a : Option Addr) (L cap : Nat) (w : World) (hL : L < 4611686018427387904) (hr : BR w a L N) (hz : ∀ i, L ≤ i → i < 384 → bit N i = 0) :
    Calls Tryz.prog 189 #[.slice a L cap] w fun e w' => e = .returned (.agg (sm N)) ∧ Below w.heap.size w w' := by
  have h0 := wm_start w N
  rw [← zeros_sm] at h0
  have hone := sm_one N
  have HR : Hid (BR w a L N ∧ ∀ i, L ≤ i → i < 384 → bit N i = 0) := ⟨hr, hz⟩
  clear hr hz
  go_enter Tryz.func189, Tryz.ntmps189
  go_wp2
  go_loopw [4] (fun i wr => ∃ k : Nat, k ≤ 384 ∧ k ≤ L ∧ i = .int .i64 k ∧ WMid w wr N k) (fun i _ => 384 - (intOf i).toNat)
  case atStart => exact ⟨0, by omega, by omega, rfl, h0⟩
  case round =>
    clear h0
    obtain ⟨k, hk, hkL, rfl, hm⟩ := hrel
    by_cases hlt : k < 384 ∧ k < L
    · obtain ⟨hlt, hlL⟩ := hlt
      obtain ⟨g, rfl, hg, hcell⟩ := HR.out.1 (by omega)
      have cb := (hm.1.cell (p := ⟨g, k, none⟩) hg).trans (hcell k hlL)
      have hbb := bit_b N k
      by_cases h1 : bit N k = 1
      · have HM : Hid (WMid w (wr.setCell ⟨w.heap.size + 1, k / 64, none⟩ (.int .u64 (2 ^ (k % 64) + wd (N % 2 ^ k) (k / 64)))) N (k + 1)) := wm_one hm h1
        obtain ⟨b1, r0, r1⟩ := hm
        have c1 := r1.cell (show k / 64 < 6 by omega)
        have f0 := r1.frozen (k / 64)
        rw [h1] at cb
        have HO : Hid (bits .or .u64 (wd (N % 2 ^ k) (k / 64)) (IntKind.u64.wrap (2 ^ (k % 64))) = 2 ^ (k % 64) + wd (N % 2 ^ k) (k / 64)) := by
          show _ = _
          rw [wrap_pow (k % 64) (Nat.mod_lt _ (by omega))]
          exact or_pow _ _ (wd_b _ _).1 (wd_at N k).1 (Nat.mod_lt _ (by omega))
        clear r0 r1 b1 hone hcell h1 hbb
        go_wp2
        rw [HO.out]
        exact ⟨⟨k + 1, by omega, by omega, by go_num, HM.out⟩, by simp [intOf]; omega⟩
      · have h2 : bit N k = 0 := by omega
        have HM : Hid (WMid w wr N (k + 1)) := wm_zero hm h2
        rw [h2] at cb
        clear hm hone hcell h1 h2 hbb
        go_wp2
        exact ⟨⟨k + 1, by omega, by omega, by go_num, HM.out⟩, by simp [intOf]; omega⟩
    · have q1 := sm_row (wm_end hm (fun i h1 h2 => HR.out.2 i (by omega) h2) hk)
      obtain ⟨b1, r0, r1⟩ := hm
      have q0 := sm_row r0
      have hbel := below_setRow w.heap.size (sm N) b1 (Nat.le_refl _)
      have hld : (loadVar 159 ⟨w.heap.size, 0, none⟩).run Tryz.prog (wr.setRow w.heap.size (sm N)) = .ok (.agg (sm N)) (wr.setRow w.heap.size (sm N)) :=
        run_loadVar_row _ _ 159 159 _ (0, 0) _ (setRow_heap wr w.heap.size _ _ 159 (0, 0) q0) Tryz.underlying159 rfl sizeRSum
      clear r0 r1
      by_cases h4 : k < 384
      · have h5 : ¬ k < L := by omega
        clear hlt
        go_wp2_with (first
          | (refine wpList_load6 159 _ Tryz.underlying159 sizeRSum rfl _ rfl (w.heap.size + 1) (sm N) rfl rfl q1 ?_)
          | (refine wpList_store6 159 sizeRSum rfl _ _ rfl w.heap.size (sm N) (sm 0) rfl rfl rfl rfl hone q0 ?_))
        refine bodyPost_ret (v := .agg (sm N)) ?_ rfl ⟨rfl, hbel⟩
        simp [results, Tryz.results189, asAddr, Act.put, hld]
      · obtain rfl : k = 384 := by omega
        clear hlt
        go_wp2_with (first
          | (refine wpList_load6 159 _ Tryz.underlying159 sizeRSum rfl _ rfl (w.heap.size + 1) (sm N) rfl rfl q1 ?_)
          | (refine wpList_store6 159 sizeRSum rfl _ _ rfl w.heap.size (sm N) (sm 0) rfl rfl rfl rfl hone q0 ?_))
        refine bodyPost_ret (v := .agg (sm N)) ?_ rfl ⟨rfl, hbel⟩
        simp [results, Tryz.results189, asAddr, Act.put, hld]
end Ty
end Go.Proofs.YtgoigcpdfecfhaaGreatDoor
namespace Go.Proofs.YtgoigcpdfecfhaaGreatDoor
namespace Ty
open Go.RowKit
set_option linter.unusedVariables false
/-! minus -/
def CMid (w wr : World) (A : Int) (k : Nat) : Prop :=
  Below w.heap.size w wr ∧ wr.rowIs w.heap.size 3 384 (fun i => .int .i64 (if i < k then bit (-A - 1) i else 0)) ∧ Bits wr (w.heap.size + 1) 1
theorem bit_one (i : Nat) : bit 1 i = if i = 0 then 1 else 0 := by
  match i with
  | 0 => rfl
  | n + 1 =>
    rw [if_neg (by omega)]
    exact bit_zero_up 1 (n + 1) 1 (by decide) (by decide) (by omega)
theorem mz_facts : mz.size = 384 ∧ ∀ i, i < 384 → mz[i]? = some (.int .i64 0) := by
  refine ⟨size_madeCells _ _, fun i hi => ?_⟩
  unfold mz; simp [madeCells, hi, Nat.mod_one]
theorem cm_start (w : World) (A : Int) : CMid w ((w.alloc (.cells mz 3)).alloc (.cells (mz.setIfInBounds 0 (.int .i64 1)) 3)) A 0 := by
  have h1 := mz_row w
  refine ⟨((Below.refl _ _).alloc (Nat.le_refl _) _).alloc (by simp) _, ?_, ?_⟩
  · exact (h1.of_block (blk_alloc _ _ _ (by simp))).congr (fun i hi => by simp)
  · have h3 := heap_alloc_last (w.alloc (.cells mz 3)) (.cells (mz.setIfInBounds 0 (.int .i64 1)) 3)
    have e : (w.alloc (.cells mz 3)).heap.size = w.heap.size + 1 := by simp
    rw [e] at h3
    refine ⟨_, h3, by rw [Array.size_setIfInBounds]; exact mz_facts.1, fun i hi => ?_⟩
    show _ = some (Value.int .i64 (bit 1 i))
    rw [bit_one]
    by_cases h0 : i = 0
    · subst h0; rw [if_pos rfl, Array.getElem?_setIfInBounds_self_of_lt (by rw [mz_facts.1]; omega)]
    · rw [if_neg h0, Array.getElem?_setIfInBounds_ne (by omega), mz_facts.2 i hi]
theorem cm_step {w wr : World} {A : Int} {k : Nat} (hm : CMid w wr A k) (m : Nat) : CMid w ((wr.drewN m).setCell ⟨w.heap.size, k, none⟩ (.int .i64 (bit (-A - 1) k))) A (k + 1) := by
  obtain ⟨b1, r1', r2'⟩ := hm
  have r1 : (wr.drewN m).rowIs w.heap.size 3 384 (fun i => .int .i64 (if i < k then bit (-A - 1) i else 0)) := r1'.of_block rfl
  have r2 : (wr.drewN m).rowIs (w.heap.size + 1) 3 384 (fun i => .int .i64 (bit 1 i)) := World.rowIs.of_block r2' rfl
  refine ⟨(below_drewN b1 m).setCell (Nat.le_refl _) _, (r1.set k _).congr (fun i hi => ?_), r2.setOther (by show w.heap.size + 1 ≠ w.heap.size; omega) _⟩
  by_cases e : i = k
  · subst e; simp
  · simp only [e, if_false]
    by_cases h : i < k
    · rw [if_pos h, if_pos (by omega)]
    · rw [if_neg h, if_neg (by omega)]
set_option maxHeartbeats 800000 in
set_option maxRecDepth 8000 in
theorem rminus_any (A : Int) (g1 : Nat) (w : World) (ha : Bits w g1 A) :
    Calls Tryz.prog 241 #[.slice (some ⟨g1, 0, none⟩) 384 384] w fun e w' => ∃ g, e = .returned (.slice (some ⟨g, 0, none⟩) 384 384) ∧ w.heap.size ≤ g ∧ Bits w' g (-A) ∧ Below w.heap.size w w' := by
  have h0 := cm_start w A
  have hmk := make384
  have hc0 : mz[0]? = some (.int .i64 0) := mz_facts.2 0 (by omega)
  have hc1 : mz.size = 384 := mz_facts.1
  generalize mz = mz0 at *
  have HA : Hid (Bits w g1 A) := ha
  clear ha
  go_enter Tryz.func241, Tryz.ntmps241
  go_wp2
  clear hmk hc0 hc1
  go_loopw [5] (fun i wr => ∃ k : Nat, k ≤ 384 ∧ i = .int .i64 k ∧ CMid w wr A k) (fun i _ => 384 - (intOf i).toNat)
  case atStart => exact ⟨0, by omega, rfl, h0⟩
  case round =>
    clear h0
    obtain ⟨k, hk, rfl, hm⟩ := hrel
    by_cases hlt : k < 384
    · have HM : Hid (∀ m, CMid w ((wr.drewN m).setCell ⟨w.heap.size, k, none⟩ (.int .i64 (bit (-A - 1) k))) A (k + 1)) := cm_step hm
      obtain ⟨b1, r1, r2⟩ := hm
      have ca := (World.rowIs.of_block HA.out (b1.block g1 (World.rowIs.lt HA.out))).cell hlt
      have c1 := r1.cell hlt
      have f0 := r1.frozen k
      have hba := bit_b A k
      have HS : Hid (1 - bit A k = bit (-A - 1) k) := bit_not A k
      clear r1 b1 r2
      generalize bit A k = x at *
      obtain ⟨x0, x1⟩ := hba
      go_wp2
      rw [HS.out]
      exact ⟨⟨k + 1, by omega, by go_num, HM.out 0⟩, by simp [intOf]; omega⟩
    · obtain rfl : k = 384 := by omega
      obtain ⟨b1, r1, r2⟩ := hm
      have q1 : Bits wr w.heap.size (-A - 1) := r1.congr (fun i hi => by rw [if_pos hi])
      clear r1
      go_wp2_with (fail)
      refine (rplus_any (-A - 1) 1 _ _ _ q1 r2).mono ?_
      rintro e9 w9 ⟨g, rfl, hg, hb, hw⟩
      have hB : Below w.heap.size w w9 := b1.trans (hw.mono b1.size)
      have hs := b1.size
      rw [show -A - 1 + 1 = -A from by omega] at hb
      clear q1 r2 hw
      go_wp2
      go_ret
      exact ⟨_, rfl, by omega, hb, hB⟩
end Ty
end Go.Proofs.YtgoigcpdfecfhaaGreatDoor
namespace Go.Proofs.YtgoigcpdfecfhaaGreatDoor
namespace Ty
open Go.RowKit
set_option linter.unusedVariables false
def M0 (s : Int) : Int := if s / 8388608 = 0 then s else s % 8388608 + 8388608
def S0 (s : Int) : Nat := if s / 8388608 = 0 then 0 else (s / 8388608 - 1).toNat
/-- The units of a finite float32. -/
def mag (u : Int) : Int := M0 (u % 2147483648) * 2 ^ S0 (u % 2147483648)
def un (u : Int) : Int := if 2147483648 ≤ u then -mag u else mag u
def FMid (w wr : World) (m : Int) (sh k : Nat) : Prop :=
  Below w.heap.size w wr ∧ wr.rowIs w.heap.size 3 384 (fun j => .int .i64 (if j < sh + k then bit (m * 2 ^ sh) j else 0))
theorem fm_start (w : World) (m : Int) (sh : Nat) : FMid w (w.alloc (.cells mz 3)) m sh 0 := by
  refine ⟨(Below.refl _ _).alloc (Nat.le_refl _) _, (mz_row w).congr (fun i hi => ?_)⟩
  by_cases h : i < sh + 0
  · rw [if_pos h, bit_shift_low m sh i (by omega)]
  · rw [if_neg h]
theorem fm_step {w wr : World} {m : Int} {sh k : Nat} (hm : FMid w wr m sh k) : FMid w (wr.setCell ⟨w.heap.size, sh + k, none⟩ (.int .i64 (bit m k))) m sh (k + 1) := by
  obtain ⟨b1, r1⟩ := hm
  refine ⟨b1.setCell (Nat.le_refl _) _, (r1.set (sh + k) _).congr (fun i hi => ?_)⟩
  by_cases e : i = sh + k
  · rw [if_pos e, if_pos (by omega), e, bit_shift]
  · rw [if_neg e]
    by_cases h : i < sh + k
    · rw [if_pos h, if_pos (by omega)]
    · rw [if_neg h, if_neg (by omega)]
theorem fm_end {w wr : World} {m : Int} {sh : Nat} (hm : FMid w wr m sh 24) (h0 : 0 ≤ m) (h1 : m < 16777216) : Bits wr w.heap.size (m * 2 ^ sh) := by
  refine hm.2.congr (fun i hi => ?_)
  by_cases h : i < sh + 24
  · rw [if_pos h]
  · rw [if_neg h]
    obtain ⟨j, rfl⟩ : ∃ j, i = sh + j := ⟨i - sh, by omega⟩
    rw [bit_shift, bit_zero_up m j 24 h0 (by simpa using h1) (by omega)]
theorem bit_tmod (m : Int) (k : Nat) (h : 0 ≤ m) : wrap64 ((m / 2 ^ k).tmod 2) = bit m k := by
  have h1 := bit_b m k
  rw [Int.tmod_eq_emod_of_nonneg (Int.ediv_nonneg h (Int.le_of_lt (pw _)))]
  exact IntWalk.wrap64_in _ ⟨by unfold bit at h1; omega, by unfold bit at h1; omega⟩
theorem mag0 (u : Int) (h0 : 0 ≤ u) (h1 : u < 4294967296) (he : u / 8388608 % 256 = 0) : mag u = u % 8388608 * 2 ^ 0 := by
  unfold mag M0 S0
  rw [if_pos (by omega), if_pos (by omega), show u % 2147483648 = u % 8388608 from by omega]
theorem mag1 (u : Int) (n : Nat) (h0 : 0 ≤ u) (h1 : u < 4294967296) (hn : u / 8388608 % 256 = n + 1) : mag u = (u % 8388608 + 8388608) * 2 ^ n := by
  unfold mag M0 S0
  rw [if_neg (by omega), if_neg (by omega), show u % 2147483648 % 8388608 = u % 8388608 from by omega, show (u % 2147483648 / 8388608 - 1).toNat = n from by omega]
theorem un_neg0 (u : Int) (h0 : 0 ≤ u) (h1 : u < 4294967296) (he : u / 8388608 % 256 = 0) (hs : 2147483648 ≤ u) : un u = -(u % 8388608 * 2 ^ 0) := by unfold un; rw [if_pos hs, mag0 u h0 h1 he]
theorem un_pos0 (u : Int) (h0 : 0 ≤ u) (h1 : u < 4294967296) (he : u / 8388608 % 256 = 0) (hs : ¬ 2147483648 ≤ u) : un u = u % 8388608 * 2 ^ 0 := by unfold un; rw [if_neg hs, mag0 u h0 h1 he]
theorem un_neg1 (u : Int) (n : Nat) (h0 : 0 ≤ u) (h1 : u < 4294967296) (hn : u / 8388608 % 256 = n + 1) (hs : 2147483648 ≤ u) : un u = -((u % 8388608 + 8388608) * 2 ^ n) := by unfold un; rw [if_pos hs, mag1 u n h0 h1 hn]
theorem un_pos1 (u : Int) (n : Nat) (h0 : 0 ≤ u) (h1 : u < 4294967296) (hn : u / 8388608 % 256 = n + 1) (hs : ¬ 2147483648 ≤ u) : un u = (u % 8388608 + 8388608) * 2 ^ n := by unfold un; rw [if_neg hs, mag1 u n h0 h1 hn]
set_option maxHeartbeats 800000 in
set_option maxRecDepth 8000 in
theorem rfloat_any (u : Int) (h0 : 0 ≤ u) (h1 : u < 4294967296) (hf : u % 2147483648 < 2139095040) (w : World) :
    Calls Tryz.prog 192 #[.int .u32 u] w fun e w' => ∃ g, e = .returned (.slice (some ⟨g, 0, none⟩) 384 384) ∧ w.heap.size ≤ g ∧ Bits w' g (un u) ∧ Below w.heap.size w w' := by
  have hmk := make384
  have h00 := fun m sh => fm_start w m sh
  generalize mz = mz0 at *
  by_cases he : u / 8388608 % 256 = 0
  · go_enter Tryz.func192, Tryz.ntmps192
    go_wp2
    clear hmk
    go_loopw [7] (fun i wr => ∃ k : Nat, k ≤ 24 ∧ i = .int .i64 k ∧ FMid w wr (u % 8388608) 0 k) (fun i _ => 24 - (intOf i).toNat)
    case atStart => exact ⟨0, by omega, rfl, h00 _ _⟩
    case round =>
      clear h00
      obtain ⟨k, hk, rfl, hm⟩ := hrel
      by_cases hlt : k < 24
      · have HM : Hid (FMid w (wr.setCell ⟨w.heap.size, k, none⟩ (.int .i64 (bit (u % 8388608) k))) (u % 8388608) 0 (k + 1)) := by
          have h := fm_step hm
          simp only [Nat.zero_add] at h
          exact h
        obtain ⟨b1, r1⟩ := hm
        have c1 := r1.cell (show k < 384 by omega)
        have f1 := r1.frozen (k)
        have HB : Hid (wrap64 (((u % 8388608) / 2 ^ k).tmod 2) = bit (u % 8388608) k) := bit_tmod _ _ (by omega)
        have hq : 0 ≤ (u % 8388608) / 2 ^ k := Int.ediv_nonneg (by omega) (Int.le_of_lt (pw k))
        have hq2 : (u % 8388608) / 2 ^ k < 4294967296 := Int.lt_of_le_of_lt (Int.ediv_le_self _ (by omega)) (by omega)
        clear r1 b1
        go_wp2
        exact ⟨⟨k + 1, by omega, by go_num, HM.out⟩, by simp [intOf]; omega⟩
      · obtain rfl : k = 24 := by omega
        have hB := fm_end hm (by omega) (by omega)
        have b1 := hm.1
        clear hm
        by_cases hs : 2147483648 ≤ u
        · have HU : Hid (un u = -((u % 8388608) * 2 ^ 0)) := un_neg0 u h0 h1 he hs
          have hs1 : u / 2147483648 = 1 := by omega
          go_wp2_with (fail)
          refine (rminus_any _ _ _ hB).mono ?_
          rintro e9 w9 ⟨g, rfl, hg, hb9, hw9⟩
          have hB9 : Below w.heap.size w w9 := b1.trans (hw9.mono b1.size)
          have hsz := b1.size
          clear hB hw9
          go_wp2
          go_ret
          exact ⟨_, rfl, by omega, by rw [HU.out]; exact hb9, hB9⟩
        · have HU : Hid (un u = (u % 8388608) * 2 ^ 0) := un_pos0 u h0 h1 he hs
          have hs1 : u / 2147483648 = 0 := by omega
          go_wp2
          go_ret
          exact ⟨_, rfl, by omega, by rw [HU.out]; exact hB, b1⟩
  · obtain ⟨n, hn⟩ : ∃ n : Nat, u / 8388608 % 256 = n + 1 := ⟨(u / 8388608 % 256 - 1).toNat, by omega⟩
    have hn2 : n ≤ 253 := by omega
    clear he
    go_enter Tryz.func192, Tryz.ntmps192
    go_wp2
    clear hmk
    go_loopw [7] (fun i wr => ∃ k : Nat, k ≤ 24 ∧ i = .int .i64 k ∧ FMid w wr (u % 8388608 + 8388608) n k) (fun i _ => 24 - (intOf i).toNat)
    case atStart => exact ⟨0, by omega, rfl, h00 _ _⟩
    case round =>
      clear h00
      obtain ⟨k, hk, rfl, hm⟩ := hrel
      by_cases hlt : k < 24
      · have HM : Hid (FMid w (wr.setCell ⟨w.heap.size, n + k, none⟩ (.int .i64 (bit (u % 8388608 + 8388608) k))) (u % 8388608 + 8388608) n (k + 1)) := fm_step hm
        obtain ⟨b1, r1⟩ := hm
        have c1 := r1.cell (show n + k < 384 by omega)
        have f1 := r1.frozen (n + k)
        have HB : Hid (wrap64 (((u % 8388608 + 8388608) / 2 ^ k).tmod 2) = bit (u % 8388608 + 8388608) k) := bit_tmod _ _ (by omega)
        have hq : 0 ≤ (u % 8388608 + 8388608) / 2 ^ k := Int.ediv_nonneg (by omega) (Int.le_of_lt (pw k))
        have hq2 : (u % 8388608 + 8388608) / 2 ^ k < 4294967296 := Int.lt_of_le_of_lt (Int.ediv_le_self _ (by omega)) (by omega)
        clear r1 b1
        go_wp2
        exact ⟨⟨k + 1, by omega, by go_num, HM.out⟩, by simp [intOf]; omega⟩
      · obtain rfl : k = 24 := by omega
        have hB := fm_end hm (by omega) (by omega)
        have b1 := hm.1
        clear hm
        by_cases hs : 2147483648 ≤ u
        · have HU : Hid (un u = -((u % 8388608 + 8388608) * 2 ^ n)) := un_neg1 u n h0 h1 hn hs
          have hs1 : u / 2147483648 = 1 := by omega
          go_wp2_with (fail)
          refine (rminus_any _ _ _ hB).mono ?_
          rintro e9 w9 ⟨g, rfl, hg, hb9, hw9⟩
          have hB9 : Below w.heap.size w w9 := b1.trans (hw9.mono b1.size)
          have hsz := b1.size
          clear hB hw9
          go_wp2
          go_ret
          exact ⟨_, rfl, by omega, by rw [HU.out]; exact hb9, hB9⟩
        · have HU : Hid (un u = (u % 8388608 + 8388608) * 2 ^ n) := un_pos1 u n h0 h1 hn hs
          have hs1 : u / 2147483648 = 0 := by omega
          go_wp2
          go_ret
          exact ⟨_, rfl, by omega, by rw [HU.out]; exact hB, b1⟩
end Ty
end Go.Proofs.YtgoigcpdfecfhaaGreatDoor
namespace Go.Proofs.YtgoigcpdfecfhaaGreatDoor
namespace Ty
open Go.RowKit
set_option linter.unusedVariables false
theorem Bits.on {w w' : World} {g : Nat} {N : Int} (h : Bits w g N) (hb : Below w.heap.size w w') : Bits w' g N := h.kept hb (World.rowIs.lt h)
theorem below_chain {B : Nat} {w w1 w2 : World} (h : Below B w w1) (h2 : Below w1.heap.size w1 w2) (hB : B ≤ w.heap.size) : Below B w w2 := h.trans (h2.mono (Nat.le_trans hB h.size))
/-- A sum with a float32 added, if it is finite. -/
def pt (A u : Int) : Int := if u % 2147483648 < 2139095040 then A + un u else A
theorem rfinite_any (u : Int) (h0 : 0 ≤ u) (h1 : u < 4294967296) (w : World) :
    Calls Tryz.prog 188 #[.int .u32 u] w fun e w' => e = .returned (.bool (decide (u % 2147483648 < 2139095040))) ∧ w' = w := by
  by_cases h : u % 2147483648 < 2139095040
  · have h2 : ¬ u / 8388608 % 256 = 255 := by omega
    have h3 : (u / 8388608 % 256 != 255) = true := by simpa using h2
    rw [decide_eq_true h]
    go_enter Tryz.func188, Tryz.ntmps188
    go_wp2
    go_ret
    exact ⟨rfl, rfl⟩
  · have h2 : u / 8388608 % 256 = 255 := by omega
    rw [decide_eq_false h]
    go_enter Tryz.func188, Tryz.ntmps188
    go_wp2
    go_ret
    exact ⟨rfl, rfl⟩
theorem two_sums (w : World) (t : TypeId) (A : Int) : ∃ v : World, (w.alloc (.cells (sm A) t)).alloc (.cells #[.int .u64 0, .int .u64 0, .int .u64 0, .int .u64 0, .int .u64 0, .int .u64 0] t) = v ∧ Below w.heap.size w v ∧ v.heap.size = w.heap.size + 1 + 1 ∧ v.heap[w.heap.size]? = some (.cells (sm A) t (0, 0)) ∧ v.heap[w.heap.size + 1]? = some (.cells (sm 0) t (0, 0)) := by
  rw [zeros_sm]
  obtain ⟨h1, h2⟩ := heap_two w (.cells (sm A) t) (.cells (sm 0) t)
  exact ⟨_, rfl, ((Below.refl _ _).alloc (Nat.le_refl _) _).alloc (by simp) _, by simp, h1, h2⟩
set_option maxHeartbeats 800000 in
set_option maxRecDepth 8000 in
theorem rput_any (A u : Int) (h0 : 0 ≤ u) (h1 : u < 4294967296) (w : World) :
    Calls Tryz.prog 106 #[.agg (sm A), .int .u32 u] w fun e w' => e = .returned (.agg (sm (pt A u))) ∧ Below w.heap.size w w' := by
  obtain ⟨v, hv, hvb, hvs, hv0, hv1⟩ := two_sums w 159 A
  have hone := sm_one (pt A u)
  have honeA := sm_one A
  by_cases hf : u % 2147483648 < 2139095040
  · have HU : Hid (pt A u = A + un u) := by show _ = _; unfold pt; rw [if_pos hf]
    have HB : Hid (∀ w, Calls Tryz.prog 191 #[.agg (sm A)] w fun e w' => ∃ g, e = .returned (.slice (some ⟨g, 0, none⟩) 384 384) ∧ w.heap.size ≤ g ∧ Bits w' g A ∧ Below w.heap.size w w') := rbits_any A
    have hsz : (sm A).size = 6 := rfl
    generalize sm A = ca at *
    go_enter Tryz.func106, Tryz.ntmps106
    go_wp2_with (fail)
    clear hv
    refine (rfinite_any u h0 h1 _).mono ?_
    rintro e9 w9 ⟨rfl, hw9⟩
    subst w9
    rw [decide_eq_true hf]
    go_wp2_with (refine wpList_load6 159 _ Tryz.underlying159 sizeRSum rfl _ rfl w.heap.size ca rfl hsz hv0 ?_)
    refine (HB.out _).mono ?_
    rintro e1 w1 ⟨g1, rfl, hg1, hb1, hw1⟩
    go_wp2_with (fail)
    refine (rfloat_any u h0 h1 hf _).mono ?_
    rintro e2 w2 ⟨g2, rfl, hg2, hb2, hw2⟩
    replace hb1 := hb1.on hw2
    go_wp2_with (fail)
    refine (rplus_any A (un u) _ _ _ hb1 hb2).mono ?_
    rintro e3 w3 ⟨g3, rfl, hg3, hb3, hw3⟩
    rw [← HU.out] at hb3
    go_wp2_with (fail)
    refine (rwords_any (pt A u) _ 384 384 _ (by omega) hb3.br (fun i h1 h2 => by omega)).mono ?_
    rintro e4 w4 ⟨rfl, hw4⟩
    have s1 := hw1.size
    have s2 := hw2.size
    have s3 := hw3.size
    have q1 : w4.heap[w.heap.size + 1]? = some (.cells (sm 0) 159 (0, 0)) := by
      rw [hw4.block _ (by omega), hw3.block _ (by omega), hw2.block _ (by omega), hw1.block _ (by omega)]; exact hv1
    have hB4 : Below w.heap.size w w4 := below_chain (below_chain (below_chain (below_chain hvb hw1 (Nat.le_refl _)) hw2 (Nat.le_refl _)) hw3 (Nat.le_refl _)) hw4 (Nat.le_refl _)
    have hbel := below_setRow (w.heap.size + 1) (sm (pt A u)) hB4 (by omega)
    have hld : (loadVar 159 ⟨w.heap.size + 1, 0, none⟩).run Tryz.prog (w4.setRow (w.heap.size + 1) (sm (pt A u))) = .ok (.agg (sm (pt A u))) (w4.setRow (w.heap.size + 1) (sm (pt A u))) :=
      run_loadVar_row _ _ 159 159 _ (0, 0) _ (setRow_heap w4 (w.heap.size + 1) _ _ 159 (0, 0) q1) Tryz.underlying159 rfl sizeRSum
    clear hb1 hb2 hb3 hw1 hw2 hw3 hw4 hB4 hv0 hv1 hvb HB
    go_wp2_with (refine wpList_store6 159 sizeRSum rfl _ _ rfl (w.heap.size + 1) (sm (pt A u)) (sm 0) rfl rfl rfl rfl hone q1 ?_)
    refine bodyPost_ret (v := .agg (sm (pt A u))) ?_ rfl ⟨rfl, hbel⟩
    simp [results, Tryz.results106, asAddr, Act.put, hld]
  · have HU : pt A u = A := by unfold pt; rw [if_neg hf]
    rw [HU] at hone ⊢
    have hsz : (sm A).size = 6 := rfl
    have hbel := below_setRow (w.heap.size + 1) (sm A) hvb (by omega)
    have hld : (loadVar 159 ⟨w.heap.size + 1, 0, none⟩).run Tryz.prog (v.setRow (w.heap.size + 1) (sm A)) = .ok (.agg (sm A)) (v.setRow (w.heap.size + 1) (sm A)) :=
      run_loadVar_row _ _ 159 159 _ (0, 0) _ (setRow_heap v (w.heap.size + 1) _ _ 159 (0, 0) hv1) Tryz.underlying159 rfl sizeRSum
    generalize sm A = ca at *
    go_enter Tryz.func106, Tryz.ntmps106
    go_wp2_with (fail)
    clear hv
    refine (rfinite_any u h0 h1 _).mono ?_
    rintro e9 w9 ⟨rfl, hw9⟩
    subst w9
    rw [decide_eq_false (Int.not_lt.mpr hf)]
    go_wp2_with (first
      | (refine wpList_load6 159 _ Tryz.underlying159 sizeRSum rfl _ rfl w.heap.size ca rfl hsz hv0 ?_)
      | (refine wpList_store6 159 sizeRSum rfl _ _ rfl (w.heap.size + 1) ca (sm 0) rfl rfl hsz rfl hone hv1 ?_))
    refine bodyPost_ret (v := .agg ca) ?_ rfl ⟨rfl, hbel⟩
    simp [results, Tryz.results106, asAddr, Act.put, hld]
end Ty
end Go.Proofs.YtgoigcpdfecfhaaGreatDoor
