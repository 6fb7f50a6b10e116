import Derived.Test.YtbnmjmlcedkoaaaTyR
namespace Go.Proofs.Ytbnmjmlcedkoaaa
namespace Ty
open Go.RowKit
set_option linter.unusedVariables false
theorem pow_lt64 (p : Nat) (hp : p < 64) : (2 : Int) ^ p < 18446744073709551616 := by
  rw [← two64]
  have : 2 ^ p < 2 ^ 64 := Nat.pow_lt_pow_right (by omega) (by omega)
  exact_mod_cast this
theorem wrap_pow (p : Nat) (hp : p < 64) : IntKind.u64.wrap (2 ^ p) = 2 ^ p := by
  rw [IntKind.wrap_u64]; exact Int.emod_eq_of_lt (Int.le_of_lt (pw p)) (pow_lt64 p hp)
/-- A list of L bits of N. -/
def BR (w : World) (a : Option Addr) (L : Nat) (N : Int) : Prop := 0 < L → ∃ g, a = some ⟨g, 0, none⟩ ∧ g < w.heap.size ∧ ∀ i, i < L → w.cell? ⟨g, i, none⟩ = some (.int .i64 (bit N i))
theorem Bits.br {w : World} {g : Nat} {N : Int} (h : Bits w g N) : BR w (some ⟨g, 0, none⟩) 384 N := fun _ => ⟨g, rfl, World.rowIs.lt h, fun i hi => World.rowIs.cell h hi⟩
theorem BR.kept {w w' : World} {a : Option Addr} {L : Nat} {N : Int} (h : BR w a L N) (hb : Below w.heap.size w w') : BR w' a L N := fun h0 => by
  obtain ⟨g, e, hg, hc⟩ := h h0
  exact ⟨g, e, Nat.lt_of_lt_of_le hg hb.size, fun i hi => (hb.cell (p := ⟨g, i, none⟩) hg).trans (hc i hi)⟩
def WMid (w wr : World) (N : Int) (k : Nat) : Prop :=
  Below w.heap.size w wr ∧ wr.rowIs w.heap.size 29 6 (fun i => .int .u64 (wd 0 i)) ∧ wr.rowIs (w.heap.size + 1) 29 6 (fun j => .int .u64 (wd (N % 2 ^ k) j))
theorem wm_start (w : World) (N : Int) : WMid w ((w.alloc (.cells (sm 0) 29)).alloc (.cells (sm 0) 29)) N 0 := by
  obtain ⟨h1, h2⟩ := heap_two w (.cells (sm 0) 29) (.cells (sm 0) 29)
  refine ⟨((Below.refl _ _).alloc (Nat.le_refl _) _).alloc (by simp) _, row_sm h1, (row_sm h2).congr (fun i hi => ?_)⟩
  rw [show N % 2 ^ 0 = 0 from by rw [Int.pow_zero, Int.emod_one]]
theorem wm_one {w wr : World} {N : Int} {k : Nat} (hm : WMid w wr N k) (h : bit N k = 1) : WMid w (wr.setCell ⟨w.heap.size + 1, k / 64, none⟩ (.int .u64 (2 ^ (k % 64) + wd (N % 2 ^ k) (k / 64)))) N (k + 1) := by
  obtain ⟨b1, r0, r1⟩ := hm
  refine ⟨b1.setCell (by show w.heap.size ≤ w.heap.size + 1; omega) _, r0.setOther (by show w.heap.size ≠ w.heap.size + 1; omega) _, (r1.set (k / 64) _).congr (fun i hi => ?_)⟩
  by_cases e : i = k / 64
  · rw [if_pos e, e, (wd_at N k).2, h, Int.mul_one]
  · rw [if_neg e, wd_low N k i e]
theorem wm_zero {w wr : World} {N : Int} {k : Nat} (hm : WMid w wr N k) (h : bit N k = 0) : WMid w wr N (k + 1) := by
  obtain ⟨b1, r0, r1⟩ := hm
  refine ⟨b1, r0, r1.congr (fun i hi => ?_)⟩
  rw [low_bit, h, Int.mul_zero, Int.zero_add]
theorem wm_end {w wr : World} {N : Int} {k : Nat} (hm : WMid w wr N k) (h : ∀ i, k ≤ i → i < 384 → bit N i = 0) (hk : k ≤ 384) : wr.rowIs (w.heap.size + 1) 29 6 (fun j => .int .u64 (wd N j)) := by
  have key : ∀ n, k + n ≤ 384 → WMid w wr N (k + n) := by
    intro n
    induction n with
    | zero => intro _; exact hm
    | succ n ih => intro h1; exact wm_zero (ih (by omega)) (h (k + n) (by omega) (by omega))
  have h2 := key (384 - k) (by omega)
  rw [show k + (384 - k) = 384 from by omega] at h2
  exact h2.2.2.congr (fun i hi => by rw [wd_mod N i hi])
set_option maxHeartbeats 800000 in
set_option maxRecDepth 8000 in
theorem rwords_any (N : Int) (a : Option Addr) (L cap : Nat) (w : World) (hL : L < 4611686018427387904) (hr : BR w a L N) (hz : ∀ i, L ≤ i → i < 384 → bit N i = 0) :
    Calls Try.prog 42 #[.slice a L cap] w fun e w' => e = .returned (.agg (sm N)) ∧ Below w.heap.size w w' := by
  have h0 := wm_start w N
  rw [← zeros_sm] at h0
  have hone := sm_one N
  have HR : Hid (BR w a L N ∧ ∀ i, L ≤ i → i < 384 → bit N i = 0) := ⟨hr, hz⟩
  clear hr hz
  go_enter Try.func42, Try.ntmps42
  go_wp2
  go_loopw [4] (fun i wr => ∃ k : Nat, k ≤ 384 ∧ k ≤ L ∧ i = .int .i64 k ∧ WMid w wr N k) (fun i _ => 384 - (intOf i).toNat)
  case atStart => exact ⟨0, by omega, by omega, rfl, h0⟩
  case round =>
    clear h0
    obtain ⟨k, hk, hkL, rfl, hm⟩ := hrel
    by_cases hlt : k < 384 ∧ k < L
    · obtain ⟨hlt, hlL⟩ := hlt
      obtain ⟨g, rfl, hg, hcell⟩ := HR.out.1 (by omega)
      have cb := (hm.1.cell (p := ⟨g, k, none⟩) hg).trans (hcell k hlL)
      have hbb := bit_b N k
      by_cases h1 : bit N k = 1
      · have HM : Hid (WMid w (wr.setCell ⟨w.heap.size + 1, k / 64, none⟩ (.int .u64 (2 ^ (k % 64) + wd (N % 2 ^ k) (k / 64)))) N (k + 1)) := wm_one hm h1
        obtain ⟨b1, r0, r1⟩ := hm
        have c1 := r1.cell (show k / 64 < 6 by omega)
        have f0 := r1.frozen (k / 64)
        rw [h1] at cb
        have HO : Hid (bits .or .u64 (wd (N % 2 ^ k) (k / 64)) (IntKind.u64.wrap (2 ^ (k % 64))) = 2 ^ (k % 64) + wd (N % 2 ^ k) (k / 64)) := by
          show _ = _
          rw [wrap_pow (k % 64) (Nat.mod_lt _ (by omega))]
          exact or_pow _ _ (wd_b _ _).1 (wd_at N k).1 (Nat.mod_lt _ (by omega))
        clear r0 r1 b1 hone hcell h1 hbb
        go_wp2
        rw [HO.out]
        exact ⟨⟨k + 1, by omega, by omega, by go_num, HM.out⟩, by simp [intOf]; omega⟩
      · have h2 : bit N k = 0 := by omega
        have HM : Hid (WMid w wr N (k + 1)) := wm_zero hm h2
        rw [h2] at cb
        clear hm hone hcell h1 h2 hbb
        go_wp2
        exact ⟨⟨k + 1, by omega, by omega, by go_num, HM.out⟩, by simp [intOf]; omega⟩
    · have q1 := sm_row (wm_end hm (fun i h1 h2 => HR.out.2 i (by omega) h2) hk)
      obtain ⟨b1, r0, r1⟩ := hm
      have q0 := sm_row r0
      have hbel := below_setRow w.heap.size (sm N) b1 (Nat.le_refl _)
      have hld : (loadVar 29 ⟨w.heap.size, 0, none⟩).run Try.prog (wr.setRow w.heap.size (sm N)) = .ok (.agg (sm N)) (wr.setRow w.heap.size (sm N)) :=
        run_loadVar_row _ _ 29 29 _ (0, 0) _ (setRow_heap wr w.heap.size _ _ 29 (0, 0) q0) Try.underlying29 rfl sizeRSum
      clear r0 r1
      by_cases h4 : k < 384
      · have h5 : ¬ k < L := by omega
        clear hlt
        go_wp2_with (first
          | (refine wpList_load6 29 _ Try.underlying29 sizeRSum rfl _ rfl (w.heap.size + 1) (sm N) rfl rfl q1 ?_)
          | (refine wpList_store6 29 sizeRSum rfl _ _ rfl w.heap.size (sm N) (sm 0) rfl rfl rfl rfl hone q0 ?_))
        refine bodyPost_ret (v := .agg (sm N)) ?_ rfl ⟨rfl, hbel⟩
        simp [results, Try.results42, asAddr, Act.put, hld]
      · obtain rfl : k = 384 := by omega
        clear hlt
        go_wp2_with (first
          | (refine wpList_load6 29 _ Try.underlying29 sizeRSum rfl _ rfl (w.heap.size + 1) (sm N) rfl rfl q1 ?_)
          | (refine wpList_store6 29 sizeRSum rfl _ _ rfl w.heap.size (sm N) (sm 0) rfl rfl rfl rfl hone q0 ?_))
        refine bodyPost_ret (v := .agg (sm N)) ?_ rfl ⟨rfl, hbel⟩
        simp [results, Try.results42, asAddr, Act.put, hld]
end Ty
end Go.Proofs.Ytbnmjmlcedkoaaa
