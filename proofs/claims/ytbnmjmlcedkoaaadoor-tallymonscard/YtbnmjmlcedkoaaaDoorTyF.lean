import Derived.Test.YtbnmjmlcedkoaaaDoorTyT
namespace Go.Proofs.YtbnmjmlcedkoaaaDoor
namespace Ty
open Go.RowKit
set_option linter.unusedVariables false
def M0 (s : Int) : Int := if s / 8388608 = 0 then s else s % 8388608 + 8388608
def S0 (s : Int) : Nat := if s / 8388608 = 0 then 0 else (s / 8388608 - 1).toNat
/-- The units of a finite float32. -/
def mag (u : Int) : Int := M0 (u % 2147483648) * 2 ^ S0 (u % 2147483648)
def un (u : Int) : Int := if 2147483648 ≤ u then -mag u else mag u
def FMid (w wr : World) (m : Int) (sh k : Nat) : Prop :=
  Below w.heap.size w wr ∧ wr.rowIs w.heap.size 3 384 (fun j => .int .i64 (if j < sh + k then bit (m * 2 ^ sh) j else 0))
theorem fm_start (w : World) (m : Int) (sh : Nat) : FMid w (w.alloc (.cells mz 3)) m sh 0 := by
  refine ⟨(Below.refl _ _).alloc (Nat.le_refl _) _, (mz_row w).congr (fun i hi => ?_)⟩
  by_cases h : i < sh + 0
  · rw [if_pos h, bit_shift_low m sh i (by omega)]
  · rw [if_neg h]
theorem fm_step {w wr : World} {m : Int} {sh k : Nat} (hm : FMid w wr m sh k) : FMid w (wr.setCell ⟨w.heap.size, sh + k, none⟩ (.int .i64 (bit m k))) m sh (k + 1) := by
  obtain ⟨b1, r1⟩ := hm
  refine ⟨b1.setCell (Nat.le_refl _) _, (r1.set (sh + k) _).congr (fun i hi => ?_)⟩
  by_cases e : i = sh + k
  · rw [if_pos e, if_pos (by omega), e, bit_shift]
  · rw [if_neg e]
    by_cases h : i < sh + k
    · rw [if_pos h, if_pos (by omega)]
    · rw [if_neg h, if_neg (by omega)]
theorem fm_end {w wr : World} {m : Int} {sh : Nat} (hm : FMid w wr m sh 24) (h0 : 0 ≤ m) (h1 : m < 16777216) : Bits wr w.heap.size (m * 2 ^ sh) := by
  refine hm.2.congr (fun i hi => ?_)
  by_cases h : i < sh + 24
  · rw [if_pos h]
  · rw [if_neg h]
    obtain ⟨j, rfl⟩ : ∃ j, i = sh + j := ⟨i - sh, by omega⟩
    rw [bit_shift, bit_zero_up m j 24 h0 (by simpa using h1) (by omega)]
theorem bit_tmod (m : Int) (k : Nat) (h : 0 ≤ m) : wrap64 ((m / 2 ^ k).tmod 2) = bit m k := by
  have h1 := bit_b m k
  rw [Int.tmod_eq_emod_of_nonneg (Int.ediv_nonneg h (Int.le_of_lt (pw _)))]
  exact IntWalk.wrap64_in _ ⟨by unfold bit at h1; omega, by unfold bit at h1; omega⟩
theorem mag0 (u : Int) (h0 : 0 ≤ u) (h1 : u < 4294967296) (he : u / 8388608 % 256 = 0) : mag u = u % 8388608 * 2 ^ 0 := by
  unfold mag M0 S0
  rw [if_pos (by omega), if_pos (by omega), show u % 2147483648 = u % 8388608 from by omega]
theorem mag1 (u : Int) (n : Nat) (h0 : 0 ≤ u) (h1 : u < 4294967296) (hn : u / 8388608 % 256 = n + 1) : mag u = (u % 8388608 + 8388608) * 2 ^ n := by
  unfold mag M0 S0
  rw [if_neg (by omega), if_neg (by omega), show u % 2147483648 % 8388608 = u % 8388608 from by omega, show (u % 2147483648 / 8388608 - 1).toNat = n from by omega]
theorem un_neg0 (u : Int) (h0 : 0 ≤ u) (h1 : u < 4294967296) (he : u / 8388608 % 256 = 0) (hs : 2147483648 ≤ u) : un u = -(u % 8388608 * 2 ^ 0) := by unfold un; rw [if_pos hs, mag0 u h0 h1 he]
theorem un_pos0 (u : Int) (h0 : 0 ≤ u) (h1 : u < 4294967296) (he : u / 8388608 % 256 = 0) (hs : ¬ 2147483648 ≤ u) : un u = u % 8388608 * 2 ^ 0 := by unfold un; rw [if_neg hs, mag0 u h0 h1 he]
theorem un_neg1 (u : Int) (n : Nat) (h0 : 0 ≤ u) (h1 : u < 4294967296) (hn : u / 8388608 % 256 = n + 1) (hs : 2147483648 ≤ u) : un u = -((u % 8388608 + 8388608) * 2 ^ n) := by unfold un; rw [if_pos hs, mag1 u n h0 h1 hn]
theorem un_pos1 (u : Int) (n : Nat) (h0 : 0 ≤ u) (h1 : u < 4294967296) (hn : u / 8388608 % 256 = n + 1) (hs : ¬ 2147483648 ≤ u) : un u = (u % 8388608 + 8388608) * 2 ^ n := by unfold un; rw [if_neg hs, mag1 u n h0 h1 hn]
set_option maxHeartbeats 800000 in
set_option maxRecDepth 8000 in
theorem rfloat_any (u : Int) (h0 : 0 ≤ u) (h1 : u < 4294967296) (hf : u % 2147483648 < 2139095040) (w : World) :
    Calls Tryd.prog 25 #[.int .u32 u] w fun e w' => ∃ g, e = .returned (.slice (some ⟨g, 0, none⟩) 384 384) ∧ w.heap.size ≤ g ∧ Bits w' g (un u) ∧ Below w.heap.size w w' := by
  have hmk := make384
  have h00 := fun m sh => fm_start w m sh
  generalize mz = mz0 at *
  by_cases he : u / 8388608 % 256 = 0
  · go_enter Tryd.func25, Tryd.ntmps25
    go_wp2
    clear hmk
    go_loopw [7] (fun i wr => ∃ k : Nat, k ≤ 24 ∧ i = .int .i64 k ∧ FMid w wr (u % 8388608) 0 k) (fun i _ => 24 - (intOf i).toNat)
    case atStart => exact ⟨0, by omega, rfl, h00 _ _⟩
    case round =>
      clear h00
      obtain ⟨k, hk, rfl, hm⟩ := hrel
      by_cases hlt : k < 24
      · have HM : Hid (FMid w (wr.setCell ⟨w.heap.size, k, none⟩ (.int .i64 (bit (u % 8388608) k))) (u % 8388608) 0 (k + 1)) := by
          have h := fm_step hm
          simp only [Nat.zero_add] at h
          exact h
        obtain ⟨b1, r1⟩ := hm
        have c1 := r1.cell (show k < 384 by omega)
        have f1 := r1.frozen (k)
        have HB : Hid (wrap64 (((u % 8388608) / 2 ^ k).tmod 2) = bit (u % 8388608) k) := bit_tmod _ _ (by omega)
        have hq : 0 ≤ (u % 8388608) / 2 ^ k := Int.ediv_nonneg (by omega) (Int.le_of_lt (pw k))
        have hq2 : (u % 8388608) / 2 ^ k < 4294967296 := Int.lt_of_le_of_lt (Int.ediv_le_self _ (by omega)) (by omega)
        clear r1 b1
        go_wp2
        exact ⟨⟨k + 1, by omega, by go_num, HM.out⟩, by simp [intOf]; omega⟩
      · obtain rfl : k = 24 := by omega
        have hB := fm_end hm (by omega) (by omega)
        have b1 := hm.1
        clear hm
        by_cases hs : 2147483648 ≤ u
        · have HU : Hid (un u = -((u % 8388608) * 2 ^ 0)) := un_neg0 u h0 h1 he hs
          have hs1 : u / 2147483648 = 1 := by omega
          go_wp2_with (fail)
          refine (rminus_any _ _ _ hB).mono ?_
          rintro e9 w9 ⟨g, rfl, hg, hb9, hw9⟩
          have hB9 : Below w.heap.size w w9 := b1.trans (hw9.mono b1.size)
          have hsz := b1.size
          clear hB hw9
          go_wp2
          go_ret
          exact ⟨_, rfl, by omega, by rw [HU.out]; exact hb9, hB9⟩
        · have HU : Hid (un u = (u % 8388608) * 2 ^ 0) := un_pos0 u h0 h1 he hs
          have hs1 : u / 2147483648 = 0 := by omega
          go_wp2
          go_ret
          exact ⟨_, rfl, by omega, by rw [HU.out]; exact hB, b1⟩
  · obtain ⟨n, hn⟩ : ∃ n : Nat, u / 8388608 % 256 = n + 1 := ⟨(u / 8388608 % 256 - 1).toNat, by omega⟩
    have hn2 : n ≤ 253 := by omega
    clear he
    go_enter Tryd.func25, Tryd.ntmps25
    go_wp2
    clear hmk
    go_loopw [7] (fun i wr => ∃ k : Nat, k ≤ 24 ∧ i = .int .i64 k ∧ FMid w wr (u % 8388608 + 8388608) n k) (fun i _ => 24 - (intOf i).toNat)
    case atStart => exact ⟨0, by omega, rfl, h00 _ _⟩
    case round =>
      clear h00
      obtain ⟨k, hk, rfl, hm⟩ := hrel
      by_cases hlt : k < 24
      · have HM : Hid (FMid w (wr.setCell ⟨w.heap.size, n + k, none⟩ (.int .i64 (bit (u % 8388608 + 8388608) k))) (u % 8388608 + 8388608) n (k + 1)) := fm_step hm
        obtain ⟨b1, r1⟩ := hm
        have c1 := r1.cell (show n + k < 384 by omega)
        have f1 := r1.frozen (n + k)
        have HB : Hid (wrap64 (((u % 8388608 + 8388608) / 2 ^ k).tmod 2) = bit (u % 8388608 + 8388608) k) := bit_tmod _ _ (by omega)
        have hq : 0 ≤ (u % 8388608 + 8388608) / 2 ^ k := Int.ediv_nonneg (by omega) (Int.le_of_lt (pw k))
        have hq2 : (u % 8388608 + 8388608) / 2 ^ k < 4294967296 := Int.lt_of_le_of_lt (Int.ediv_le_self _ (by omega)) (by omega)
        clear r1 b1
        go_wp2
        exact ⟨⟨k + 1, by omega, by go_num, HM.out⟩, by simp [intOf]; omega⟩
      · obtain rfl : k = 24 := by omega
        have hB := fm_end hm (by omega) (by omega)
        have b1 := hm.1
        clear hm
        by_cases hs : 2147483648 ≤ u
        · have HU : Hid (un u = -((u % 8388608 + 8388608) * 2 ^ n)) := un_neg1 u n h0 h1 hn hs
          have hs1 : u / 2147483648 = 1 := by omega
          go_wp2_with (fail)
          refine (rminus_any _ _ _ hB).mono ?_
          rintro e9 w9 ⟨g, rfl, hg, hb9, hw9⟩
          have hB9 : Below w.heap.size w w9 := b1.trans (hw9.mono b1.size)
          have hsz := b1.size
          clear hB hw9
          go_wp2
          go_ret
          exact ⟨_, rfl, by omega, by rw [HU.out]; exact hb9, hB9⟩
        · have HU : Hid (un u = (u % 8388608 + 8388608) * 2 ^ n) := un_pos1 u n h0 h1 hn hs
          have hs1 : u / 2147483648 = 0 := by omega
          go_wp2
          go_ret
          exact ⟨_, rfl, by omega, by rw [HU.out]; exact hB, b1⟩
end Ty
end Go.Proofs.YtbnmjmlcedkoaaaDoor
