import Derived.Test.YtdphfhpohlodcaaRows
import Derived.Test.YtdphfhpohlodcaaJnMath
import Derived.WalkKit
import Derived.BigQuiet
import Derived.Deep.QuietTactic
import Derived.WalkSmall
import Derived.Deep.WholeRow
namespace Go.Proofs.Ytdphfhpohlodcaa
namespace Jn
open Go.RowKit
set_option linter.unusedVariables false
theorem ret_int {k : IntKind} {a b : Int} (h : a = b) : Ending.returned (.int k a) = .returned (.int k b) := by rw [h]
set_option maxHeartbeats 400000 in
theorem of_any (c : Array Value) (M : Nat → Int) (r : Int) (w : World) (hc : Arr c M) (hr : W32 r) :
    Calls Try.prog 18 #[.agg c, .int .u32 r] w fun e w' => e = .returned (.int .u32 (ofL M r 32)) ∧ Below w.heap.size w w' := by
  obtain ⟨hsz, hcell⟩ := hc
  go_enter Try.func18, Try.ntmps18
  go_wp2
  have HC : Hid (∀ i, i < 32 → (w.alloc (.cells c 46)).cell? ⟨w.heap.size, i, none⟩ = some (.int .u32 (M i)) ∧ W32 (M i)) := fun i hi => ⟨by simp [(hcell i hi).1], (hcell i hi).2⟩
  have HB : Below w.heap.size w (w.alloc (.cells c 46)) := (Below.refl _ _).alloc (Nat.le_refl _) _
  clear hcell hsz
  generalize w.alloc (.cells c 46) = u at *
  go_loopw [5, 7] (fun s i wr => ∃ j : Nat, j ≤ 32 ∧ i = .int .i64 j ∧ s = .int .u32 (ofL M r j) ∧ ∃ m, wr = u.drewN m) (fun _ i _ => 32 - (intOf i).toNat)
  case atStart => exact ⟨0, by omega, rfl, rfl, 0, rfl⟩
  case round =>
    obtain ⟨j, hj, rfl, rfl, m, rfl⟩ := hrel
    by_cases hlt : j < 32
    · obtain ⟨g1, g2⟩ := HC.out j hlt
      have hk := mask (M j) r j g2 hr
      have HS : Hid (ofL M r (j + 1) = bits .xor .u32 (ofL M r j) (pick (M j) r j)) := rfl
      obtain ⟨r0, r1⟩ := hr
      obtain ⟨g3, g4⟩ := g2
      obtain ⟨o0, o1⟩ := ofL_b M r j
      go_wp2
      go_quiet (fail)
      go_wp2
      exact ⟨⟨j + 1, by omega, by go_num, rfl, _, rfl⟩, by simp [intOf]; omega⟩
    · obtain rfl : j = 32 := by omega
      go_wp2
      go_ret
      exact ⟨rfl, below_drewN HB _⟩
set_option maxHeartbeats 400000 in
theorem through_any (c : Array Value) (M : Nat → Int) (r : Int) (w : World) (hc : Arr c M) (hr : W32 r) :
    Calls Try.prog 21 #[.agg c, .int .u32 r] w fun e w' => e = .returned (.int .u32 (ofL M r 32)) ∧ Below w.heap.size w w' := by
  obtain ⟨hsz, hcell⟩ := hc
  go_enter Try.func21, Try.ntmps21
  go_wp2
  have HC : Hid (∀ i, i < 32 → (w.alloc (.cells c 45)).cell? ⟨w.heap.size, i, none⟩ = some (.int .u32 (M i)) ∧ W32 (M i)) := fun i hi => ⟨by simp [(hcell i hi).1], (hcell i hi).2⟩
  have HB : Below w.heap.size w (w.alloc (.cells c 45)) := (Below.refl _ _).alloc (Nat.le_refl _) _
  clear hcell hsz
  generalize w.alloc (.cells c 45) = u at *
  go_loop [5, 6] (fun s i => ∃ j : Nat, j ≤ 32 ∧ i = .int .i64 j ∧ s = .int .u32 (ofL M r j)) (fun _ i => 32 - (intOf i).toNat)
  case atStart => exact ⟨0, by omega, rfl, rfl⟩
  case round =>
    obtain ⟨j, hj, rfl, rfl⟩ := hrel
    by_cases hlt : j < 32
    · obtain ⟨g1, g2⟩ := HC.out j hlt
      have HS : Hid (ofL M r (j + 1) = bits .xor .u32 (ofL M r j) (pick (M j) r j)) := rfl
      have HX : Hid (bits .xor .u32 (ofL M r j) 0 = ofL M r j) := xor_zero _ (ofL_b M r j)
      have HP : Hid (pick (M j) r j = if r / 2 ^ j % 2 = 1 then M j else 0) := rfl
      obtain ⟨r0, r1⟩ := hr
      obtain ⟨g3, g4⟩ := g2
      obtain ⟨o0, o1⟩ := ofL_b M r j
      have hq0 := (shr_b r j ⟨r0, r1⟩).1
      have hq1 := (shr_b r j ⟨r0, r1⟩).2
      by_cases hbit : r / 2 ^ j % 2 = 1
      · go_wp2
        go_round
        case rel => exact ⟨j + 1, by omega, by go_num, by rw [HS.out, HP.out, if_pos hbit]⟩
        case measure => simp [intOf]; omega
      · have hb' : (r / 2 ^ j % 2 == 1) = false := by simpa using hbit
        go_wp2
        go_round
        case rel => exact ⟨j + 1, by omega, by go_num, by rw [HS.out, HP.out, if_neg hbit, HX.out]⟩
        case measure => simp [intOf]; omega
    · obtain rfl : j = 32 := by omega
      go_wp2
      go_ret
      exact ⟨rfl, HB⟩
def dn (r : Int) : Int := if r % 2 = 1 then bits .xor .u32 (r / 2) 3988292384 else r / 2
theorem down_any (r : Int) (w : World) (h0 : 0 ≤ r) (h1 : r < 4294967296) : Calls Try.prog 20 #[.int .u32 r] w fun e w' => e = .returned (.int .u32 (dn r)) ∧ w' = w := by
  by_cases h : r % 2 = 1
  · have H : Hid (dn r = bits .xor .u32 (r / 2) 3988292384) := by show _ = _; unfold dn; rw [if_pos h]
    go_enter Try.func20, Try.ntmps20
    go_wp2
    go_ret
    exact ⟨ret_int H.out.symm, rfl⟩
  · have H : Hid (dn r = r / 2) := by show _ = _; unfold dn; rw [if_neg h]
    have h' : (r % 2 == 1) = false := by simpa using h
    go_enter Try.func20, Try.ntmps20
    go_wp2
    go_ret
    exact ⟨ret_int H.out.symm, rfl⟩
end Jn
end Go.Proofs.Ytdphfhpohlodcaa
