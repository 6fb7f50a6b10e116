import Derived.Test.YtobhmadckoemdaaTyR
namespace Go.Proofs.Ytobhmadckoemdaa
namespace Ty
open Go.RowKit
set_option linter.unusedVariables false
theorem pow_lt64 (p : Nat) (hp : p < 64) : (2 : Int) ^ p < 18446744073709551616 := by
  rw [← two64]
  have : 2 ^ p < 2 ^ 64 := Nat.pow_lt_pow_right (by omega) (by omega)
  exact_mod_cast this
theorem wrap_pow (p : Nat) (hp : p < 64) : IntKind.u64.wrap (2 ^ p) = 2 ^ p := by
  rw [IntKind.wrap_u64]; exact Int.emod_eq_of_lt (Int.le_of_lt (pw p)) (pow_lt64 p hp)
/-- A list of L bits of N. -/
def BR (w : World) (a : Option Addr) (L : Nat) (N : Int) : Prop := 0 < L → ∃ g, a = some ⟨g, 0, none⟩ ∧ g < w.heap.size ∧ ∀ i, i < L → w.cell? ⟨g, i, none⟩ = some (.int .i64 (bit N i))
theorem Bits.br {w : World} {g : Nat} {N : Int} (h : Bits w g N) : BR w (some ⟨g, 0, none⟩) 384 N := fun _ => ⟨g, rfl, World.rowIs.lt h, fun i hi => World.rowIs.cell h hi⟩
theorem BR.kept {w w' : World} {a : Option Addr} {L : Nat} {N : Int} (h : BR w a L N) (hb : Below w.heap.size w w') : BR w' a L N := fun h0 => by
  obtain ⟨g, e, hg, hc⟩ := h h0
  exact ⟨g, e, Nat.lt_of_lt_of_le hg hb.size, fun i hi => (hb.cell (p := ⟨g, i, none⟩) hg).trans (hc i hi)⟩
def WMid (w wr : World) (N : Int) (k : Nat) : Prop :=
  Below w.heap.size w wr ∧ wr.rowIs w.heap.size 40 6 (fun i => .int .u64 (wd 0 i)) ∧ wr.rowIs (w.heap.size + 1) 40 6 (fun j => .int .u64 (wd (N % 2 ^ k) j))
theorem wm_start (w : World) (N : Int) : WMid w ((w.alloc (.cells (sm 0) 40)).alloc (.cells (sm 0) 40)) N 0 := by
  obtain ⟨h1, h2⟩ := heap_two w (.cells (sm 0) 40) (.cells (sm 0) 40)
  refine ⟨((Below.refl _ _).alloc (Nat.le_refl _) _).alloc (by simp) _, row_sm h1, (row_sm h2).congr (fun i hi => ?_)⟩
  rw [show N % 2 ^ 0 = 0 from by rw [Int.pow_zero, Int.emod_one]]
theorem wm_one {w wr : World} {N : Int} {k : Nat} (hm : WMid w wr N k) (h : bit N k = 1) : WMid w (wr.setCell ⟨w.heap.size + 1, k / 64, none⟩ (.int .u64 (2 ^ (k % 64) + wd (N % 2 ^ k) (k / 64)))) N (k + 1) := by
  obtain ⟨b1, r0, r1⟩ := hm
  refine ⟨b1.setCell (by show w.heap.size ≤ w.heap.size + 1; omega) _, r0.setOther (by show w.heap.size ≠ w.heap.size + 1; omega) _, (r1.set (k / 64) _).congr (fun i hi => ?_)⟩
  by_cases e : i = k / 64
  · rw [if_pos e, e, (wd_at N k).2, h, Int.mul_one]
  · rw [if_neg e, wd_low N k i e]
theorem wm_zero {w wr : World} {N : Int} {k : Nat} (hm : WMid w wr N k) (h : bit N k = 0) : WMid w wr N (k + 1) := by
  obtain ⟨b1, r0, r1⟩ := hm
  refine ⟨b1, r0, r1.congr (fun i hi => ?_)⟩
  rw [low_bit, h, Int.mul_zero, Int.zero_add]
theorem wm_end {w wr : World} {N : Int} {k : Nat} (hm : WMid w wr N k) (h : ∀ i, k ≤ i → i < 384 → bit N i = 0) (hk : k ≤ 384) : wr.rowIs (w.heap.size + 1) 40 6 (fun j => .int .u64 (wd N j)) := by
  have key : ∀ n, k + n ≤ 384 → WMid w wr N (k + n) := by
    intro n
    induction n with
    | zero => intro _; exact hm
    | succ n ih => intro h1; exact wm_zero (ih (by omega)) (h (k + n) (by omega) (by omega))
  have h2 := key (384 - k) (by omega)
  rw [show k + (384 - k) = 384 from by omega] at h2
  exact h2.2.2.congr (fun i hi => by rw [wd_mod N i hi])
end Ty
end Go.Proofs.Ytobhmadckoemdaa
