import Derived.Test.YtipnlcnikpngcaaDoorRows
import Derived.Test.YtipnlcnikpngcaaDoorTyMath
import Derived.WalkKit
import Derived.BigQuiet
import Derived.Deep.QuietTactic
import Derived.WalkSmall
import Derived.Handy
import Derived.Deep.OwnRows
import Derived.Deep.WholeRow
import Derived.Laws.Externs
namespace Go.Proofs.YtipnlcnikpngcaaDoor
namespace Ty
open Go.RowKit
set_option linter.unusedVariables false
theorem two64 : (2 : Int) ^ 64 = 18446744073709551616 := by decide
def wd (N : Int) (i : Nat) : Int := N / 2 ^ (64 * i) % 18446744073709551616
theorem wd_dg (N : Int) (i : Nat) : wd N i = dg 64 N i := by unfold wd dg; rw [two64]
theorem wd_b (N : Int) (i : Nat) : 0 ≤ wd N i ∧ wd N i < 18446744073709551616 := by unfold wd; omega
/-- The six words of a number, which comes round. -/
def sm (N : Int) : Array Value := #[.int .u64 (wd N 0), .int .u64 (wd N 1), .int .u64 (wd N 2), .int .u64 (wd N 3), .int .u64 (wd N 4), .int .u64 (wd N 5)]
theorem sm_get (N : Int) (i : Nat) (h : i < 6) : (sm N)[i]? = some (.int .u64 (wd N i)) := by
  match i, h with
  | 0, _ => rfl
  | 1, _ => rfl
  | 2, _ => rfl
  | 3, _ => rfl
  | 4, _ => rfl
  | 5, _ => rfl
theorem sm_of (c : Array Value) (N : Int) (hs : c.size = 6) (h : ∀ i, i < 6 → c[i]? = some (.int .u64 (wd N i))) : c = sm N := by
  apply Array.ext_getElem?
  intro i
  by_cases hi : i < 6
  · rw [h i hi, sm_get N i hi]
  · rw [Array.getElem?_eq_none (by omega), Array.getElem?_eq_none (by show 6 ≤ i; omega)]
theorem wd_add (A B : Int) (i : Nat) : (wd A i + wd B i + cr 64 A B i) % 18446744073709551616 = wd (A + B) i ∧ (wd A i + wd B i + cr 64 A B i) / 18446744073709551616 = cr 64 A B (i + 1) := by
  have h := add_step 64 A B i
  rw [two64] at h
  rw [wd_dg, wd_dg, wd_dg]; exact h
theorem add64 (x y c : Int) (hx : 0 ≤ x) (hy : 0 ≤ y) (hc : 0 ≤ c) (hc1 : c ≤ 1) (w : World) : (callFunc 56 #[.int .u64 x, .int .u64 y, .int .u64 c]).run Tryd.prog w =
    .ok (.value (.tuple #[.int .u64 ((x + y + c) % 18446744073709551616), .int .u64 ((x + y + c) / 18446744073709551616)])) w := by
  rw [run_callFunc_extern Tryd.func56 (by kernel_rfl) (by kernel_rfl) (by kernel_rfl) (e := add64Entry) (by kernel_rfl), run_add64 x y c hx hy hc hc1]
  simp [Result.andThen]
def sub64Entry : Array Value → Sem Value := fun args => do
  let (x, y, b) ← Extern.MathBitsCarry.three "Sub64" args
  pure (Extern.MathBitsCarry.pair ((x + Extern.MathBitsCarry.m64 - y - b) % Extern.MathBitsCarry.m64) (if x < y + b then 1 else 0))
theorem run_sub64 {P : Program} (y c : Int) (hy : 0 ≤ y) (hy1 : y < 18446744073709551616) (hc0 : 0 ≤ c) (hc : c ≤ 1) (w : World) :
    (sub64Entry #[.int .u64 0, .int .u64 y, .int .u64 c]).run P w =
      .ok (.tuple #[.int .u64 ((0 - y - c) % 18446744073709551616), .int .u64 (-((0 - y - c) / 18446744073709551616))]) w := by
  have key : ∀ k : Nat, k ≤ 1 → (sub64Entry #[.int .u64 0, .int .u64 y, .int .u64 (k : Int)]).run P w =
      .ok (Extern.MathBitsCarry.pair ((0 + Extern.MathBitsCarry.m64 - y.toNat - k) % Extern.MathBitsCarry.m64) (if 0 < y.toNat + k then 1 else 0)) w := by
    intro k hk
    have : k = 0 ∨ k = 1 := by omega
    rcases this with rfl | rfl <;> rfl
  obtain ⟨k, rfl⟩ := Int.eq_ofNat_of_zero_le hc0
  rw [key k (by omega)]
  obtain ⟨Y, rfl⟩ := Int.eq_ofNat_of_zero_le hy
  simp only [Extern.MathBitsCarry.pair, Extern.MathBitsCarry.m64, Int.toNat_natCast]
  congr 4
  · congr 1
    simp only [Int.ofNat_eq_natCast]; omega
  · congr 2
    split <;> simp only [Int.ofNat_eq_natCast] <;> omega
theorem sub64 (y c : Int) (hy : 0 ≤ y) (hy1 : y < 18446744073709551616) (hc : 0 ≤ c) (hc1 : c ≤ 1) (w : World) : (callFunc 55 #[.int .u64 0, .int .u64 y, .int .u64 c]).run Tryd.prog w =
    .ok (.value (.tuple #[.int .u64 ((0 - y - c) % 18446744073709551616), .int .u64 (-((0 - y - c) / 18446744073709551616))])) w := by
  rw [run_callFunc_extern Tryd.func55 (by kernel_rfl) (by kernel_rfl) (by kernel_rfl) (e := sub64Entry) (by kernel_rfl), run_sub64 y c hy hy1 hc hc1]
  simp [Result.andThen]
theorem wd_neg (A : Int) (i : Nat) : (0 - wd A i - bw 64 A i) % 18446744073709551616 = wd (-A) i ∧ -((0 - wd A i - bw 64 A i) / 18446744073709551616) = bw 64 A (i + 1) := by
  have h := neg_step 64 A i
  rw [two64] at h
  rw [wd_dg, wd_dg]; exact h
theorem wd_mod (A : Int) (i : Nat) (h : i < 6) : wd (A % 2 ^ 384) i = wd A i := by
  have e : (2 : Int) ^ 384 = 2 ^ (64 * i) * (18446744073709551616 * 2 ^ (384 - 64 * (i + 1))) := by
    rw [← two64, ← Int.pow_add, ← Int.pow_add]; congr 1; omega
  unfold wd
  rw [e]
  have hP := pw (64 * i)
  have hR := pw (384 - 64 * (i + 1))
  generalize (2 : Int) ^ (64 * i) = P at *
  generalize (2 : Int) ^ (384 - 64 * (i + 1)) = R at *
  have hQ : 0 < 18446744073709551616 * R := by omega
  rw [low_succ P _ A hP hQ, Int.add_comm, Int.add_mul_ediv_left _ _ (Int.ne_of_gt hP), Int.ediv_eq_zero_of_lt (Int.emod_nonneg _ (Int.ne_of_gt hP)) (Int.emod_lt_of_pos _ hP), Int.zero_add]
  rw [Int.emod_emod_of_dvd _ (Int.dvd_mul_right _ _)]
end Ty
end Go.Proofs.YtipnlcnikpngcaaDoor
