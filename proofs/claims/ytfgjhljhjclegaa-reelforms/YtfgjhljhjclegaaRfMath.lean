import Derived.WalkKit
import Derived.Test.YtfgjhljhjclegaaRtMath
namespace Go.Proofs.Ytfgjhljhjclegaa
namespace Rt
open Go.RowKit
set_option linter.unusedVariables false
/-- Byte i of a number. -/
def byteAt (v : Int) (i : Nat) : Int := v / 2 ^ (8 * i) % 256
theorem byteAt_b (v : Int) (i : Nat) : 0 ≤ byteAt v i ∧ byteAt v i ≤ 255 := by unfold byteAt; omega
/-- So many bytes of a number, the lowest first. -/
def lb (v : Int) : Nat → List Int
  | 0 => []
  | k + 1 => lb v k ++ [byteAt v k]
theorem lb_succ (v : Int) (k : Nat) : lb v (k + 1) = lb v k ++ [byteAt v k] := rfl
theorem lb_len (v : Int) (k : Nat) : (lb v k).length = k := by
  induction k with
  | zero => rfl
  | succ k ih => rw [lb_succ]; simp [ih]
theorem lb_bytes (v : Int) (k : Nat) : Bytes (lb v k) := by
  induction k with
  | zero => intro x hx; cases hx
  | succ k ih =>
    intro x hx
    rw [lb_succ] at hx
    rcases List.mem_append.1 hx with h | h
    · exact ih x h
    · simp at h; subst h; exact byteAt_b v k
theorem lb_get (v : Int) (k i : Nat) (h : i < k) : (lb v k).getD i 0 = byteAt v i := by
  induction k with
  | zero => omega
  | succ k ih =>
    rw [lb_succ, List.getD_eq_getElem?_getD, List.getElem?_append, lb_len]
    by_cases h2 : i < k
    · rw [if_pos h2, ← List.getD_eq_getElem?_getD, ih h2]
    · rw [if_neg h2]
      obtain rfl : i = k := by omega
      simp
theorem over_snoc (L X : List Int) (o : Nat) (x : Int) (h : o + X.length < L.length) : (over L o X).set (o + X.length) x = over L o (X ++ [x]) := by
  unfold over
  have e1 : (L.take o ++ X).length = o + X.length := by simp; omega
  have e2 : L.drop (o + X.length) = L[o + X.length] :: L.drop (o + X.length + 1) := by rw [← List.drop_eq_getElem_cons h]
  rw [List.set_append_right _ _ (by omega), e1, Nat.sub_self, e2]
  simp [Nat.add_assoc]
theorem over_nil (L : List Int) (o : Nat) : over L o [] = L := by unfold over; simp
theorem over_app (L X Y : List Int) : over (over L 0 X) X.length Y = over L 0 (X ++ Y) := by
  unfold over
  simp
theorem pow8 (k : Nat) : (2 : Int) ^ (8 * (k + 1)) = 256 * 2 ^ (8 * k) := by
  rw [show 8 * (k + 1) = 8 * k + 8 from by omega, Int.pow_add]; omega
theorem pow8_pos (k : Nat) : (0 : Int) < 2 ^ (8 * k) := by exact_mod_cast Nat.two_pow_pos (8 * k)
theorem pow8_le (k : Nat) (h : k ≤ 8) : (2 : Int) ^ (8 * k) ≤ 18446744073709551616 := by
  have h1 : 2 ^ (8 * k) ≤ 2 ^ 64 := Nat.pow_le_pow_right (by omega) (by omega)
  have h2 : ((2 ^ (8 * k) : Nat) : Int) ≤ ((2 ^ 64 : Nat) : Int) := by exact_mod_cast h1
  simpa using h2
/-- The number that so many bytes make. -/
def getL (L : List Int) (o : Nat) : Nat → Int
  | 0 => 0
  | k + 1 => getL L o k + L.getD (o + k) 0 * 2 ^ (8 * k)
theorem getL_succ (L : List Int) (o k : Nat) : getL L o (k + 1) = getL L o k + L.getD (o + k) 0 * 2 ^ (8 * k) := rfl
theorem mul_b (x p : Int) (h0 : 0 ≤ x) (h1 : x ≤ 255) (hp : 0 < p) : 0 ≤ x * p ∧ x * p ≤ 255 * p :=
  ⟨Int.mul_nonneg h0 (by omega), Int.mul_le_mul_of_nonneg_right h1 (by omega)⟩
theorem getL_b (L : List Int) (o k : Nat) (h : Bytes L) : 0 ≤ getL L o k ∧ getL L o k < 2 ^ (8 * k) := by
  induction k with
  | zero => simp [getL]
  | succ k ih =>
    have hb := getD_b L h (o + k)
    have hm := mul_b _ _ hb.1 hb.2 (pow8_pos k)
    rw [getL_succ, pow8]
    omega
/-- The bits of the sum so far and the next byte do not meet. -/
theorem get_step (L : List Int) (o k : Nat) (h : Bytes L) (hk : k < 8) : bits .or .u64 (getL L o k) (IntKind.u64.wrap (L.getD (o + k) 0 * 2 ^ (8 * k))) = getL L o (k + 1) := by
  have hg := getL_b L o k h
  have hb := getD_b L h (o + k)
  have hm := mul_b _ _ hb.1 hb.2 (pow8_pos k)
  have h8 := pow8_le (k + 1) (by omega)
  rw [pow8] at h8
  have e : IntKind.u64.wrap (L.getD (o + k) 0 * 2 ^ (8 * k)) = L.getD (o + k) 0 * 2 ^ (8 * k) := by rw [IntKind.wrap_u64]; omega
  have hc : bits .or .u64 (getL L o k) (L.getD (o + k) 0 * 2 ^ (8 * k)) = bits .or .u64 (L.getD (o + k) 0 * 2 ^ (8 * k)) (getL L o k) := by
    rw [u64_or _ _ hg.1 (by omega) hm.1 (by omega), u64_or _ _ hm.1 (by omega) hg.1 (by omega), Nat.or_comm]
  rw [e, hc, bits_join .u64 64 (by decide) (fun n a b => by rw [IntKind.wrap_u64]; omega) (8 * k) _ _ hm.1 (by simp) (by omega) hg.1 hg.2 (by omega), getL_succ]
  omega
theorem getL_of (M : List Int) (o k : Nat) (v : Int) (h : ∀ i, i < k → M.getD (o + i) 0 = byteAt v i) : getL M o k = v % 2 ^ (8 * k) := by
  induction k with
  | zero => simp [getL]
  | succ k ih =>
    rw [getL_succ, ih (fun i hi => h i (by omega)), h k (by omega), pow8]
    unfold byteAt
    have hp := pow8_pos k
    generalize (2 : Int) ^ (8 * k) = p at *
    have e1 := Int.emod_add_mul_ediv v p
    have e2 := Int.emod_add_mul_ediv (v / p) 256
    have e3 : v = (v % p + v / p % 256 * p) + 256 * p * (v / p / 256) := by
      have : v / p % 256 * p + 256 * p * (v / p / 256) = p * (v / p) := by
        have e4 : p * (v / p) = p * (v / p % 256 + 256 * (v / p / 256)) := by rw [e2]
        rw [e4, Int.mul_add, Int.mul_comm p (v / p % 256), ← Int.mul_assoc, Int.mul_comm p 256]
      omega
    have b1 := Int.emod_nonneg v (show p ≠ 0 by omega)
    have b2 := Int.emod_lt_of_pos v hp
    have m1 := mul_b (v / p % 256) p (by omega) (by omega) hp
    have e5 : (v % p + v / p % 256 * p) % (256 * p) = v % p + v / p % 256 * p := Int.emod_eq_of_lt (by omega) (by omega)
    rw [← e5]
    generalize v % p + v / p % 256 * p = y at *
    rw [e3, Int.add_mul_emod_self_left]
theorem getD_over (L Z : List Int) (i : Nat) (h : i < Z.length) : (over L 0 Z).getD i 0 = Z.getD i 0 := by rw [over_getD, if_pos h]
theorem getD_l (X Y : List Int) (i : Nat) (h : i < X.length) : (X ++ Y).getD i 0 = X.getD i 0 := by
  rw [List.getD_eq_getElem?_getD, List.getElem?_append_left h, ← List.getD_eq_getElem?_getD]
theorem getD_r (X Y : List Int) (i : Nat) : (X ++ Y).getD (X.length + i) 0 = Y.getD i 0 := by
  rw [List.getD_eq_getElem?_getD, List.getElem?_append_right (by omega), List.getD_eq_getElem?_getD]; congr 2; omega
/-- A number that lies in a row is read back. -/
theorem get_at (L X Y : List Int) (o k : Nat) (v : Int) (ho : X.length = o) (h0 : 0 ≤ v) (h1 : v < 2 ^ (8 * k)) : getL (over L 0 (X ++ (lb v k ++ Y))) o k = v := by
  subst ho
  rw [getL_of _ _ _ v (fun i hi => by
    rw [getD_over _ _ _ (by simp [lb_len]; omega), getD_r, getD_l _ _ _ (by rw [lb_len]; exact hi), lb_get v k i hi]), Int.emod_eq_of_lt h0 h1]
end Rt
end Go.Proofs.Ytfgjhljhjclegaa
