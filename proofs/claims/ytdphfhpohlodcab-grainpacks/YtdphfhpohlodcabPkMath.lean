import Derived.WalkKit
namespace Go.Proofs.Ytdphfhpohlodcab
namespace Pk
open Go.RowKit
/-- Byte i of a number. -/
def byteAt (v : Int) (i : Nat) : Int := v / 2 ^ (8 * i) % 256
theorem byteAt_b (v : Int) (i : Nat) : 0 ≤ byteAt v i ∧ byteAt v i ≤ 255 := by unfold byteAt; omega
def putL (L : List Int) (o : Nat) (v : Int) : Nat → List Int
  | 0 => L
  | k + 1 => (putL L o v k).set (o + k) (byteAt v k)
theorem putL_len (L : List Int) (o : Nat) (v : Int) (k : Nat) : (putL L o v k).length = L.length := by
  induction k with
  | zero => rfl
  | succ k ih => unfold putL; rw [List.length_set, ih]
def Bytes (L : List Int) : Prop := ∀ x ∈ L, 0 ≤ x ∧ x ≤ 255
theorem putL_bytes (L : List Int) (o : Nat) (v : Int) (k : Nat) (h : Bytes L) : Bytes (putL L o v k) := by
  induction k with
  | zero => exact h
  | succ k ih =>
    intro x hx
    unfold putL at hx
    rcases List.mem_or_eq_of_mem_set hx with h1 | h1
    · exact ih x h1
    · subst h1; exact byteAt_b v k
theorem set_take (L : List Int) (n i : Nat) (x : Int) : (L.set i x).take n = (L.take n).set i x := List.take_set
theorem putL_take (L : List Int) (o : Nat) (v : Int) (k n : Nat) : (putL L o v k).take n = putL (L.take n) o v k := by
  induction k with
  | zero => rfl
  | succ k ih => unfold putL; rw [set_take, ih]
theorem putL_past (L : List Int) (o : Nat) (v : Int) (k n : Nat) (h : o + k ≤ n) : (putL L o v k).getD n 0 = L.getD n 0 := by
  induction k with
  | zero => rfl
  | succ k ih =>
    unfold putL
    rw [List.getD_eq_getElem?_getD, List.getElem?_set_ne (by omega), ← List.getD_eq_getElem?_getD, ih (by omega)]
/-- The number that so many bytes make. -/
def getL (L : List Int) (o : Nat) : Nat → Int
  | 0 => 0
  | k + 1 => getL L o k + L.getD (o + k) 0 * 2 ^ (8 * k)
theorem getL_succ (L : List Int) (o k : Nat) : getL L o (k + 1) = getL L o k + L.getD (o + k) 0 * 2 ^ (8 * k) := rfl
theorem pow8 (k : Nat) : (2 : Int) ^ (8 * (k + 1)) = 256 * 2 ^ (8 * k) := by
  rw [show 8 * (k + 1) = 8 * k + 8 from by omega, Int.pow_add]; omega
theorem pow8_pos (k : Nat) : (0 : Int) < 2 ^ (8 * k) := by exact_mod_cast Nat.two_pow_pos (8 * k)
theorem pow8_le (k : Nat) (h : k ≤ 8) : (2 : Int) ^ (8 * k) ≤ 18446744073709551616 := by
  have h1 : 2 ^ (8 * k) ≤ 2 ^ 64 := Nat.pow_le_pow_right (by omega) (by omega)
  have h2 : ((2 ^ (8 * k) : Nat) : Int) ≤ ((2 ^ 64 : Nat) : Int) := by exact_mod_cast h1
  simpa using h2
theorem getD_b (L : List Int) (h : Bytes L) (i : Nat) : 0 ≤ L.getD i 0 ∧ L.getD i 0 ≤ 255 := by
  rw [List.getD_eq_getElem?_getD]
  cases e : L[i]? with
  | none => simp
  | some x => exact h x (List.mem_of_getElem? e)
theorem mul_b (x p : Int) (h0 : 0 ≤ x) (h1 : x ≤ 255) (hp : 0 < p) : 0 ≤ x * p ∧ x * p ≤ 255 * p :=
  ⟨Int.mul_nonneg h0 (by omega), Int.mul_le_mul_of_nonneg_right h1 (by omega)⟩
theorem getL_b (L : List Int) (o k : Nat) (h : Bytes L) : 0 ≤ getL L o k ∧ getL L o k < 2 ^ (8 * k) := by
  induction k with
  | zero => simp [getL]
  | succ k ih =>
    have hb := getD_b L h (o + k)
    have hm := mul_b _ _ hb.1 hb.2 (pow8_pos k)
    rw [getL_succ, pow8]
    omega
/-- The bits of the sum so far and the next byte do not meet. -/
theorem get_step (L : List Int) (o k : Nat) (h : Bytes L) (hk : k < 8) : bits .or .u64 (getL L o k) (IntKind.u64.wrap (L.getD (o + k) 0 * 2 ^ (8 * k))) = getL L o (k + 1) := by
  have hg := getL_b L o k h
  have hb := getD_b L h (o + k)
  have hm := mul_b _ _ hb.1 hb.2 (pow8_pos k)
  have h8 := pow8_le (k + 1) (by omega)
  rw [pow8] at h8
  have e : IntKind.u64.wrap (L.getD (o + k) 0 * 2 ^ (8 * k)) = L.getD (o + k) 0 * 2 ^ (8 * k) := by rw [IntKind.wrap_u64]; omega
  have hc : bits .or .u64 (getL L o k) (L.getD (o + k) 0 * 2 ^ (8 * k)) = bits .or .u64 (L.getD (o + k) 0 * 2 ^ (8 * k)) (getL L o k) := by
    rw [u64_or _ _ hg.1 (by omega) hm.1 (by omega), u64_or _ _ hm.1 (by omega) hg.1 (by omega), Nat.or_comm]
  rw [e, hc, bits_join .u64 64 (by decide) (fun n a b => by rw [IntKind.wrap_u64]; omega) (8 * k) _ _ hm.1 (by simp) (by omega) hg.1 hg.2 (by omega), getL_succ]
  omega
/-- Read from the upper end. -/
def revL (L : List Int) (o k : Nat) : Nat → Int
  | 0 => 0
  | m + 1 => revL L o k m * 256 + L.getD (o + (k - 1 - m)) 0
theorem revL_succ (L : List Int) (o k m : Nat) : revL L o k (m + 1) = revL L o k m * 256 + L.getD (o + (k - 1 - m)) 0 := rfl
theorem rev_get (L : List Int) (o k m : Nat) (h : m ≤ k) : getL L o k = revL L o k m * 2 ^ (8 * (k - m)) + getL L o (k - m) := by
  induction m with
  | zero => simp [revL]
  | succ m ih =>
    rw [ih (by omega)]
    have e : k - m = (k - (m + 1)) + 1 := by omega
    rw [e, pow8, getL_succ, revL_succ]
    rw [show k - 1 - m = k - (m + 1) from by omega]
    generalize (2 : Int) ^ (8 * (k - (m + 1))) = p
    generalize L.getD (o + (k - (m + 1))) 0 = x
    rw [Int.add_mul, show revL L o k m * 256 * p = revL L o k m * (256 * p) from by rw [Int.mul_assoc]]
    omega
theorem rev_all (L : List Int) (o k : Nat) : revL L o k k = getL L o k := by
  have := rev_get L o k k (Nat.le_refl _)
  simp [getL] at this; omega
theorem rev_b (L : List Int) (o k m : Nat) (h : Bytes L) (hm : m ≤ k) : 0 ≤ revL L o k m ∧ revL L o k m < 2 ^ (8 * m) := by
  induction m with
  | zero => simp [revL]
  | succ m ih =>
    have := ih (by omega)
    have hb := getD_b L h (o + (k - 1 - m))
    rw [revL_succ, pow8]
    omega
theorem getL_congr (A X : List Int) (o k n : Nat) (h : A.take n = X) (hk : o + k ≤ n) : getL A o k = getL X o k := by
  induction k with
  | zero => rfl
  | succ k ih =>
    rw [getL_succ, getL_succ, ih (by omega)]
    have : X.getD (o + k) 0 = A.getD (o + k) 0 := by
      rw [← h, List.getD_eq_getElem?_getD, List.getElem?_take_of_lt (by omega), ← List.getD_eq_getElem?_getD]
    rw [this]
/-- The low bytes alone count. -/
theorem byteAt_mod (v : Int) (i k : Nat) (h : i < k) : byteAt (v % 2 ^ (8 * k)) i = byteAt v i := by
  unfold byteAt
  have e : (2 : Int) ^ (8 * k) = 2 ^ (8 * i) * (256 * 2 ^ (8 * (k - i - 1))) := by
    rw [← pow8, ← Int.pow_add]; congr 1; omega
  rw [e]
  have hp := pow8_pos i
  have hq := pow8_pos (k - i - 1)
  generalize (2 : Int) ^ (8 * i) = p at *
  generalize (2 : Int) ^ (8 * (k - i - 1)) = q at *
  have e1 : v = v % (p * (256 * q)) + p * (256 * q * (v / (p * (256 * q)))) := by
    rw [← Int.mul_assoc p (256 * q)]; exact (Int.emod_add_mul_ediv v _).symm
  generalize v % (p * (256 * q)) = r at *
  generalize v / (p * (256 * q)) = t at *
  rw [e1, Int.add_mul_ediv_left _ _ (by omega), Int.mul_assoc 256, Int.add_mul_emod_self_left]
theorem putL_mod (L : List Int) (o : Nat) (v : Int) (n k : Nat) (h : n ≤ k) : putL L o (v % 2 ^ (8 * k)) n = putL L o v n := by
  induction n with
  | zero => rfl
  | succ n ih => unfold putL; rw [ih (by omega), byteAt_mod v n k (by omega)]
end Pk
end Go.Proofs.Ytdphfhpohlodcab
