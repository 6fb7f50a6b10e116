import Derived.WalkKit
namespace Go.Proofs.Ytdphfhpohlodcab
namespace Tot
open Go.RowKit
/-- The sum of the first k. -/
def sum (zs : List Int) (k : Nat) : Int := (zs.take k).foldl (· + ·) 0
theorem sum_zero (zs : List Int) : sum zs 0 = 0 := by simp [sum]
theorem sum_succ (zs : List Int) (k : Nat) (h : k < zs.length) : sum zs (k + 1) = sum zs k + zs.getD k 0 := by
  unfold sum
  rw [List.take_succ_eq_append_getElem h, List.foldl_append]
  simp [List.getD_eq_getElem?_getD, h]
/-- The two words of a number of 128 bits. -/
def lo (s : Int) : Int := s % 18446744073709551616
def hi (s : Int) : Int := s / 18446744073709551616 % 18446744073709551616
def beyond (s : Int) : Bool := hi s != IntKind.u64.wrap (IntKind.i64.wrap (lo s) / 9223372036854775808)
def val (s : Int) : Int := if beyond s then 0 else IntKind.i64.wrap (lo s)
def err (s : Int) : Int := if beyond s then 13 else 0
theorem lo_b (s : Int) : 0 ≤ lo s ∧ lo s < 18446744073709551616 := by unfold lo; omega
theorem hi_b (s : Int) : 0 ≤ hi s ∧ hi s < 18446744073709551616 := by unfold hi; omega
theorem lo_add (s x : Int) : (lo s + IntKind.u64.wrap x) % 18446744073709551616 = lo (s + x) := by
  rw [IntKind.wrap_u64]; unfold lo; omega
theorem hi_add (s x : Int) (h0 : -9223372036854775808 ≤ x) (h1 : x ≤ 9223372036854775807) :
    IntKind.u64.wrap (hi s + IntKind.u64.wrap (IntKind.u64.wrap (x / 9223372036854775808) + (lo s + IntKind.u64.wrap x) / 18446744073709551616)) = hi (s + x) := by
  unfold lo hi
  have e1 : s = 18446744073709551616 * (s / 18446744073709551616) + s % 18446744073709551616 := by omega
  have r0 : 0 ≤ s % 18446744073709551616 := by omega
  have r1 : s % 18446744073709551616 < 18446744073709551616 := by omega
  have e2 : (s + x) / 18446744073709551616 = s / 18446744073709551616 + (s % 18446744073709551616 + x) / 18446744073709551616 := by omega
  rw [e2]
  clear e1 e2
  generalize s / 18446744073709551616 = q at *
  generalize s % 18446744073709551616 = r at *
  by_cases hx : 0 ≤ x
  · rw [show x / 9223372036854775808 = 0 from by omega, show IntKind.u64.wrap x = x from by rw [IntKind.wrap_u64]; omega]
    generalize (r + x) / 18446744073709551616 = c at *
    simp only [IntKind.wrap_u64]; omega
  · rw [show x / 9223372036854775808 = -1 from by omega, show IntKind.u64.wrap x = x + 18446744073709551616 from by rw [IntKind.wrap_u64]; omega]
    rw [show (r + (x + 18446744073709551616)) / 18446744073709551616 = (r + x) / 18446744073709551616 + 1 from by omega]
    generalize (r + x) / 18446744073709551616 = c at *
    simp only [IntKind.wrap_u64]; omega
theorem in_range (s : Int) (h0 : -9223372036854775808 ≤ s) (h1 : s ≤ 9223372036854775807) : val s = s ∧ err s = 0 := by
  have e1 : IntKind.i64.wrap (lo s) = s := by rw [IntKind.wrap_i64]; unfold lo; omega
  have e : beyond s = false := by
    unfold beyond
    rw [e1, bne_eq_false_iff_eq, IntKind.wrap_u64]
    unfold hi; omega
  unfold val err
  rw [e, e1]; simp
theorem out_range (s : Int) (h : s < -9223372036854775808 ∨ 9223372036854775807 < s) (h0 : -19342813113834066795298816 ≤ s) (h1 : s ≤ 19342813113834066795298816) : val s = 0 ∧ err s = 13 := by
  have e : beyond s = true := by
    unfold beyond
    rw [bne_iff_ne]
    unfold hi lo
    have e1 : s = 18446744073709551616 * (s / 18446744073709551616) + s % 18446744073709551616 := by omega
    have r0 : 0 ≤ s % 18446744073709551616 := by omega
    have r1 : s % 18446744073709551616 < 18446744073709551616 := by omega
    generalize s / 18446744073709551616 = q at *
    generalize s % 18446744073709551616 = r at *
    by_cases hr : r < 9223372036854775808
    · rw [show IntKind.i64.wrap r = r from by rw [IntKind.wrap_i64]; omega, show r / 9223372036854775808 = 0 from by omega, IntKind.wrap_u64]; omega
    · rw [show IntKind.i64.wrap r = r - 18446744073709551616 from by rw [IntKind.wrap_i64]; omega, show (r - 18446744073709551616) / 9223372036854775808 = -1 from by omega, IntKind.wrap_u64]; omega
  unfold val err
  rw [e]; simp
theorem foldl_from (c : Int) (l : List Int) : l.foldl (· + ·) c = c + l.foldl (· + ·) 0 := by
  induction l generalizing c with
  | nil => simp
  | cons x r ih => simp only [List.foldl_cons]; rw [ih (c + x), ih (0 + x)]; omega
theorem foldl_rev (l : List Int) : l.reverse.foldl (· + ·) 0 = l.foldl (· + ·) 0 := by
  induction l with
  | nil => rfl
  | cons x r ih => rw [List.reverse_cons, List.foldl_append, ih]; simp only [List.foldl_cons, List.foldl_nil]; rw [foldl_from (0 + x)]; omega
def rev (zs : List Int) (len : Nat) : List Int := (zs.take len).reverse
theorem rev_len (zs : List Int) (len : Nat) (h : len ≤ zs.length) : (rev zs len).length = len := by simp [rev]; omega
theorem sum_rev (zs : List Int) (len : Nat) (h : len ≤ zs.length) : sum (rev zs len) len = sum zs len := by
  unfold sum
  rw [List.take_of_length_le (by rw [rev_len zs len h]; omega)]
  exact foldl_rev _
theorem rev_get (zs : List Int) (len j : Nat) (h : len ≤ zs.length) (hj : j < len) : (rev zs len).getD j 0 = zs.getD (len - 1 - j) 0 := by
  unfold rev
  have hl : (zs.take len).length = len := by simp; omega
  rw [List.getD_eq_getElem?_getD, List.getD_eq_getElem?_getD, List.getElem?_reverse (by omega), hl, List.getElem?_take_of_lt (by omega)]
theorem sum_two (a b : Int) : sum [a, b] 2 = a + b := by simp [sum]
theorem sum_none (zs : List Int) : sum zs 0 = 0 := sum_zero zs
end Tot
end Go.Proofs.Ytdphfhpohlodcab
