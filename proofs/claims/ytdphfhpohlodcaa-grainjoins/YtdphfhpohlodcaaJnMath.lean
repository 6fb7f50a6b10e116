import Derived.WalkKit
namespace Go.Proofs.Ytdphfhpohlodcaa
namespace Jn
open Go.RowKit
/-- A 32-bit word. -/
def W32 (x : Int) : Prop := 0 ≤ x ∧ x < 4294967296
def bit (r : Int) (i : Nat) : Int := r / 2 ^ i % 2
theorem bit_01 (r : Int) (i : Nat) : bit r i = 0 ∨ bit r i = 1 := by unfold bit; omega
def pick (m r : Int) (i : Nat) : Int := if bit r i = 1 then m else 0
theorem pick_b (m r : Int) (i : Nat) (h : W32 m) : W32 (pick m r i) := by unfold pick W32 at *; split <;> omega
/-- A linear map's answer. -/
def ofL (M : Nat → Int) (r : Int) : Nat → Int
  | 0 => 0
  | i + 1 => bits .xor .u32 (ofL M r i) (pick (M i) r i)
theorem bits_b (op : BinOp) (a b : Int) : W32 (bits op .u32 a b) := by
  have h1 := bits_lo_u32 op a b
  have h2 := bits_hi_u32 op a b
  unfold W32; omega
theorem ofL_b (M : Nat → Int) (r : Int) (i : Nat) : W32 (ofL M r i) := by
  cases i with
  | zero => unfold ofL W32; omega
  | succ i => exact bits_b _ _ _
theorem xor_zero (a : Int) (h : W32 a) : bits .xor .u32 a 0 = a := by
  unfold W32 at h
  rw [u32_xor a 0 h.1 h.2 (by omega) (by omega)]
  simp; omega
theorem and_one (a : Int) (h : W32 a) : bits .and .u32 a 1 = a % 2 := by
  unfold W32 at h
  rw [u32_and a 1 h.1 h.2 (by omega) (by omega)]
  obtain ⟨n, rfl⟩ := Int.eq_ofNat_of_zero_le h.1
  have : n &&& 1 = n % 2 := Nat.and_one_is_mod n
  simp [this]
theorem and_ones (a : Int) (h : W32 a) : bits .and .u32 a 4294967295 = a := by
  unfold W32 at h
  rw [u32_and a 4294967295 h.1 h.2 (by omega) (by omega)]
  obtain ⟨n, rfl⟩ := Int.eq_ofNat_of_zero_le h.1
  have e : n &&& (2 ^ 32 - 1) = n % 2 ^ 32 := Nat.and_two_pow_sub_one_eq_mod n 32
  have e2 : (4294967295 : Int).toNat = 2 ^ 32 - 1 := by decide
  rw [e2, Int.toNat_natCast, e]; omega
theorem and_zero (a : Int) (h : W32 a) : bits .and .u32 a 0 = 0 := by
  unfold W32 at h
  rw [u32_and a 0 h.1 h.2 (by omega) (by omega)]; simp
theorem shr_b (r : Int) (i : Nat) (h : W32 r) : W32 (r / 2 ^ i) := by
  unfold W32 at *
  have hp : (0 : Int) < 2 ^ i := by exact_mod_cast Nat.two_pow_pos i
  refine ⟨Int.ediv_nonneg h.1 (by omega), ?_⟩
  have := Int.ediv_le_self (2 ^ i) h.1
  omega
/-- m & -(r >> i & 1) -/
theorem mask (m r : Int) (i : Nat) (hm : W32 m) (hr : W32 r) : bits .and .u32 m (-(bits .and .u32 (r / 2 ^ i) 1) % 4294967296) = pick m r i := by
  rw [and_one _ (shr_b r i hr)]
  unfold pick
  rcases bit_01 r i with h | h
  · rw [if_neg (by rw [h]; decide)]
    unfold bit at h
    rw [h]; exact and_zero m hm
  · rw [if_pos h]
    unfold bit at h
    rw [h]; exact and_ones m hm
/-- An array of 32 words. -/
def Arr (c : Array Value) (M : Nat → Int) : Prop := c.size = 32 ∧ ∀ i, i < 32 → c[i]? = some (.int .u32 (M i)) ∧ W32 (M i)
def sq (M : Nat → Int) (i : Nat) : Int := ofL M (M i) 32
end Jn
end Go.Proofs.Ytdphfhpohlodcaa
