import Derived.Test.YtipnlcnikpngcaaDoorTyMa
import Derived.Test.YtipnlcnikpngcaaDoorTyNb
namespace Go.Proofs.YtipnlcnikpngcaaDoor
namespace Ty
open Go.RowKit
set_option linter.unusedVariables false
theorem ret_i {k : IntKind} {a b : Int} (h : a = b) : Ending.returned (.int k a) = .returned (.int k b) := by rw [h]
set_option maxHeartbeats 800000 in
theorem spread_any (x y : Nat) (hx : x < 18446744073709551616) (hy : y < 18446744073709551616) (h1 : y ≤ (x ||| 1157442765409226768)) (h2 : (x ||| 1157442765409226768) < 18446744073709551616) (w : World) :
    Calls Tryd.prog 48 #[.int .u64 x, .int .u64 y] w fun e w' => e = .returned (.int .u64 (Nb.spread x y)) ∧ w' = w := by
  have E1 : bits .or .u64 (x : Int) 1157442765409226768 = ((x ||| 1157442765409226768 : Nat) : Int) := u64_or_nat x 1157442765409226768 hx (by omega)
  have E2 : IntKind.u64.wrap (((x ||| 1157442765409226768 : Nat) : Int) - (y : Int)) = (((x ||| 1157442765409226768) - y : Nat) : Int) := by rw [IntKind.wrap_u64]; omega
  have E3 : bits .and .u64 (((x ||| 1157442765409226768) - y : Nat) : Int) 1157442765409226768 = ((((x ||| 1157442765409226768) - y) &&& 1157442765409226768 : Nat) : Int) := u64_and_nat _ 1157442765409226768 (by omega) (by omega)
  have hn : (((x ||| 1157442765409226768) - y) &&& 1157442765409226768) < 18446744073709551616 := Nat.lt_of_le_of_lt Nat.and_le_left (by omega)
  have hsp : Nb.spread x y = (x &&& ((((x ||| 1157442765409226768) - y) &&& 1157442765409226768) - (((x ||| 1157442765409226768) - y) &&& 1157442765409226768) / 16)) ||| (y &&& (18446744073709551615 - ((((x ||| 1157442765409226768) - y) &&& 1157442765409226768) - (((x ||| 1157442765409226768) - y) &&& 1157442765409226768) / 16))) := rfl
  have HF : Hid (bits .or .u64 (bits .and .u64 (x : Int) (IntKind.u64.wrap (bits .and .u64 (IntKind.u64.wrap (bits .or .u64 (x : Int) 1157442765409226768 - (y : Int))) 1157442765409226768 - bits .and .u64 (IntKind.u64.wrap (bits .or .u64 (x : Int) 1157442765409226768 - (y : Int))) 1157442765409226768 / 16))) (bits .andNot .u64 (y : Int) (IntKind.u64.wrap (bits .and .u64 (IntKind.u64.wrap (bits .or .u64 (x : Int) 1157442765409226768 - (y : Int))) 1157442765409226768 - bits .and .u64 (IntKind.u64.wrap (bits .or .u64 (x : Int) 1157442765409226768 - (y : Int))) 1157442765409226768 / 16))) = (Nb.spread x y : Int)) := by
    show _ = _
    rw [E1, E2, E3, hsp]
    clear E1 E2 E3 hsp
    generalize (((x ||| 1157442765409226768) - y) &&& 1157442765409226768) = n at *
    have E4 : IntKind.u64.wrap ((n : Int) - (n : Int) / 16) = ((n - n / 16 : Nat) : Int) := by rw [IntKind.wrap_u64]; omega
    rw [E4, u64_and_nat _ _ hx (by omega), u64_andNot_nat _ _ hy (by omega), u64_or_nat _ _ (Nat.lt_of_le_of_lt Nat.and_le_left hx) (Nat.lt_of_le_of_lt Nat.and_le_left hy)]
  clear E1 E2 E3 hn hsp h1 h2
  go_enter Tryd.func48, Tryd.ntmps48
  go_wp2
  go_ret
  exact ⟨ret_i HF.out, rfl⟩
theorem pow4 (k : Nat) : (2 : Int) ^ (4 * k) = ((16 ^ k : Nat) : Int) := by
  rw [show (16 : Nat) = 2 ^ 4 from rfl, ← Nat.pow_mul]; simp
theorem nmax_lt (x y k : Nat) : Nb.nmax x y k < 16 ^ k := by
  induction k with
  | zero => simp [Nb.nmax]
  | succ k ih =>
    rw [Nb.nmax, Nat.pow_succ]
    have h : max (x / 16 ^ k % 16) (y / 16 ^ k % 16) ≤ 15 := by omega
    have := Nat.mul_le_mul_right (16 ^ k) h
    omega
theorem nmax_step (x y k m : Nat) (hk : k < 16) (hm : m = max (x / 16 ^ k % 16) (y / 16 ^ k % 16)) : bits .or .u64 (Nb.nmax x y k : Int) (IntKind.u64.wrap ((m : Int) * 2 ^ (4 * k))) = (Nb.nmax x y (k + 1) : Int) := by
  have h1 := nmax_lt x y k
  have h3 := nmax_lt x y (k + 1)
  have h4 : 16 ^ (k + 1) ≤ 18446744073709551616 := by
    have : 16 ^ (k + 1) ≤ 16 ^ 16 := Nat.pow_le_pow_right (by omega) (by omega)
    simpa using this
  rw [Nb.nmax, ← hm] at h3
  have e : IntKind.u64.wrap ((m : Int) * 2 ^ (4 * k)) = ((m * 16 ^ k : Nat) : Int) := by
    rw [pow4, IntKind.wrap_u64, ← Int.natCast_mul]
    omega
  have hj : m * 16 ^ k ||| Nb.nmax x y k = m * 16 ^ k + Nb.nmax x y k := nat_join (4 * k) _ _ (by rw [show (2 : Nat) ^ (4 * k) = 16 ^ k by rw [Nat.pow_mul]]; exact Nat.mul_mod_left _ _) (by rw [show (2 : Nat) ^ (4 * k) = 16 ^ k by rw [Nat.pow_mul]]; exact h1)
  rw [e, u64_or_nat _ _ (by omega) (by omega), Nat.or_comm, hj, Nb.nmax, ← hm, Nat.add_comm]
theorem nib_at (x k : Nat) : ((x : Int) / 2 ^ (4 * k)).tmod 16 = ((x / 16 ^ k % 16 : Nat) : Int) := by
  rw [pow4, Int.tmod_eq_emod_of_nonneg (Int.ediv_nonneg (by omega) (Int.natCast_nonneg _))]
  simp
theorem max_lt (L : Nb.Prs) (h8 : L.length = 8) (hs : Nb.Small L) : 16 * Nb.V (L.map (fun p => max p.1 p.2)) < 18446744073709551616 := by
  have h := Nb.V_lt L (fun p => 16 * max p.1 p.2) (fun p hp => by have := hs p hp; show 16 * max p.1 p.2 < 256; omega)
  rw [Nb.V_mul, h8] at h; simpa using h
/-- All that the walk of 'greaterNibbles' asks. -/
theorem nib_facts (x y : Nat) (hx : x < 18446744073709551616) (hy : y < 18446744073709551616) : ∃ X0 Y0 X1 Y1 S0 S1 : Nat,
    bits .and .u64 (x : Int) 1085102592571150095 = (X0 : Int) ∧ bits .and .u64 (y : Int) 1085102592571150095 = (Y0 : Int) ∧ bits .and .u64 ((x : Int) / 16) 1085102592571150095 = (X1 : Int) ∧ bits .and .u64 ((y : Int) / 16) 1085102592571150095 = (Y1 : Int) ∧
    (∀ w, Calls Tryd.prog 48 #[.int .u64 X0, .int .u64 Y0] w fun e w' => e = .returned (.int .u64 S0) ∧ w' = w) ∧
    (∀ w, Calls Tryd.prog 48 #[.int .u64 X1, .int .u64 Y1] w fun e w' => e = .returned (.int .u64 S1) ∧ w' = w) ∧
    bits .or .u64 (S0 : Int) (IntKind.u64.wrap ((S1 : Int) * 16)) = (Nb.nmax x y 16 : Int) := by
  obtain ⟨hl, hb, xe, ye, xo, yo⟩ := Nb.parts x y hx hy
  have p0 := Nb.spread_eq (Nb.lows (Nb.prs x y 8)) (by simp [Nb.lows, hl]) (Nb.lows_small _)
  have p1 := Nb.spread_eq (Nb.highs (Nb.prs x y 8)) (by simp [Nb.highs, hl]) (Nb.highs_small _ hb)
  rw [← xe, ← ye] at p0
  rw [← xo, ← yo] at p1
  have hE : 1085102592571150095 < 18446744073709551616 := by decide
  have b0 : (x &&& 1085102592571150095) < 18446744073709551616 := Nat.lt_of_le_of_lt Nat.and_le_left hx
  have b1 : (y &&& 1085102592571150095) < 18446744073709551616 := Nat.lt_of_le_of_lt Nat.and_le_left hy
  have b2 : (x / 16 &&& 1085102592571150095) < 18446744073709551616 := Nat.lt_of_le_of_lt Nat.and_le_left (by omega)
  have b3 : (y / 16 &&& 1085102592571150095) < 18446744073709551616 := Nat.lt_of_le_of_lt Nat.and_le_left (by omega)
  refine ⟨x &&& 1085102592571150095, y &&& 1085102592571150095, x / 16 &&& 1085102592571150095, y / 16 &&& 1085102592571150095, Nb.spread (x &&& 1085102592571150095) (y &&& 1085102592571150095), Nb.spread (x / 16 &&& 1085102592571150095) (y / 16 &&& 1085102592571150095), u64_and_nat x 1085102592571150095 hx hE, u64_and_nat y 1085102592571150095 hy hE, u64_and_nat (x / 16) 1085102592571150095 (by omega) hE, u64_and_nat (y / 16) 1085102592571150095 (by omega) hE, fun w => spread_any _ _ b0 b1 p0.2.1 p0.2.2 w, fun w => spread_any _ _ b2 b3 p1.2.1 p1.2.2 w, ?_⟩
  have m0 := max_lt (Nb.lows (Nb.prs x y 8)) (by simp [Nb.lows, hl]) (Nb.lows_small _)
  have m1 := max_lt (Nb.highs (Nb.prs x y 8)) (by simp [Nb.highs, hl]) (Nb.highs_small _ hb)
  rw [← p0.1] at m0
  rw [← p1.1] at m1
  have hn := Nb.nibs_eq x y hx hy
  unfold Nb.nibs at hn
  generalize Nb.spread (x &&& 1085102592571150095) (y &&& 1085102592571150095) = S0 at *
  generalize Nb.spread (x / 16 &&& 1085102592571150095) (y / 16 &&& 1085102592571150095) = S1 at *
  have e : IntKind.u64.wrap ((S1 : Int) * 16) = ((16 * S1 : Nat) : Int) := by rw [IntKind.wrap_u64]; omega
  rw [e, u64_or_nat _ _ (by omega) (by omega), hn]
set_option maxHeartbeats 800000 in
theorem nibbles_any (x y : Nat) (hx : x < 18446744073709551616) (hy : y < 18446744073709551616) (w : World) :
    Calls Tryd.prog 43 #[.int .u64 x, .int .u64 y] w fun e w' => e = .returned (.int .u64 (Nb.nmax x y 16)) ∧ w' = w := by
  obtain ⟨X0, Y0, X1, Y1, S0, S1, a1, a2, a3, a4, c0, c1, hf⟩ := nib_facts x y hx hy
  have H0 : Hid (∀ w, Calls Tryd.prog 48 #[.int .u64 X0, .int .u64 Y0] w fun e w' => e = .returned (.int .u64 S0) ∧ w' = w) := c0
  have H1 : Hid (∀ w, Calls Tryd.prog 48 #[.int .u64 X1, .int .u64 Y1] w fun e w' => e = .returned (.int .u64 S1) ∧ w' = w) := c1
  clear c0 c1
  go_enter Tryd.func43, Tryd.ntmps43
  go_wp2_with (fail)
  refine (H0.out _).mono ?_
  rintro e9 w9 ⟨rfl, hw9⟩
  subst w9
  go_wp2_with (fail)
  refine (H1.out _).mono ?_
  rintro e9 w9 ⟨rfl, hw9⟩
  subst w9
  go_wp2
  go_ret
  exact ⟨rfl, rfl⟩
end Ty
end Go.Proofs.YtipnlcnikpngcaaDoor
