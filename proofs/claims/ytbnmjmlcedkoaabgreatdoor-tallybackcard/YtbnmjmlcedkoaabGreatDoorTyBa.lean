import Derived.Test.YtbnmjmlcedkoaabGreatDoorTyA
import Derived.Test.YtbnmjmlcedkoaabGreatDoorTyGb
import Derived.Lib.ConvBytes
import Derived.Laws.BytesArg
import Derived.WalkKit
import Derived.Deep.QuietTactic
namespace Go.Proofs.YtbnmjmlcedkoaabGreatDoor
namespace Ty
open Go.RowKit
set_option linter.unusedVariables false
/-- Byte i of a number. -/
def byteAt (v : Int) (i : Nat) : Int := v / 2 ^ (8 * i) % 256
theorem byteAt_b (v : Int) (i : Nat) : 0 ≤ byteAt v i ∧ byteAt v i ≤ 255 := by unfold byteAt; omega
/-- The number that k bytes from o on make. -/
def gf (f : Nat → Int) (o : Nat) : Nat → Int
  | 0 => 0
  | k + 1 => gf f o k + f (o + k) * 2 ^ (8 * k)
theorem gf_succ (f : Nat → Int) (o k : Nat) : gf f o (k + 1) = gf f o k + f (o + k) * 2 ^ (8 * k) := rfl
theorem pow8 (k : Nat) : (2 : Int) ^ (8 * (k + 1)) = 256 * 2 ^ (8 * k) := by
  rw [show 8 * (k + 1) = 8 * k + 8 from by omega, Int.pow_add]; omega
theorem pow8_pos (k : Nat) : (0 : Int) < 2 ^ (8 * k) := pw _
theorem pow8_le (k : Nat) (h : k ≤ 8) : (2 : Int) ^ (8 * k) ≤ 18446744073709551616 := by
  have h1 : 2 ^ (8 * k) ≤ 2 ^ 64 := Nat.pow_le_pow_right (by omega) (by omega)
  have h2 : ((2 ^ (8 * k) : Nat) : Int) ≤ ((2 ^ 64 : Nat) : Int) := by exact_mod_cast h1
  simpa using h2
theorem mul_b (x p : Int) (h0 : 0 ≤ x) (h1 : x ≤ 255) (hp : 0 < p) : 0 ≤ x * p ∧ x * p ≤ 255 * p :=
  ⟨Int.mul_nonneg h0 (by omega), Int.mul_le_mul_of_nonneg_right h1 (by omega)⟩
def By (f : Nat → Int) : Prop := ∀ i, 0 ≤ f i ∧ f i ≤ 255
theorem gf_b (f : Nat → Int) (o k : Nat) (h : By f) : 0 ≤ gf f o k ∧ gf f o k < 2 ^ (8 * k) := by
  induction k with
  | zero => simp [gf]
  | succ k ih =>
    have hb := h (o + k)
    have hm := mul_b _ _ hb.1 hb.2 (pow8_pos k)
    rw [gf_succ, pow8]
    omega
/-- The bits of the sum so far and the next byte do not meet. -/
theorem gf_step (f : Nat → Int) (o k : Nat) (h : By f) (hk : k < 8) : bits .or .u64 (gf f o k) (IntKind.u64.wrap (f (o + k) * 2 ^ (8 * k))) = gf f o (k + 1) := by
  have hg := gf_b f o k h
  have hb := h (o + k)
  have hm := mul_b _ _ hb.1 hb.2 (pow8_pos k)
  have h8 := pow8_le (k + 1) (by omega)
  rw [pow8] at h8
  have e : IntKind.u64.wrap (f (o + k) * 2 ^ (8 * k)) = f (o + k) * 2 ^ (8 * k) := by rw [IntKind.wrap_u64]; omega
  have hc : bits .or .u64 (gf f o k) (f (o + k) * 2 ^ (8 * k)) = bits .or .u64 (f (o + k) * 2 ^ (8 * k)) (gf f o k) := by
    rw [u64_or _ _ hg.1 (by omega) hm.1 (by omega), u64_or _ _ hm.1 (by omega) hg.1 (by omega), Nat.or_comm]
  rw [e, hc, bits_join .u64 64 (by decide) (fun n a b => by rw [IntKind.wrap_u64]; omega) (8 * k) _ _ hm.1 (by simp) (by omega) hg.1 hg.2 (by omega), gf_succ]
  omega
theorem room8 (a : Option Addr) (cap o : Nat) (z : Int) (hz : z = o) (ho : o + 8 ≤ 48) (w : World) :
    Calls Tryz.prog 72 #[.slice a 48 cap, .int .i64 z, .int .i64 8] w fun e w' => e = .returned (.int .i64 0) ∧ w' = w := by
  subst hz
  go_enter Tryz.func72, Tryz.ntmps72
  go_wp2
  go_ret
  exact ⟨rfl, rfl⟩
set_option maxHeartbeats 800000 in
theorem get8 (f : Nat → Int) (hf : By f) (g cap o : Nat) (z : Int) (hz : z = o) (ho : o + 8 ≤ 48) (w : World) (hc : ∀ j, j < 48 → w.cell? ⟨g, j, none⟩ = some (.int .u8 (f j))) :
    Calls Tryz.prog 40 #[.slice (some ⟨g, 0, none⟩) 48 cap, .int .i64 z, .int .i64 8] w fun e w' => e = .returned (.tuple #[.int .u64 (gf f o 8), .int .i64 0]) ∧ w' = w := by
  subst hz
  have HC : Hid (∀ j, j < 48 → w.cell? ⟨g, j, none⟩ = some (.int .u8 (f j))) := hc
  clear hc
  go_enter Tryz.func40, Tryz.ntmps40
  go_wp2_with fail
  refine (room8 _ cap o _ rfl ho _).mono ?_
  rintro e9 w9 ⟨rfl, hw9⟩
  subst w9
  go_wp2
  go_loop [9, 19] (fun v i => ∃ j : Nat, j ≤ 8 ∧ i = .int .i64 j ∧ v = .int .u64 (gf f o j)) (fun _ i => 8 - (intOf i).toNat)
  case atStart => exact ⟨0, Nat.zero_le _, rfl, rfl⟩
  case round =>
    obtain ⟨j, hj, rfl, rfl⟩ := hrel
    by_cases hlt : j < 8
    · have g1 := HC.out (o + j) (by omega)
      have hs1 := gf_step f o j hf (by omega)
      have hb := hf (o + j)
      have eo : ((o : Int) + (j : Int)).toNat = o + j := by omega
      have e8 : (8 * (j : Int)).toNat = 8 * j := by omega
      generalize f (o + j) = x at *
      go_wp2
      exact ⟨⟨j + 1, by omega, by go_num, rfl⟩, by simp [intOf]; omega⟩
    · have hjk : j = 8 := by omega
      subst hjk
      go_wp2
      go_ret2
      exact ⟨rfl, rfl⟩
/-- Eight bytes laid over from o on. -/
def put (f : Nat → Int) (o : Nat) (v : Int) (k : Nat) : Nat → Int := fun j => if o ≤ j ∧ j < o + k then byteAt v (j - o) else f j
theorem put_zero (f : Nat → Int) (o : Nat) (v : Int) : put f o v 0 = f := by funext j; unfold put; rw [if_neg (by omega)]
theorem row_put {w : World} {g t : Nat} {f : Nat → Int} {o k : Nat} {v : Int} (h : w.rowIs g t 48 (fun j => .int .u8 (put f o v k j))) : (w.setCell ⟨g, o + k, none⟩ (.int .u8 (byteAt v k))).rowIs g t 48 (fun j => .int .u8 (put f o v (k + 1) j)) := by
  refine (h.set (o + k) _).congr (fun j hj => ?_)
  unfold put
  by_cases e : j = o + k
  · subst e; simp
  · simp only [e, if_false]
    by_cases h : o ≤ j ∧ j < o + k
    · rw [if_pos h, if_pos (by omega)]
    · rw [if_neg h, if_neg (by omega)]
set_option maxHeartbeats 800000 in
theorem lay8 (f : Nat → Int) (g t o c : Nat) (v : Int) (w : World) (hr : w.rowIs g t 48 (fun j => .int .u8 (f j))) (ho : o + 8 ≤ 48) (hv0 : 0 ≤ v) (hv1 : v < 18446744073709551616) :
    Calls Tryz.prog 73 #[.slice (some ⟨g, o, none⟩) 8 c, .int .u64 v] w fun e w' => e = .returned (.tuple #[]) ∧ w'.rowIs g t 48 (fun j => .int .u8 (put f o v 8 j)) ∧ Below g w w' := by
  have h0 : w.rowIs g t 48 (fun j => .int .u8 (put f o v 0 j)) := by rw [put_zero]; exact hr
  clear hr
  go_enter Tryz.func73, Tryz.ntmps73
  go_wp2
  go_loopw [7] (fun i wr => ∃ j : Nat, j ≤ 8 ∧ i = .int .i64 j ∧ wr.rowIs g t 48 (fun j' => .int .u8 (put f o v j j')) ∧ Below g w wr) (fun i _ => 8 - (intOf i).toNat)
  case atStart => exact ⟨0, Nat.zero_le _, rfl, h0, Below.refl _ _⟩
  case round =>
    clear h0
    obtain ⟨j, hj, rfl, r1, hb1⟩ := hrel
    by_cases hlt : j < 8
    · have hc := r1.cell (show o + j < 48 by omega)
      have hfz := r1.frozen (o + j)
      have HS : Hid ((wr.setCell ⟨g, o + j, none⟩ (.int .u8 (byteAt v j))).rowIs g t 48 (fun j' => .int .u8 (put f o v (j + 1) j'))) := row_put r1
      have hbs : Below g w (wr.setCell ⟨g, o + j, none⟩ (.int .u8 (byteAt v j))) := hb1.setCell (Nat.le_refl _) _
      have e8 : (8 * (j : Int)).toNat = 8 * j := by omega
      have HB : Hid (byteAt v j = v / 2 ^ (8 * j) % 256) := rfl
      generalize put f o v j (o + j) = old at *
      clear r1 hb1
      go_wp2
      exact ⟨⟨j + 1, by omega, by go_num, HS.out, hbs⟩, by simp [intOf]; omega⟩
    · have hjk : j = 8 := by omega
      subst hjk
      go_wp2
      go_returns
      exact ⟨rfl, r1, hb1⟩
set_option maxHeartbeats 800000 in
theorem put8 (f : Nat → Int) (g t o : Nat) (z v : Int) (hz : z = o) (w : World) (hr : w.rowIs g t 48 (fun j => .int .u8 (f j))) (ho : o + 8 ≤ 48) (hv0 : 0 ≤ v) (hv1 : v < 18446744073709551616) :
    Calls Tryz.prog 41 #[.slice (some ⟨g, 0, none⟩) 48 48, .int .i64 z, .int .i64 8, .int .u64 v] w fun e w' => e = .returned (.int .i64 0) ∧ w'.rowIs g t 48 (fun j => .int .u8 (put f o v 8 j)) ∧ Below g w w' := by
  subst hz
  have hf' : (v / 18446744073709551616 != 0) = false := by
    have : v / 18446744073709551616 = 0 := Int.ediv_eq_zero_of_lt hv0 hv1
    rw [this]; rfl
  have hoc : ¬ 48 = o := by omega
  go_enter Tryz.func41, Tryz.ntmps41
  go_wp2_with fail
  refine (room8 _ 48 o _ rfl ho _).mono ?_
  rintro e9 w9 ⟨rfl, hw9⟩
  subst w9
  go_wp2_with fail
  refine (lay8 f g t o _ v _ hr ho hv0 hv1).mono ?_
  rintro e9 w9 ⟨rfl, h8, h9⟩
  go_wp2
  go_ret
  exact ⟨rfl, h8, h9⟩
end Ty
end Go.Proofs.YtbnmjmlcedkoaabGreatDoor
