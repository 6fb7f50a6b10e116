import Derived.Test.YtgoigcpdfecfhaaGreatDoorMgJ
import Derived.Test.YtgoigcpdfecfhaaGreatDoorRdS
import Derived.Below
namespace Go.Proofs.YtgoigcpdfecfhaaGreatDoor
namespace Hx
open Go.RowKit
set_option linter.unusedVariables false
theorem below_drewN (w : World) (n : Nat) : Below w.heap.size w (w.drewN n) := ⟨rfl, rfl, rfl, Nat.le_refl _, fun _ _ => rfl⟩
theorem Cl_pm_b (u : Int) (h0 : 0 ≤ u) (h1 : u < 4294967296) (hf : u % 2147483648 < 2139095040) (hz : ¬ u % 2147483648 = 0) : 0 < Cl.pm u ∧ Cl.pm u < 16777216 ∧ -149 ≤ Cl.pe u ∧ Cl.pe u ≤ 300 := by
  obtain ⟨-, hm, he, -⟩ := Cl.p_fin u hf hz
  have b1 := Cl.M0_b (u % 2147483648) (by omega) (by omega)
  have b2 := Cl.E0_b (u % 2147483648) (by omega) (by omega)
  obtain ⟨n, hn⟩ := Int.eq_ofNat_of_zero_le (show 0 ≤ Cl.M0 (u % 2147483648) by omega)
  rw [hn] at hm
  obtain ⟨h2, j, hj⟩ := Cl.tz_spec 32 n (by omega) (by omega)
  have hT : (n : Int).toNat = n := by omega
  rw [hT] at hm
  have hp : 0 < 2 ^ Cl.tz n 32 := Nat.two_pow_pos _
  have hd0 : ∀ z, n = 2 ^ z * (2 * j + 1) → n / 2 ^ z = 2 * j + 1 := fun z hz => by rw [hz]; exact Nat.mul_div_cancel_left _ (Nat.two_pow_pos z)
  have hd := hd0 _ hj
  have e : (n : Int) / 2 ^ Cl.tz n 32 = ((n / 2 ^ Cl.tz n 32 : Nat) : Int) := by simp
  rw [e, hd] at hm
  have hle : 2 * j + 1 ≤ n := by rw [← hd]; exact Nat.div_le_self _ _
  have he2 : Cl.tzI (Cl.M0 (u % 2147483648)) = (Cl.tz n 32 : Int) := by unfold Cl.tzI; rw [hn, hT]
  rw [he2] at he
  refine ⟨by omega, by omega, by omega, by omega⟩
def lead (m : Int) : Nat := (m * 2 ^ (24 - Rd.lg m).toNat).toNat
theorem lead_b (m : Int) (h0 : 0 < m) (h1 : m < 16777216) : 0 ≤ Rd.lg m ∧ Rd.lg m ≤ 23 ∧ 16777216 ≤ lead m ∧ lead m < 33554432 ∧ (lead m : Int) = m * 2 ^ (24 - Rd.lg m).toNat := by
  obtain ⟨n, rfl⟩ := Int.eq_ofNat_of_zero_le (show 0 ≤ m by omega)
  have hn : n ≠ 0 := by omega
  obtain ⟨hb0, hb1⟩ := Rd.log2_b n hn
  have e : Rd.lg (n : Int) = (Nat.log2 n : Int) := by unfold Rd.lg; simp
  have hl : Nat.log2 n < 24 := by
    rcases Nat.lt_or_ge (Nat.log2 n) 24 with h | h
    · exact h
    · have := Nat.pow_le_pow_right (n := 2) (by omega) h
      omega
  have e2 : (24 - (Nat.log2 n : Int)).toNat = 24 - Nat.log2 n := by omega
  have e3 : (n : Int) * 2 ^ (24 - Nat.log2 n) = ((n * 2 ^ (24 - Nat.log2 n) : Nat) : Int) := by simp
  have p1 : 2 ^ Nat.log2 n * 2 ^ (24 - Nat.log2 n) = 16777216 := by rw [← Nat.pow_add, show Nat.log2 n + (24 - Nat.log2 n) = 24 by omega]
  have p2 : 2 ^ (Nat.log2 n + 1) * 2 ^ (24 - Nat.log2 n) = 33554432 := by rw [← Nat.pow_add, show Nat.log2 n + 1 + (24 - Nat.log2 n) = 25 by omega]
  have q1 := Nat.mul_le_mul_right (2 ^ (24 - Nat.log2 n)) hb0
  have q2 := Nat.mul_lt_mul_of_pos_right hb1 (Nat.two_pow_pos (24 - Nat.log2 n))
  have hL : lead (n : Int) = n * 2 ^ (24 - Nat.log2 n) := by unfold lead; rw [e, e2, e3, Int.toNat_natCast]
  rw [hL, e, e2]
  refine ⟨by omega, by omega, by omega, by omega, by simp⟩
set_option maxHeartbeats 800000 in
theorem full_any (u : Int) (h0 : 0 ≤ u) (h1 : u < 4294967296) (hf : u % 2147483648 < 2139095040) (hz : ¬ u % 2147483648 = 0) (w : World) :
    Calls Tryz.prog 194 #[.int .u32 u] w fun r w' => r = .returned (.tuple #[.bool (Cl.pn u), .int .u64 (Cl.pm u * 2 ^ (23 - Rd.lg (Cl.pm u)).toNat), .int .i64 (Cl.pe u - (23 - Rd.lg (Cl.pm u)))]) ∧ Below w.heap.size w w' := by
  have HP : Hid (∀ W, Calls Tryz.prog 242 #[.int .u32 u] W fun r W' => r = .returned (.tuple #[.bool (Cl.pn u), .int .u32 (Cl.pm u), .int .i64 (Cl.pe u), .int .i64 (Cl.pr u)]) ∧ Below W.heap.size W W') := fun W => by
    refine (Cl.rparts_any u h0 h1 W).mono ?_
    rintro e w' ⟨rfl, n, rfl⟩
    exact ⟨rfl, below_drewN W n⟩
  obtain ⟨m0, m1, p0, p1⟩ := Cl_pm_b u h0 h1 hf hz
  obtain ⟨g0, g1, -, -, -⟩ := lead_b _ m0 m1
  have hlog : ∃ n g : Nat, Cl.pm u = (n : Int) ∧ Rd.lg (Cl.pm u) = (g : Int) ∧ 2 ^ g ≤ n ∧ n < 2 ^ (g + 1) := by
    obtain ⟨n, hn⟩ := Int.eq_ofNat_of_zero_le (show 0 ≤ Cl.pm u by omega)
    refine ⟨n, Nat.log2 n, hn, ?_, (Rd.log2_b n (by omega)).1, (Rd.log2_b n (by omega)).2⟩
    rw [hn]; unfold Rd.lg; simp
  obtain ⟨n, g, hn, hg, hb0, hb1⟩ := hlog
  rw [hg, hn]
  rw [hn] at HP
  rw [hg] at g0 g1
  generalize Cl.pe u = e at *
  generalize Cl.pn u = neg at *
  generalize Cl.pr u = rr at *
  have hn0 : 0 < n := by omega
  have hn1 : n < 16777216 := by omega
  have hgg : (23 - (g : Int)).toNat = 23 - g := by omega
  rw [hgg]
  clear m0 m1 hn hg hgg hf hz
  have hpow : ∀ k : Nat, k ≤ 23 - g → n * 2 ^ k < 16777216 ∧ (k < 23 - g → n * 2 ^ k < 8388608) ∧ (k = 23 - g → 8388608 ≤ n * 2 ^ k) := by
    intro k hk
    have q1 := Nat.mul_lt_mul_of_pos_right hb1 (Nat.two_pow_pos k)
    have q0 := Nat.mul_le_mul_right (2 ^ k) hb0
    rw [← Nat.pow_add] at q1 q0
    refine ⟨?_, ?_, ?_⟩
    · have : 2 ^ (g + 1 + k) ≤ 2 ^ 24 := Nat.pow_le_pow_right (by omega) (by omega)
      omega
    · intro h
      have : 2 ^ (g + 1 + k) ≤ 2 ^ 23 := Nat.pow_le_pow_right (by omega) (by omega)
      omega
    · intro h
      subst h
      rw [show g + (23 - g) = 23 by omega] at q0
      omega
  have HW : Hid (∀ k : Nat, k ≤ 23 - g → n * 2 ^ k < 16777216 ∧ (k < 23 - g → n * 2 ^ k < 8388608) ∧ (k = 23 - g → 8388608 ≤ n * 2 ^ k)) := hpow
  have HB : Hid (0 < n) := hn0
  clear hpow hb0 hb1 hn0
  have hx0 : (0 : Int) ≤ (n : Int) := by omega
  have hx1 : (n : Int) < 16777216 := by omega
  clear hn1
  go_enter Tryz.func194, Tryz.ntmps194
  go_wp2_with (go_at_call 242; refine (HP.out _).mono ?_; rintro e9 w1 ⟨rfl, hb⟩)
  go_loop [9, 7] (fun x y => ∃ (k : Nat) (a b : Int), x = .int .u64 a ∧ y = .int .i64 b ∧ Hid (k ≤ 23 - g ∧ a = ((n * 2 ^ k : Nat) : Int) ∧ b = e - k)) (fun x _ => 16777216 - (intOf x).toNat)
  case atStart => exact ⟨0, n, e, rfl, rfl, by omega, by simp, by simp⟩
  case round =>
    obtain ⟨k, a, b, rfl, rfl, hh⟩ := hrel
    obtain ⟨hk, ha, hbe⟩ := hh.out
    obtain ⟨q1, q2, q3⟩ := HW.out k hk
    have hpos : 0 < n * 2 ^ k := Nat.mul_pos HB.out (Nat.two_pow_pos k)
    have a0 : 0 < a := by omega
    have a1 : a < 16777216 := by omega
    have b0 : -1000 ≤ b := by omega
    have b1 : b ≤ 1000 := by omega
    by_cases hlt : k < 23 - g
    · have a2 : a < 8388608 := by have := q2 hlt; omega
      have HN : Hid (k + 1 ≤ 23 - g ∧ 2 * a = ((n * 2 ^ (k + 1) : Nat) : Int) ∧ b - 1 = e - ((k + 1 : Nat) : Int)) := ⟨by omega, by rw [Nat.pow_succ, ← Nat.mul_assoc]; omega, by omega⟩
      clear q1 q2 q3 hpos ha hbe hk hlt hh hx0 hx1 a1
      go_wp2
      exact ⟨⟨k + 1, 2 * a, b - 1, by first | rfl | (congr 1; omega), by first | rfl | (congr 1; omega), HN⟩, by simp [intOf]; omega⟩
    · have hk2 : k = 23 - g := by omega
      have a2 : 8388608 ≤ a := by have := q3 hk2; omega
      have HN : Hid (a = (n : Int) * 2 ^ (23 - g) ∧ b = e - (23 - (g : Int))) := ⟨by rw [ha, hk2]; simp, by omega⟩
      clear q1 q2 q3 hpos ha hbe hk hlt hh hk2 hx0 hx1
      go_wp2
      go_ret3
      exact ⟨by rw [← HN.out.1, ← HN.out.2]; rfl, hb⟩
end Hx
end Go.Proofs.YtgoigcpdfecfhaaGreatDoor
