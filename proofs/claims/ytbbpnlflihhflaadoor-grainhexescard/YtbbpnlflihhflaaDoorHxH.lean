import Derived.Test.YtbbpnlflihhflaaDoorHxG
namespace Go.Proofs.YtbbpnlflihhflaaDoor
namespace Hx
open Go.RowKit
set_option linter.unusedVariables false
theorem l8_all : ∀ n : Fin 256, Lib.len8 (n.val : Int) = Rd.len (n.val : Int) := by decide +kernel
theorem l8 (x : Int) (h0 : 0 ≤ x) (h1 : x < 256) : Lib.len8 x = Rd.len x := by
  have h := l8_all ⟨x.toNat, by omega⟩
  rwa [show ((⟨x.toNat, by omega⟩ : Fin 256).val : Int) = x by show (x.toNat : Int) = x; omega] at h
open Rd in
set_option maxRecDepth 100000 in
set_option maxHeartbeats 400000 in
theorem len32_any (x : Int) (h0 : 0 ≤ x) (h1 : x < 4294967296) (w : World) :
    Calls Tryd.prog 33 #[.int .u32 x] w fun e w' => e = .returned (.int .i64 (len x)) ∧ w' = w := by
  by_cases a16 : 65536 ≤ x
  · have H16 : Hid (len (x / 65536) + 16 = len x) := len_16 _ a16
    have c0 : 0 ≤ x / 65536 := by omega
    have c1 : x / 65536 < 65536 := by omega
    by_cases a8 : 256 ≤ x / 65536
    · have H8 : Hid (len (x / 65536 / 256) + 8 = len (x / 65536)) := len_8 _ a8
      have d0 : 0 ≤ x / 65536 / 256 := by omega
      have d1 : x / 65536 / 256 ≤ 255 := by omega
      have lb := len_b (x / 65536 / 256) (by omega) (by omega)
      go_enter Tryd.func33, Tryd.ntmps33
      go_wp2
      go_ret
      refine ⟨Rd.ret_int ?_, rfl⟩
      refine (finc 24 (x / 65536 / 256) _ (l8 _ (by omega) (by omega)) lb.1 lb.2 (by omega) (by omega)).trans ?_
      have := H8.out; have := H16.out; omega
    · have d1 : x / 65536 ≤ 255 := by omega
      have lb := len_b (x / 65536) (by omega) (by omega)
      go_enter Tryd.func33, Tryd.ntmps33
      go_wp2
      go_ret
      refine ⟨Rd.ret_int ?_, rfl⟩
      refine (finc 16 (x / 65536) _ (l8 _ (by omega) (by omega)) lb.1 lb.2 (by omega) (by omega)).trans ?_
      have := H16.out; omega
  · have a16' : x < 65536 := by omega
    by_cases a8 : 256 ≤ x
    · have H8 : Hid (len (x / 256) + 8 = len x) := len_8 _ a8
      have d0 : 0 ≤ x / 256 := by omega
      have d1 : x / 256 ≤ 255 := by omega
      have lb := len_b (x / 256) (by omega) (by omega)
      go_enter Tryd.func33, Tryd.ntmps33
      go_wp2
      go_ret
      refine ⟨Rd.ret_int ?_, rfl⟩
      refine (finc 8 (x / 256) _ (l8 _ (by omega) (by omega)) lb.1 lb.2 (by omega) (by omega)).trans ?_
      have := H8.out; omega
    · have d1 : x ≤ 255 := by omega
      have lb := len_b x (by omega) (by omega)
      go_enter Tryd.func33, Tryd.ntmps33
      go_wp2
      go_ret
      refine ⟨Rd.ret_int ?_, rfl⟩
      first
        | exact (fin0 x _ (l8 _ (by omega) (by omega)) lb.1 lb.2)
        | (refine (finc 0 x _ (l8 _ (by omega) (by omega)) lb.1 lb.2 (by omega) (by omega)).trans ?_; omega)
/-- m with its leading bit at 2^24. -/
def lead (m : Int) : Nat := (m * 2 ^ (24 - Rd.lg m).toNat).toNat
theorem lead_b (m : Int) (h0 : 0 < m) (h1 : m < 16777216) : 0 ≤ Rd.lg m ∧ Rd.lg m ≤ 23 ∧ 16777216 ≤ lead m ∧ lead m < 33554432 ∧ (lead m : Int) = m * 2 ^ (24 - Rd.lg m).toNat := by
  obtain ⟨n, rfl⟩ := Int.eq_ofNat_of_zero_le (show 0 ≤ m by omega)
  have hn : n ≠ 0 := by omega
  obtain ⟨hb0, hb1⟩ := Rd.log2_b n hn
  have e : Rd.lg (n : Int) = (Nat.log2 n : Int) := by unfold Rd.lg; simp
  have hl : Nat.log2 n < 24 := by
    rcases Nat.lt_or_ge (Nat.log2 n) 24 with h | h
    · exact h
    · have := Nat.pow_le_pow_right (n := 2) (by omega) h
      omega
  have e2 : (24 - (Nat.log2 n : Int)).toNat = 24 - Nat.log2 n := by omega
  have e3 : (n : Int) * 2 ^ (24 - Nat.log2 n) = ((n * 2 ^ (24 - Nat.log2 n) : Nat) : Int) := by simp
  have p1 : 2 ^ Nat.log2 n * 2 ^ (24 - Nat.log2 n) = 16777216 := by rw [← Nat.pow_add, show Nat.log2 n + (24 - Nat.log2 n) = 24 by omega]
  have p2 : 2 ^ (Nat.log2 n + 1) * 2 ^ (24 - Nat.log2 n) = 33554432 := by rw [← Nat.pow_add, show Nat.log2 n + 1 + (24 - Nat.log2 n) = 25 by omega]
  have q1 := Nat.mul_le_mul_right (2 ^ (24 - Nat.log2 n)) hb0
  have q2 := Nat.mul_lt_mul_of_pos_right hb1 (Nat.two_pow_pos (24 - Nat.log2 n))
  have hL : lead (n : Int) = n * 2 ^ (24 - Nat.log2 n) := by unfold lead; rw [e, e2, e3, Int.toNat_natCast]
  rw [hL, e, e2]
  refine ⟨by omega, by omega, by omega, by omega, by simp⟩
def frac (F : Nat) : List UInt8 := Lib.trimRightB ((hx F).drop 1) 48
def dot (t : List UInt8) : List UInt8 := if t = [] then [] else 46 :: t
theorem bs_ext2 (l : List UInt8) : (bs l).extract 1 (bs l).size = bs (l.drop 1) := by
  rw [bs_ext, bs_size, List.take_of_length_le (by simp)]
theorem bs_append (a b : List UInt8) : bs a ++ bs b = bs (a ++ b) := by
  apply ba_ext2
  simp [bs_data]
end Hx
end Go.Proofs.YtbbpnlflihhflaaDoor
