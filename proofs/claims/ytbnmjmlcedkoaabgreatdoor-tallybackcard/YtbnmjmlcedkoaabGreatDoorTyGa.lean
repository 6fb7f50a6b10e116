import Derived.WalkKit
import Derived.WalkSmall
import Derived.Test.YtbnmjmlcedkoaabGreatDoorRows
import Derived.BigQuiet
import Derived.Deep.QuietTactic
import Derived.Handy
import Derived.Deep.OwnRows
import Derived.Deep.WholeRow
import Derived.Laws.Externs
namespace Go.Proofs.YtbnmjmlcedkoaabGreatDoor
namespace Rd
open Go.RowKit
def lg (x : Int) : Int := (Nat.log2 x.toNat : Int)
def len (x : Int) : Int := if x ≤ 0 then 0 else lg x + 1
theorem log2_of (n k : Nat) (h : 2 ^ k ≤ n) (h2 : n < 2 ^ (k + 1)) : Nat.log2 n = k := by
  have : n ≠ 0 := by have := Nat.two_pow_pos k; omega
  exact (Nat.log2_eq_iff this).2 ⟨h, h2⟩
theorem log2_b (n : Nat) (h : n ≠ 0) : 2 ^ Nat.log2 n ≤ n ∧ n < 2 ^ (Nat.log2 n + 1) := (Nat.log2_eq_iff h).1 rfl
theorem log2_div (n k : Nat) (h : 2 ^ k ≤ n) : Nat.log2 (n / 2 ^ k) + k = Nat.log2 n := by
  have hk := Nat.two_pow_pos k
  have hq : 0 < n / 2 ^ k := Nat.div_pos h hk
  have hb := log2_b (n / 2 ^ k) (by omega)
  refine (log2_of n _ ?_ ?_).symm
  · rw [Nat.pow_add]; exact Nat.le_trans (Nat.mul_le_mul_right _ hb.1) (Nat.div_mul_le_self n (2 ^ k))
  · have h3 : n < (n / 2 ^ k + 1) * 2 ^ k := by
      rw [Nat.add_mul, Nat.one_mul]; have h5 := Nat.div_add_mod n (2 ^ k); have := Nat.mod_lt n hk; rw [Nat.mul_comm] at h5; omega
    have h4 : (n / 2 ^ k + 1) * 2 ^ k ≤ 2 ^ (Nat.log2 (n / 2 ^ k) + 1) * 2 ^ k := Nat.mul_le_mul_right _ hb.2
    rw [show Nat.log2 (n / 2 ^ k) + k + 1 = (Nat.log2 (n / 2 ^ k) + 1) + k from by omega, Nat.pow_add]; omega
theorem len_div (x : Int) (k : Nat) (h : (2 : Int) ^ k ≤ x) : len (x / 2 ^ k) + k = len x := by
  have hp : (0 : Int) < 2 ^ k := by exact_mod_cast Nat.two_pow_pos k
  obtain ⟨n, rfl⟩ := Int.eq_ofNat_of_zero_le (show 0 ≤ x by omega)
  have h' : 2 ^ k ≤ n := by exact_mod_cast h
  have hq : 0 < n / 2 ^ k := Nat.div_pos h' (Nat.two_pow_pos k)
  have hn : 0 < n := by have := Nat.two_pow_pos k; omega
  have e : (n : Int) / 2 ^ k = ((n / 2 ^ k : Nat) : Int) := by simp
  rw [e]; unfold len lg
  rw [if_neg (by omega), if_neg (by omega), Int.toNat_natCast, Int.toNat_natCast]
  have := log2_div n k h'; omega
theorem len_32 (x : Int) (h : 4294967296 ≤ x) : len (x / 4294967296) + 32 = len x := len_div x 32 h
theorem len_16 (x : Int) (h : 65536 ≤ x) : len (x / 65536) + 16 = len x := len_div x 16 h
theorem len_8 (x : Int) (h : 256 ≤ x) : len (x / 256) + 8 = len x := len_div x 8 h
def tab : ByteArray := ⟨#[0, 1, 2, 2, 3, 3, 3, 3, 4, 4, 4, 4, 4, 4, 4, 4, 5, 5, 5, 5, 5, 5, 5, 5, 5, 5, 5, 5, 5, 5, 5, 5, 6, 6, 6, 6, 6, 6, 6, 6, 6, 6, 6, 6, 6, 6, 6, 6, 6, 6, 6, 6, 6, 6, 6, 6, 6, 6, 6, 6, 6, 6, 6, 6, 7, 7, 7, 7, 7, 7, 7, 7, 7, 7, 7, 7, 7, 7, 7, 7, 7, 7, 7, 7, 7, 7, 7, 7, 7, 7, 7, 7, 7, 7, 7, 7, 7, 7, 7, 7, 7, 7, 7, 7, 7, 7, 7, 7, 7, 7, 7, 7, 7, 7, 7, 7, 7, 7, 7, 7, 7, 7, 7, 7, 7, 7, 7, 7, 8, 8, 8, 8, 8, 8, 8, 8, 8, 8, 8, 8, 8, 8, 8, 8, 8, 8, 8, 8, 8, 8, 8, 8, 8, 8, 8, 8, 8, 8, 8, 8, 8, 8, 8, 8, 8, 8, 8, 8, 8, 8, 8, 8, 8, 8, 8, 8, 8, 8, 8, 8, 8, 8, 8, 8, 8, 8, 8, 8, 8, 8, 8, 8, 8, 8, 8, 8, 8, 8, 8, 8, 8, 8, 8, 8, 8, 8, 8, 8, 8, 8, 8, 8, 8, 8, 8, 8, 8, 8, 8, 8, 8, 8, 8, 8, 8, 8, 8, 8, 8, 8, 8, 8, 8, 8, 8, 8, 8, 8, 8, 8, 8, 8, 8, 8, 8, 8, 8, 8, 8, 8, 8, 8, 8, 8, 8, 8]⟩
set_option maxRecDepth 100000 in
theorem tab_get (x : Int) (h0 : 0 ≤ x) (h1 : x < 256) (h : x.toNat < tab.size) : ((tab[x.toNat]'h).toNat : Int) = len x := by
  have H : ∀ k : Fin 256, (((tab.data.toList[k.val]'k.isLt).toNat : Nat) : Int) = if k.val = 0 then 0 else (Nat.log2 k.val : Int) + 1 := by decide +kernel
  obtain ⟨n, rfl⟩ := Int.eq_ofNat_of_zero_le h0
  have hn : n < 256 := by omega
  have := H ⟨n, hn⟩
  unfold len lg
  simp only [Int.toNat_natCast]
  by_cases hz : n = 0
  · subst hz; rfl
  · rw [if_neg (by omega)]; rw [if_neg hz] at this; exact this
theorem len_b (x : Int) (h0 : 0 ≤ x) (h1 : x < 18446744073709551616) : 0 ≤ len x ∧ len x ≤ 64 := by
  unfold len lg
  obtain ⟨n, rfl⟩ := Int.eq_ofNat_of_zero_le h0
  split
  · omega
  · rw [Int.toNat_natCast]
    have := (log2_b n (by omega)).1
    have h2 : Nat.log2 n < 64 := by
      apply Nat.lt_of_not_le; intro hc
      have : 2 ^ 64 ≤ 2 ^ Nat.log2 n := Nat.pow_le_pow_right (by omega) hc
      omega
    omega
end Rd
end Go.Proofs.YtbnmjmlcedkoaabGreatDoor
namespace Go.Proofs.YtbnmjmlcedkoaabGreatDoor
namespace Rd
open Go.ChangeShapes Go.WideShapes Go.RowKit
theorem ret_int {k : IntKind} {a b : Int} (h : a = b) : Ending.returned (.int k a) = .returned (.int k b) := by rw [h]
theorem wrap64_of (n : Int) (h : 0 ≤ n) (h2 : n < 9223372036854775808) : wrap64 n = n := IntWalk.wrap64_in n ⟨by omega, by omega⟩
theorem fin0 (y v : Int) (hv : v = len y) (h0 : 0 ≤ len y) (h1 : len y ≤ 64) : wrap64 (wrap64 v) = len y := by
  subst hv; rw [wrap64_of (len y), wrap64_of] <;> omega
theorem finc (c y v : Int) (hv : v = len y) (h0 : 0 ≤ len y) (h1 : len y ≤ 64) (c0 : 0 ≤ c) (c1 : c ≤ 64) : wrap64 (c + wrap64 v) = c + len y := by
  subst hv; rw [wrap64_of (len y), wrap64_of] <;> omega
set_option maxRecDepth 100000 in
set_option maxHeartbeats 400000 in
theorem len_any (x : Int) (h0 : 0 ≤ x) (h1 : x < 18446744073709551616) (w : World) :
    Calls Tryz.prog 92 #[.int .u64 x] w fun e w' => e = .returned (.int .i64 (len x)) ∧ w' = w := by
  by_cases a32 : 4294967296 ≤ x
  · have H32 : Hid (len (x / 4294967296) + 32 = len x) := len_32 x a32
    have b0 : 0 ≤ x / 4294967296 := by omega
    have b1 : x / 4294967296 < 4294967296 := by omega
    by_cases a16 : 65536 ≤ x / 4294967296
    · have H16 : Hid (len (x / 4294967296 / 65536) + 16 = len (x / 4294967296)) := len_16 _ a16
      have c0 : 0 ≤ x / 4294967296 / 65536 := by omega
      have c1 : x / 4294967296 / 65536 < 65536 := by omega
      by_cases a8 : 256 ≤ x / 4294967296 / 65536
      · have H8 : Hid (len (x / 4294967296 / 65536 / 256) + 8 = len (x / 4294967296 / 65536)) := len_8 _ a8
        have lb := len_b (x / 4294967296 / 65536 / 256) (by omega) (by omega)
        go_enter Tryz.func92, Tryz.ntmps92
        go_wp2
        go_ret
        refine ⟨ret_int ?_, rfl⟩
        refine (finc 56 (x / 4294967296 / 65536 / 256) _ (tab_get _ (by omega) (by omega) _) lb.1 lb.2 (by omega) (by omega)).trans ?_
        have := H8.out; have := H16.out; have := H32.out; omega
      · have lb := len_b (x / 4294967296 / 65536) (by omega) (by omega)
        go_enter Tryz.func92, Tryz.ntmps92
        go_wp2
        go_ret
        refine ⟨ret_int ?_, rfl⟩
        refine (finc 48 (x / 4294967296 / 65536) _ (tab_get _ (by omega) (by omega) _) lb.1 lb.2 (by omega) (by omega)).trans ?_
        have := H16.out; have := H32.out; omega
    · have a16' : x / 4294967296 < 65536 := by omega
      by_cases a8 : 256 ≤ x / 4294967296
      · have H8 : Hid (len (x / 4294967296 / 256) + 8 = len (x / 4294967296)) := len_8 _ a8
        have lb := len_b (x / 4294967296 / 256) (by omega) (by omega)
        go_enter Tryz.func92, Tryz.ntmps92
        go_wp2
        go_ret
        refine ⟨ret_int ?_, rfl⟩
        refine (finc 40 (x / 4294967296 / 256) _ (tab_get _ (by omega) (by omega) _) lb.1 lb.2 (by omega) (by omega)).trans ?_
        have := H8.out; have := H32.out; omega
      · have lb := len_b (x / 4294967296) (by omega) (by omega)
        go_enter Tryz.func92, Tryz.ntmps92
        go_wp2
        go_ret
        refine ⟨ret_int ?_, rfl⟩
        refine (finc 32 (x / 4294967296) _ (tab_get _ (by omega) (by omega) _) lb.1 lb.2 (by omega) (by omega)).trans ?_
        have := H32.out; omega
  · have a32' : x < 4294967296 := by omega
    by_cases a16 : 65536 ≤ x
    · have H16 : Hid (len (x / 65536) + 16 = len x) := len_16 _ a16
      have c0 : 0 ≤ x / 65536 := by omega
      have c1 : x / 65536 < 65536 := by omega
      by_cases a8 : 256 ≤ x / 65536
      · have H8 : Hid (len (x / 65536 / 256) + 8 = len (x / 65536)) := len_8 _ a8
        have lb := len_b (x / 65536 / 256) (by omega) (by omega)
        go_enter Tryz.func92, Tryz.ntmps92
        go_wp2
        go_ret
        refine ⟨ret_int ?_, rfl⟩
        refine (finc 24 (x / 65536 / 256) _ (tab_get _ (by omega) (by omega) _) lb.1 lb.2 (by omega) (by omega)).trans ?_
        have := H8.out; have := H16.out; omega
      · have lb := len_b (x / 65536) (by omega) (by omega)
        go_enter Tryz.func92, Tryz.ntmps92
        go_wp2
        go_ret
        refine ⟨ret_int ?_, rfl⟩
        refine (finc 16 (x / 65536) _ (tab_get _ (by omega) (by omega) _) lb.1 lb.2 (by omega) (by omega)).trans ?_
        have := H16.out; omega
    · have a16' : x < 65536 := by omega
      by_cases a8 : 256 ≤ x
      · have H8 : Hid (len (x / 256) + 8 = len x) := len_8 x a8
        have lb := len_b (x / 256) (by omega) (by omega)
        go_enter Tryz.func92, Tryz.ntmps92
        go_wp2
        go_ret
        refine ⟨ret_int ?_, rfl⟩
        refine (finc 8 (x / 256) _ (tab_get _ (by omega) (by omega) _) lb.1 lb.2 (by omega) (by omega)).trans ?_
        have := H8.out; omega
      · have lb := len_b x h0 h1
        go_enter Tryz.func92, Tryz.ntmps92
        go_wp2
        go_ret
        refine ⟨ret_int ?_, rfl⟩
        exact fin0 x _ (tab_get x h0 (by omega) _) lb.1 lb.2


end Rd
end Go.Proofs.YtbnmjmlcedkoaabGreatDoor
namespace Go.Proofs.YtbnmjmlcedkoaabGreatDoor
namespace Ty
set_option linter.unusedVariables false
/-- Digit i of N, to the base 2^v; the numbers below it come round. -/
def dg (v : Nat) (N : Int) (i : Nat) : Int := N / 2 ^ (v * i) % 2 ^ v
def cr (v : Nat) (A B : Int) (i : Nat) : Int := (A % 2 ^ (v * i) + B % 2 ^ (v * i)) / 2 ^ (v * i)
def bw (v : Nat) (A : Int) (i : Nat) : Int := -((-(A % 2 ^ (v * i))) / 2 ^ (v * i))
theorem pw (k : Nat) : (0 : Int) < 2 ^ k := Int.pow_pos (by decide)
theorem dg_b (v : Nat) (N : Int) (i : Nat) : 0 ≤ dg v N i ∧ dg v N i < 2 ^ v := ⟨Int.emod_nonneg _ (Int.ne_of_gt (pw v)), Int.emod_lt_of_pos _ (pw v)⟩
/-- What lies below digit i + 1. -/
theorem low_succ (P Q A : Int) (hP : 0 < P) (hQ : 0 < Q) : A % (P * Q) = P * (A / P % Q) + A % P := by
  have h1 := Int.mul_ediv_add_emod A P
  have h2 := Int.mul_ediv_add_emod (A / P) Q
  have r1 := Int.emod_nonneg A (Int.ne_of_gt hP)
  have r2 := Int.emod_lt_of_pos A hP
  have r3 := Int.emod_nonneg (A / P) (Int.ne_of_gt hQ)
  have r4 := Int.emod_lt_of_pos (A / P) hQ
  generalize A / P % Q = x at *
  generalize A % P = y at *
  have e : A = P * x + y + (P * Q) * (A / P / Q) := by
    rw [Int.mul_assoc]
    have e3 : P * (Q * (A / P / Q)) = P * (A / P - x) := by rw [show Q * (A / P / Q) = A / P - x by omega]
    rw [e3, Int.mul_sub]; omega
  rw [e, Int.add_mul_emod_self_left]
  refine Int.emod_eq_of_lt (Int.add_nonneg (Int.mul_nonneg (Int.le_of_lt hP) r3) r1) ?_
  have h5 : P * (x + 1) ≤ P * Q := Int.mul_le_mul_of_nonneg_left (by omega) (Int.le_of_lt hP)
  rw [Int.mul_add] at h5
  omega
theorem pow_succ' (v i : Nat) : (2 : Int) ^ (v * (i + 1)) = 2 ^ (v * i) * 2 ^ v := by rw [Nat.mul_succ, Int.pow_add]
theorem split (P A : Int) (hP : 0 < P) : A = P * (A / P) + A % P := (Int.mul_ediv_add_emod A P).symm
theorem div_mul (P Q x y : Int) (hP : 0 < P) (hy : 0 ≤ y) (hy2 : y < P) (hQ : 0 < Q) : (P * x + y) / (P * Q) = x / Q := by
  rw [← Int.ediv_ediv_of_nonneg (Int.le_of_lt hP), Int.add_comm, Int.add_mul_ediv_left _ _ (Int.ne_of_gt hP), Int.ediv_eq_zero_of_lt hy hy2, Int.zero_add]
theorem add_step (v : Nat) (A B : Int) (i : Nat) : (dg v A i + dg v B i + cr v A B i) % 2 ^ v = dg v (A + B) i ∧ (dg v A i + dg v B i + cr v A B i) / 2 ^ v = cr v A B (i + 1) := by
  unfold dg cr
  rw [pow_succ' v i]
  have hP := pw (v * i)
  have hQ := pw v
  generalize (2 : Int) ^ (v * i) = P at *
  generalize (2 : Int) ^ v = Q at *
  have ea := split P A hP
  have eb := split P B hP
  have ec := split P (A % P + B % P) hP
  have r1 := Int.emod_nonneg (A % P + B % P) (Int.ne_of_gt hP)
  have r2 := Int.emod_lt_of_pos (A % P + B % P) hP
  rw [low_succ P Q A hP hQ, low_succ P Q B hP hQ]
  constructor
  · have e1 : (A + B) / P = A / P + B / P + (A % P + B % P) / P := by
      have e2 : A + B = (A % P + B % P) + P * (A / P + B / P) := by rw [Int.mul_add]; omega
      rw [e2, Int.add_mul_ediv_left _ _ (Int.ne_of_gt hP)]
      have e3 : (A % P + B % P + P * (A / P + B / P)) = A + B := by omega
      omega
    rw [e1]
    have e4 : A / P % Q + B / P % Q + (A % P + B % P) / P = A / P + B / P + (A % P + B % P) / P + Q * (-(A / P / Q) - B / P / Q) := by
      have h1 := Int.mul_ediv_add_emod (A / P) Q
      have h2 := Int.mul_ediv_add_emod (B / P) Q
      rw [Int.mul_sub, Int.mul_neg]; omega
    rw [e4, Int.add_mul_emod_self_left]
  · have e1 : P * (A / P % Q) + A % P + (P * (B / P % Q) + B % P) = P * (A / P % Q + B / P % Q + (A % P + B % P) / P) + (A % P + B % P) % P := by
      rw [Int.mul_add, Int.mul_add]; omega
    rw [e1, div_mul P Q _ _ hP r1 r2 hQ]
theorem neg_step (v : Nat) (A : Int) (i : Nat) : (0 - dg v A i - bw v A i) % 2 ^ v = dg v (-A) i ∧ -((0 - dg v A i - bw v A i) / 2 ^ v) = bw v A (i + 1) := by
  unfold dg bw
  rw [pow_succ' v i]
  have hP := pw (v * i)
  have hQ := pw v
  generalize (2 : Int) ^ (v * i) = P at *
  generalize (2 : Int) ^ v = Q at *
  have ea := split P A hP
  have ec := split P (-(A % P)) hP
  have r1 := Int.emod_nonneg (-(A % P)) (Int.ne_of_gt hP)
  have r2 := Int.emod_lt_of_pos (-(A % P)) hP
  rw [low_succ P Q A hP hQ]
  constructor
  · have e1 : (-A) / P = -(A / P) + (-(A % P)) / P := by
      have e2 : -A = -(A % P) + P * (-(A / P)) := by rw [Int.mul_neg]; omega
      have e3 := Int.add_mul_ediv_left (-(A % P)) (-(A / P)) (Int.ne_of_gt hP)
      rw [← e2] at e3; omega
    rw [e1]
    have e4 : 0 - A / P % Q - -(-(A % P) / P) = -(A / P) + (-(A % P)) / P + Q * (A / P / Q) := by
      have := Int.mul_ediv_add_emod (A / P) Q; omega
    rw [e4, Int.add_mul_emod_self_left]
  · have e1 : -(P * (A / P % Q) + A % P) = P * (0 - A / P % Q - -(-(A % P) / P)) + (-(A % P)) % P := by
      rw [Int.mul_sub, Int.mul_sub, Int.mul_neg]; omega
    rw [e1, div_mul P Q _ _ hP r1 r2 hQ]
theorem cr_zero (v : Nat) (A B : Int) : cr v A B 0 = 0 := by
  unfold cr; simp [Int.emod_one]
theorem bw_zero (v : Nat) (A : Int) : bw v A 0 = 0 := by
  unfold bw; simp [Int.emod_one]
theorem cr_b (v : Nat) (A B : Int) (i : Nat) : 0 ≤ cr v A B i ∧ cr v A B i ≤ 1 := by
  unfold cr
  have hP := pw (v * i)
  generalize (2 : Int) ^ (v * i) = P at *
  have r1 := Int.emod_nonneg A (Int.ne_of_gt hP)
  have r2 := Int.emod_lt_of_pos A hP
  have r3 := Int.emod_nonneg B (Int.ne_of_gt hP)
  have r4 := Int.emod_lt_of_pos B hP
  refine ⟨Int.ediv_nonneg (by omega) (by omega), ?_⟩
  have : (A % P + B % P) / P < 2 := Int.ediv_lt_of_lt_mul hP (by omega)
  omega
theorem bw_b (v : Nat) (A : Int) (i : Nat) : 0 ≤ bw v A i ∧ bw v A i ≤ 1 := by
  unfold bw
  have hP := pw (v * i)
  generalize (2 : Int) ^ (v * i) = P at *
  have r1 := Int.emod_nonneg A (Int.ne_of_gt hP)
  have r2 := Int.emod_lt_of_pos A hP
  have h1 : (-1 : Int) ≤ (-(A % P)) / P := Int.le_ediv_of_mul_le hP (by omega)
  have h2 : (-(A % P)) / P < 1 := Int.ediv_lt_of_lt_mul hP (by omega)
  omega
end Ty
end Go.Proofs.YtbnmjmlcedkoaabGreatDoor
namespace Go.Proofs.YtbnmjmlcedkoaabGreatDoor
namespace Ty
/-- The test of a guessed digit: y1 * B + y0 is the divisor, u * B + d what is divided, q the guess, r what it leaves of u by y1. -/
theorem dv_iff {B y1 y0 u d q r : Int} (hu : u = q * y1 + r) : q * (y1 * B + y0) > u * B + d ↔ q * y0 > B * r + d := by
  have h1 : q * (y1 * B + y0) = q * y1 * B + q * y0 := by rw [Int.mul_add, Int.mul_assoc]
  have h2 : u * B = q * y1 * B + B * r := by rw [hu, Int.add_mul, Int.mul_comm r B]
  rw [h1, h2]; omega
/-- A guess of B or more is too great. -/
theorem dv_big {B y u d q : Int} (hq : B ≤ q) (hu : u < y) (hu0 : 0 ≤ u) (hd : d < B) (hB : 0 < B) : q * y > u * B + d := by
  have h1 : B * y ≤ q * y := Int.mul_le_mul_of_nonneg_right hq (by omega)
  have h2 : B * (u + 1) ≤ B * y := Int.mul_le_mul_of_nonneg_left (by omega) (by omega)
  have h3 : B * (u + 1) = u * B + B := by rw [Int.mul_add, Int.mul_one, Int.mul_comm]
  omega
/-- The first guess is not too small. -/
theorem dv_low {B y1 y0 u d q : Int} (hu : u < (q + 1) * y1) (hd : d < B) (hy : 0 ≤ y0) (hq : 0 ≤ q) (hB : 0 < B) : u * B + d < (q + 1) * (y1 * B + y0) := by
  have h1 : (q + 1) * (y1 * B + y0) = (q + 1) * y1 * B + (q + 1) * y0 := by rw [Int.mul_add, Int.mul_assoc]
  have h2 : (u + 1) * B ≤ (q + 1) * y1 * B := Int.mul_le_mul_of_nonneg_right (by omega) (by omega)
  have h3 : (u + 1) * B = u * B + B := by rw [Int.add_mul, Int.one_mul]
  have h4 : 0 ≤ (q + 1) * y0 := Int.mul_nonneg (by omega) hy
  omega
/-- A guess that leaves B or more is not too great. -/
theorem dv_break {B y0 d q r : Int} (hq : q ≤ B) (hy : 0 ≤ y0) (hy1 : y0 < B) (hr : B ≤ r) (hd : 0 ≤ d) : ¬ q * y0 > B * r + d := by
  have h1 : q * y0 ≤ B * y0 := Int.mul_le_mul_of_nonneg_right hq hy
  have h2 : B * y0 ≤ B * r := Int.mul_le_mul_of_nonneg_left (by omega) (by omega)
  omega
/-- The first guess is B + 1 at most. -/
theorem dv_first {B y1 y0 u q r : Int} (hy : B ≤ 2 * y1) (hB : 0 < B) (hy1 : y0 < B) (hu : u < y1 * B + y0) (hq : u = q * y1 + r) (hr : 0 ≤ r) : q ≤ B + 1 := by
  by_cases h : q ≤ B + 1
  · exact h
  · have h1 : (B + 2) * y1 ≤ q * y1 := Int.mul_le_mul_of_nonneg_right (by omega) (by omega)
    have h2 : (B + 2) * y1 = y1 * B + 2 * y1 := by rw [Int.add_mul, Int.mul_comm B y1]
    omega
/-- A guess that is neither too great nor too small is the digit. -/
theorem dv_end {X y q : Int} (h0 : ¬ q * y > X) (h1 : X < (q + 1) * y) (hy : 0 < y) : X / y = q := by
  have h2 : (q + 1) * y = q * y + y := by rw [Int.add_mul, Int.one_mul]
  have h3 : X / y = q + (X - q * y) / y := by
    rw [← Int.mul_add_ediv_right q (X - q * y) (by omega)]; congr 1; omega
  rw [h3, Int.ediv_eq_zero_of_lt (by omega) (by omega)]; omega
/-- One guess less: what it leaves is y1 more. -/
theorem dv_step {y1 u q r : Int} (hq : u = q * y1 + r) : u = (q - 1) * y1 + (r + y1) := by
  rw [Int.sub_mul, Int.one_mul]; omega
/-- Two digits, one behind the other. -/
theorem dv_two (X d B y : Int) (hy : 0 < y) : (X * B + d) / y = X / y * B + (X % y * B + d) / y ∧ (X * B + d) % y = (X % y * B + d) % y := by
  have h : X * B + d = (X % y * B + d) + X / y * B * y := by
    have h1 := Int.mul_ediv_add_emod X y
    have h2 : X * B = y * (X / y) * B + X % y * B := by rw [← Int.add_mul, h1]
    have h3 : y * (X / y) * B = X / y * B * y := by rw [Int.mul_comm y, Int.mul_assoc, Int.mul_comm y B, ← Int.mul_assoc]
    omega
  rw [h]
  exact ⟨by rw [Int.add_mul_ediv_right _ _ (by omega)]; omega, by rw [Int.add_mul_emod_self_right]⟩
/-- Both times a power: the same quotient, and what is left times the power. -/
theorem dv_scale (X y P : Int) (hP : 0 < P) : X * P / (y * P) = X / y ∧ X * P % (y * P) / P = X % y := by
  refine ⟨Int.mul_ediv_mul_of_pos_left X y hP, ?_⟩
  rw [Int.mul_comm X P, Int.mul_comm y P, Int.mul_emod_mul_of_pos X y hP, Int.mul_comm, Int.mul_ediv_cancel _ (by omega)]
end Ty
end Go.Proofs.YtbnmjmlcedkoaabGreatDoor
namespace Go.Proofs.YtbnmjmlcedkoaabGreatDoor
namespace Ty
open Go.RowKit
set_option linter.unusedVariables false
theorem two64 : (2 : Int) ^ 64 = 18446744073709551616 := by decide
def wd (N : Int) (i : Nat) : Int := N / 2 ^ (64 * i) % 18446744073709551616
theorem wd_dg (N : Int) (i : Nat) : wd N i = dg 64 N i := by unfold wd dg; rw [two64]
theorem wd_b (N : Int) (i : Nat) : 0 ≤ wd N i ∧ wd N i < 18446744073709551616 := by unfold wd; omega
/-- The six words of a number, which comes round. -/
def sm (N : Int) : Array Value := #[.int .u64 (wd N 0), .int .u64 (wd N 1), .int .u64 (wd N 2), .int .u64 (wd N 3), .int .u64 (wd N 4), .int .u64 (wd N 5)]
theorem sm_get (N : Int) (i : Nat) (h : i < 6) : (sm N)[i]? = some (.int .u64 (wd N i)) := by
  match i, h with
  | 0, _ => rfl
  | 1, _ => rfl
  | 2, _ => rfl
  | 3, _ => rfl
  | 4, _ => rfl
  | 5, _ => rfl
theorem sm_of (c : Array Value) (N : Int) (hs : c.size = 6) (h : ∀ i, i < 6 → c[i]? = some (.int .u64 (wd N i))) : c = sm N := by
  apply Array.ext_getElem?
  intro i
  by_cases hi : i < 6
  · rw [h i hi, sm_get N i hi]
  · rw [Array.getElem?_eq_none (by omega), Array.getElem?_eq_none (by show 6 ≤ i; omega)]
theorem wd_add (A B : Int) (i : Nat) : (wd A i + wd B i + cr 64 A B i) % 18446744073709551616 = wd (A + B) i ∧ (wd A i + wd B i + cr 64 A B i) / 18446744073709551616 = cr 64 A B (i + 1) := by
  have h := add_step 64 A B i
  rw [two64] at h
  rw [wd_dg, wd_dg, wd_dg]; exact h
theorem add64 (x y c : Int) (hx : 0 ≤ x) (hy : 0 ≤ y) (hc : 0 ≤ c) (hc1 : c ≤ 1) (w : World) : (callFunc 37 #[.int .u64 x, .int .u64 y, .int .u64 c]).run Tryz.prog w =
    .ok (.value (.tuple #[.int .u64 ((x + y + c) % 18446744073709551616), .int .u64 ((x + y + c) / 18446744073709551616)])) w := by
  rw [run_callFunc_extern Tryz.func37 (by kernel_rfl) (by kernel_rfl) (by kernel_rfl) (e := add64Entry) (by kernel_rfl), run_add64 x y c hx hy hc hc1]
  simp [Result.andThen]
def sub64Entry : Array Value → Sem Value := fun args => do
  let (x, y, b) ← Extern.MathBitsCarry.three "Sub64" args
  pure (Extern.MathBitsCarry.pair ((x + Extern.MathBitsCarry.m64 - y - b) % Extern.MathBitsCarry.m64) (if x < y + b then 1 else 0))
theorem run_sub64 {P : Program} (y c : Int) (hy : 0 ≤ y) (hy1 : y < 18446744073709551616) (hc0 : 0 ≤ c) (hc : c ≤ 1) (w : World) :
    (sub64Entry #[.int .u64 0, .int .u64 y, .int .u64 c]).run P w =
      .ok (.tuple #[.int .u64 ((0 - y - c) % 18446744073709551616), .int .u64 (-((0 - y - c) / 18446744073709551616))]) w := by
  have key : ∀ k : Nat, k ≤ 1 → (sub64Entry #[.int .u64 0, .int .u64 y, .int .u64 (k : Int)]).run P w =
      .ok (Extern.MathBitsCarry.pair ((0 + Extern.MathBitsCarry.m64 - y.toNat - k) % Extern.MathBitsCarry.m64) (if 0 < y.toNat + k then 1 else 0)) w := by
    intro k hk
    have : k = 0 ∨ k = 1 := by omega
    rcases this with rfl | rfl <;> rfl
  obtain ⟨k, rfl⟩ := Int.eq_ofNat_of_zero_le hc0
  rw [key k (by omega)]
  obtain ⟨Y, rfl⟩ := Int.eq_ofNat_of_zero_le hy
  simp only [Extern.MathBitsCarry.pair, Extern.MathBitsCarry.m64, Int.toNat_natCast]
  congr 4
  · congr 1
    simp only [Int.ofNat_eq_natCast]; omega
  · congr 2
    split <;> simp only [Int.ofNat_eq_natCast] <;> omega
theorem sub64 (y c : Int) (hy : 0 ≤ y) (hy1 : y < 18446744073709551616) (hc : 0 ≤ c) (hc1 : c ≤ 1) (w : World) : (callFunc 38 #[.int .u64 0, .int .u64 y, .int .u64 c]).run Tryz.prog w =
    .ok (.value (.tuple #[.int .u64 ((0 - y - c) % 18446744073709551616), .int .u64 (-((0 - y - c) / 18446744073709551616))])) w := by
  rw [run_callFunc_extern Tryz.func38 (by kernel_rfl) (by kernel_rfl) (by kernel_rfl) (e := sub64Entry) (by kernel_rfl), run_sub64 y c hy hy1 hc hc1]
  simp [Result.andThen]
theorem wd_neg (A : Int) (i : Nat) : (0 - wd A i - bw 64 A i) % 18446744073709551616 = wd (-A) i ∧ -((0 - wd A i - bw 64 A i) / 18446744073709551616) = bw 64 A (i + 1) := by
  have h := neg_step 64 A i
  rw [two64] at h
  rw [wd_dg, wd_dg]; exact h
theorem wd_mod (A : Int) (i : Nat) (h : i < 6) : wd (A % 2 ^ 384) i = wd A i := by
  have e : (2 : Int) ^ 384 = 2 ^ (64 * i) * (18446744073709551616 * 2 ^ (384 - 64 * (i + 1))) := by
    rw [← two64, ← Int.pow_add, ← Int.pow_add]; congr 1; omega
  unfold wd
  rw [e]
  have hP := pw (64 * i)
  have hR := pw (384 - 64 * (i + 1))
  generalize (2 : Int) ^ (64 * i) = P at *
  generalize (2 : Int) ^ (384 - 64 * (i + 1)) = R at *
  have hQ : 0 < 18446744073709551616 * R := by omega
  rw [low_succ P _ A hP hQ, Int.add_comm, Int.add_mul_ediv_left _ _ (Int.ne_of_gt hP), Int.ediv_eq_zero_of_lt (Int.emod_nonneg _ (Int.ne_of_gt hP)) (Int.emod_lt_of_pos _ hP), Int.zero_add]
  rw [Int.emod_emod_of_dvd _ (Int.dvd_mul_right _ _)]
end Ty
end Go.Proofs.YtbnmjmlcedkoaabGreatDoor
