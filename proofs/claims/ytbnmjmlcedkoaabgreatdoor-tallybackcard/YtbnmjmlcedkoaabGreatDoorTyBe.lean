import Derived.Test.YtbnmjmlcedkoaabGreatDoorTyBd
namespace Go.Proofs.YtbnmjmlcedkoaabGreatDoor
namespace Ty
open Go.RowKit
set_option linter.unusedVariables false
theorem sb_str (xs : List Int) (j : Nat) (h : j < xs.length) (h0 : 0 ≤ xs.getD j 0) (h1 : xs.getD j 0 ≤ 255) : sb (strOfNums xs) j = xs.getD j 0 := by
  have e : (strOfNums xs).data.toList.getD j 0 = UInt8.ofNat (xs.getD j 0).toNat := by
    rw [strOfNums_data]
    simp [List.getD, h]
  unfold sb
  rw [e, UInt8.toNat_ofNat', Nat.mod_eq_of_lt (by omega)]
  omega
theorem gf_back (f : Nat → Int) (o : Nat) (v : Int) : ∀ k, (∀ j, j < k → f (o + j) = byteAt v j) → gf f o k = v % 2 ^ (8 * k)
  | 0, _ => by simp [gf]
  | k + 1, h => by
    have ih := gf_back f o v k (fun j hj => h j (by omega))
    rw [gf_succ, ih, h k (by omega), pow8]
    unfold byteAt
    have hp := pow8_pos k
    generalize (2 : Int) ^ (8 * k) = P at *
    have e1 := Int.emod_add_mul_ediv v P
    have e2 := Int.emod_add_mul_ediv v (256 * P)
    have e3 : v / (256 * P) = v / P / 256 := by rw [Int.mul_comm, Int.ediv_ediv_of_nonneg (by omega)]
    have e4 := Int.emod_add_mul_ediv (v / P) 256
    rw [e3] at e2
    generalize v / P = q at *
    generalize v % P = r at *
    generalize v % (256 * P) = r2 at *
    have e5 : P * q = P * (q % 256) + P * (256 * (q / 256)) := by rw [← Int.mul_add, e4]
    have e6 : 256 * P * (q / 256) = P * (256 * (q / 256)) := by rw [Int.mul_comm 256 P, Int.mul_assoc]
    rw [e6] at e2
    rw [Int.mul_comm (q % 256) P]
    omega
theorem by_back (A : Int) (i : Nat) (h : i < 6) : gf (sb (strOfNums (by48s A))) (8 * i) 8 = wd A i := by
  have hb := wd_b A i
  rw [gf_back _ _ (wd A i) 8 (fun j hj => ?_)]
  · exact Int.emod_eq_of_lt hb.1 (by rw [show (2 : Int) ^ (8 * 8) = 18446744073709551616 from by decide]; exact hb.2)
  · have hl : 8 * i + j < (by48s A).length := by rw [by48s_len]; omega
    have hg := by48s_get A (8 * i + j) (by omega)
    have hbb : 0 ≤ by48 A (8 * i + j) ∧ by48 A (8 * i + j) ≤ 255 := byteAt_b _ _
    rw [sb_str _ _ hl (by rw [hg]; exact hbb.1) (by rw [hg]; exact hbb.2), hg]
    unfold by48
    rw [show (8 * i + j) / 8 = i by omega, show (8 * i + j) % 8 = j by omega]
theorem bytes_len (A : Int) : (strOfNums (by48s A)).size = 48 := by rw [strOfNums_size, by48s_len]
theorem frombytes_back (A : Int) (w : World) : Calls Tryz.prog 14 #[.string (strOfNums (by48s A))] w fun e w' => e = .returned (.tuple #[.agg (sm A), .int .i64 0]) ∧ Below w.heap.size w w' := by
  refine (frombytes_any (strOfNums (by48s A)) (bytes_len A) w).mono ?_
  rintro e w' ⟨N, hN, rfl, hb⟩
  have e : sm N = sm A := by
    refine sm_of (sm N) A rfl (fun i hi => ?_)
    rw [sm_get N i hi, hN i hi, by_back A i hi]
  rw [e]
  exact ⟨rfl, hb⟩
end Ty
end Go.Proofs.YtbnmjmlcedkoaabGreatDoor
