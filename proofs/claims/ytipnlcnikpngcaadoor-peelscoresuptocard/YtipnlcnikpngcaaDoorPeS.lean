import Derived.Test.YtipnlcnikpngcaaDoorPeR
namespace Go.Proofs.YtipnlcnikpngcaaDoor
namespace Wp
open Go.RowKit
set_option linter.unusedVariables false
set_option maxRecDepth 8000
set_option maxHeartbeats 2000000 in
theorem rrank_no1 (sd : Int) (w : World) : Calls Tryd.prog 16 #[.int .u32 0, .int .u64 sd] w fun e w' => e = .returned (.tuple #[.agg z3, .int .i64 2]) ∧ Below w.heap.size w w' := by
  go_enter Tryd.func16, Tryd.ntmps16
  go_wp2
  refine bodyPost_ret (v := .tuple #[.agg z3, .int .i64 2]) ?_ rfl ⟨rfl, by repeat first | exact Below.refl _ _ | refine belowD ?_ | refine belowN ?_ _ | refine bA ?_ (by first | exact Nat.le_refl _ | (simp only [World.size_alloc]; omega)) _⟩
  simp only [results, Tryd.results16, asAddr]
  go_simp
set_option maxHeartbeats 2000000 in
theorem rrank_no2 (n : Nat) (sd : Int) (h1 : 1 ≤ n) (h : 2147483647 < n) (w : World) : Calls Tryd.prog 16 #[.int .u32 (n : Int), .int .u64 sd] w fun e w' => e = .returned (.tuple #[.agg z3, .int .i64 2]) ∧ Below w.heap.size w w' := by
  go_enter Tryd.func16, Tryd.ntmps16
  go_wp2
  refine bodyPost_ret (v := .tuple #[.agg z3, .int .i64 2]) ?_ rfl ⟨rfl, by repeat first | exact Below.refl _ _ | refine belowD ?_ | refine belowN ?_ _ | refine bA ?_ (by first | exact Nat.le_refl _ | (simp only [World.size_alloc]; omega)) _⟩
  simp only [results, Tryd.results16, asAddr]
  go_simp
set_option maxHeartbeats 2000000 in
theorem rrank_ok (n sd j : Nat) (h : Sz n) (hs : sd < 18446744073709551616) (hj : Fst n (sd / 4294967296 % n) j) (w : World) : Calls Tryd.prog 16 #[.int .u32 (n : Int), .int .u64 (sd : Int)] w fun e w' => e = .returned (.tuple #[.agg (rk n j ((sd % n : Nat) : Int)), .int .i64 0]) ∧ Below w.heap.size w w' := by
  obtain ⟨h1, h2⟩ := h
  have g1 : ¬ (n : Int) = 0 := by omega
  have g2 : ((n : Int) == 0) = false := by simp; omega
  obtain ⟨a, ha⟩ : ∃ a, sd / 4294967296 % n = a := ⟨_, rfl⟩
  have ha2 : a < n := by rw [← ha]; exact Nat.mod_lt _ (by omega)
  have ha3 : (sd : Int) / 4294967296 % (n : Int) = (a : Int) := by rw [← ha]; rfl
  obtain ⟨c, hc⟩ : ∃ c, sd % n = c := ⟨_, rfl⟩
  have hc2 : c < n := by rw [← hc]; exact Nat.mod_lt _ (by omega)
  have hc3 : (sd : Int) % (n : Int) = (c : Int) := by rw [← hc]; rfl
  rw [ha] at hj
  rw [hc]
  have HJ : Hid (Fst n a j) := hj
  clear ha hc hj
  go_enter Tryd.func16, Tryd.ntmps16
  go_wp2
  go_loop [6] (fun v => ∃ i : Nat, a ≤ i ∧ i ≤ j ∧ v = .int .u64 (i : Int)) (fun v => j - (intOf v).toNat)
  case atStart => exact ⟨a, Nat.le_refl _, HJ.out.1, by first | rfl | rw [ha3]⟩
  case round =>
    clear ha2 ha3
    obtain ⟨i, hi1, hi2, rfl⟩ := hrel
    have hj2 : j < n := HJ.out.2.1
    by_cases he : i = j
    · subst he
      have HD := hide (rdiv_any i n 1 (by omega) (by omega) (by rw [Nat.gcd_comm]; exact HJ.out.2.2.1))
      go_wp2_with (first | (go_at_call 29; refine (HD.out _).mono ?_; rintro e9 w9 ⟨rfl, hw9⟩; subst w9))
      refine bodyPost_ret (v := .tuple #[.agg (rk n i c), .int .i64 0]) ?_ rfl ⟨rfl, by repeat first | exact Below.refl _ _ | refine belowD ?_ | refine belowN ?_ _ | refine bA ?_ (by first | exact Nat.le_refl _ | (simp only [World.size_alloc]; omega)) _⟩
      simp only [results, Tryd.results16, asAddr]
      go_simp
    · obtain ⟨g, hg⟩ : ∃ g, Nat.gcd i n = g := ⟨_, rfl⟩
      have HD := hide (rdiv_any i n g (by omega) (by omega) hg)
      have hg1 : ¬ g = 1 := by rw [← hg, Nat.gcd_comm]; exact HJ.out.2.2.2 i hi1 (by omega)
      have hb : ((g : Int) == 1) = false := by simp; omega
      have hb2 : ((g : Int) != 1) = true := by simp [bne, hb]
      have hi3 : ((i : Int) + 1) % (n : Int) = (i : Int) + 1 := Int.emod_eq_of_lt (by omega) (by omega)
      clear hg hg1
      go_wp2_with (first | (go_at_call 29; refine (HD.out _).mono ?_; rintro e9 w9 ⟨rfl, hw9⟩; subst w9))
      exact ⟨⟨i + 1, by omega, by omega, by rw [hi3]; rfl⟩, by simp only [intOf]; omega⟩
end Wp
end Go.Proofs.YtipnlcnikpngcaaDoor
