import Derived.Test.YtipnlcnikpngcaaDoorWpE
import Derived.Test.YtipnlcnikpngcaaDoorWpF
import Derived.WalkMore
namespace Go.Proofs.YtipnlcnikpngcaaDoor
namespace Wp
open Go.RowKit
set_option linter.unusedVariables false
set_option maxRecDepth 8000
set_option maxHeartbeats 2000000 in
theorem rdiv_any (x y g : Nat) (hx : x < 18446744073709551616) (hy : y < 18446744073709551616) (hg : Nat.gcd x y = g) (w : World) : Calls Tryd.prog 29 #[.int .u64 (x : Int), .int .u64 (y : Int)] w fun e w' => e = .returned (.int .u64 (g : Int)) ∧ w' = w := by
  have HG : Hid (Nat.gcd x y = g) := hg
  clear hg
  go_enter Tryd.func29, Tryd.ntmps29
  go_wp2
  go_loop [0, 1, 5] (fun u v t => ∃ a b : Nat, a < 18446744073709551616 ∧ b < 18446744073709551616 ∧ u = .int .u64 (a : Int) ∧ v = .int .u64 (b : Int) ∧ Hid (Nat.gcd a b = g)) (fun _ v _ => (intOf v).toNat)
  case atStart => exact ⟨x, y, hx, hy, rfl, rfl, HG⟩
  case round =>
    obtain ⟨a, b, ha, hb, rfl, rfl, hg⟩ := hrel
    by_cases h0 : b = 0
    · subst h0
      go_wp2
      go_ret
      have h := hg.out
      rw [Nat.gcd_zero_right] at h
      exact ⟨by subst h; rfl, rfl⟩
    · have h1 : 0 < (b : Int) := by omega
      have h2 : ¬ (b : Int) = 0 := by omega
      have h3 : (((b : Nat) : Int) == 0) = false := by simp [h0]
      clear h0
      go_wp2
      refine ⟨⟨b, a % b, hb, ?_, rfl, ?_, ?_⟩, ?_⟩
      · have := Nat.mod_lt a (show 0 < b by omega); omega
      · rfl
      · show Nat.gcd b (a % b) = g
        rw [Nat.gcd_comm, ← Nat.gcd_rec, Nat.gcd_comm]; exact hg.out
      · have := Nat.mod_lt a (show 0 < b by omega)
        simp only [intOf]
        omega
set_option maxHeartbeats 2000000 in
theorem div_any (x y g : Nat) (hx : x < 4294967296) (hy : y < 4294967296) (hg : Nat.gcd x y = g) (w : World) : Calls Tryd.prog 31 #[.int .u32 (x : Int), .int .u32 (y : Int)] w fun e w' => e = .returned (.int .u32 (g : Int)) ∧ ∃ m, w' = w.drewN m := by
  have HG : Hid (Nat.gcd x y = g) := hg
  clear hg
  go_enter Tryd.func31, Tryd.ntmps31
  go_wp2
  go_step3
  go_wp2
  go_step3
  go_wp2
  go_loopw [0, 1] (fun u v wr => ∃ a b : Nat, a < 4294967296 ∧ b < 4294967296 ∧ u = .int .u32 (a : Int) ∧ v = .int .u32 (b : Int) ∧ Hid (Nat.gcd a b = g) ∧ ∃ m, wr = w.drewN m) (fun _ v _ => (intOf v).toNat)
  case atStart => exact ⟨x, y, hx, hy, rfl, rfl, HG, 0, rfl⟩
  case round =>
    obtain ⟨a, b, ha, hb, rfl, rfl, hg, m, rfl⟩ := hrel
    by_cases h0 : b = 0
    · subst h0
      go_wp2
      simp only [Exit.noGoto]
      go_ret
      have h := hg.out
      rw [Nat.gcd_zero_right] at h
      exact ⟨by subst h; rfl, _, rfl⟩
    · have h1 : 0 < (b : Int) := by omega
      have h2 : ¬ (b : Int) = 0 := by omega
      have h3 : (((b : Nat) : Int) == 0) = false := by simp [h0]
      clear h0
      go_wp2
      go_region
      all_goals go_wp2
      refine ⟨⟨b, a % b, hb, ?_, rfl, ?_, ?_, m + 1, rfl⟩, ?_⟩
      · have := Nat.mod_lt a (show 0 < b by omega); omega
      · rfl
      · show Nat.gcd b (a % b) = g
        rw [Nat.gcd_comm, ← Nat.gcd_rec, Nat.gcd_comm]; exact hg.out
      · have := Nat.mod_lt a (show 0 < b by omega)
        simp only [intOf]
        omega
end Wp
end Go.Proofs.YtipnlcnikpngcaaDoor
