import Derived.Test.YteegfadhfimlcaaGreatDoorNzB
namespace Go.Proofs.YteegfadhfimlcaaGreatDoor
namespace Rn
open Go.RowKit
set_option linter.unusedVariables false
set_option maxRecDepth 8000
set_option maxHeartbeats 2000000 in
/-- The greatest of a list of one. -/
theorem max_one (b c : Nat) (q : Int) (w : World) (hc : w.cell? ⟨b, 0, none⟩ = some (.int .u32 q)) : Calls Tryz.prog 108 #[.slice (some ⟨b, 0, none⟩) 1 c] w fun e w' => e = .returned (.int .u32 q) ∧ w' = w := by
  go_enter Tryz.func108, Tryz.ntmps108
  go_wp2
  go_loop [3, 4] (fun v i => v = .int .u32 q ∧ i = .int .i64 1) (fun _ i => 2 - (intOf i).toNat)
  case atStart => exact ⟨rfl, rfl⟩
  case round =>
    obtain ⟨rfl, rfl⟩ := hrel
    go_wp2
    all_goals go_ret
    all_goals exact ⟨rfl, rfl⟩
def sce (n q : Int) : Int := if szn n ≠ 0 then szn n else if n ≤ q then 130 else 0
set_option maxHeartbeats 2000000 in
theorem sourced_one (b c : Nat) (n q : Int) (w : World) (hc : w.cell? ⟨b, 0, none⟩ = some (.int .u32 q)) : Calls Tryz.prog 33 #[.int .u32 n, .slice (some ⟨b, 0, none⟩) 1 c] w fun e w' => e = .returned (.int .i64 (sce n q)) ∧ w' = w := by
  have HZ := hide (sized_any n w)
  have HM := hide (max_one b c q w hc)
  unfold sce
  obtain ⟨z, hz⟩ : ∃ z, szn n = z := ⟨_, rfl⟩
  rw [hz] at HZ ⊢
  clear hz
  by_cases h0 : z = 0
  · subst h0
    rw [if_neg (by simp)]
    by_cases h1 : n ≤ q
    · rw [if_pos h1]
      go_enter Tryz.func33, Tryz.ntmps33
      go_wp2_with (first | (go_at_call 24; refine HZ.out.mono ?_; rintro e9 w9 ⟨rfl, hw9⟩; subst w9) | (go_at_call 108; refine HM.out.mono ?_; rintro e9 w9 ⟨rfl, hw9⟩; subst w9))
      all_goals go_ret
      all_goals exact ⟨rfl, rfl⟩
    · rw [if_neg h1]
      go_enter Tryz.func33, Tryz.ntmps33
      go_wp2_with (first | (go_at_call 24; refine HZ.out.mono ?_; rintro e9 w9 ⟨rfl, hw9⟩; subst w9) | (go_at_call 108; refine HM.out.mono ?_; rintro e9 w9 ⟨rfl, hw9⟩; subst w9))
      all_goals go_ret
      all_goals exact ⟨rfl, rfl⟩
  · rw [if_pos h0]
    have h0' : (z != 0) = true := by simpa using h0
    go_enter Tryz.func33, Tryz.ntmps33
    go_wp2_with (first | (go_at_call 24; refine HZ.out.mono ?_; rintro e9 w9 ⟨rfl, hw9⟩; subst w9))
    all_goals go_ret
    all_goals exact ⟨rfl, rfl⟩
end Rn
end Go.Proofs.YteegfadhfimlcaaGreatDoor
