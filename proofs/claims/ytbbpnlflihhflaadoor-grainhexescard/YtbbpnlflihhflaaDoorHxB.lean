import Derived.Test.YtbbpnlflihhflaaDoorHxA
namespace Go.Proofs.YtbbpnlflihhflaaDoor
namespace Hx
open Go.RowKit
set_option linter.unusedVariables false
def T64 (w : World) : Prop := 5 < w.heap.size ∧ w.cell? ⟨5, 15, none⟩ = some (.int .u8 4)
theorem T64.on {w w' : World} {B : Nat} (h : T64 w) (hb : Below B w w') (hB : w.heap.size ≤ B) : T64 w' := by
  have h5 := h.1
  refine ⟨?_, ?_⟩
  · have := hb.size; omega
  · rw [hb.cell (p := ⟨5, 15, none⟩) (by show 5 < B; omega)]; exact h.2
theorem pow_any (w : World) : Calls Tryd.prog 70 #[.int .i64 16] w fun e w' => e = .returned (.bool true) ∧ w' = w := by
  go_enter Tryd.func70, Tryd.ntmps70
  go_wp2
  go_ret
  exact ⟨rfl, rfl⟩
theorem tz64_any (w : World) (ht : T64 w) : Calls Tryd.prog 81 #[.int .u64 16] w fun e w' => e = .returned (.int .i64 4) ∧ w' = w := by
  replace ht := ht.2
  have hK : IntKind.u64.wrap (bits .and .u64 16 (IntKind.u64.wrap (-16)) * 285870213051353865) / 288230376151711744 = 15 := by decide +kernel
  go_enter Tryd.func81, Tryd.ntmps81
  go_wp2
  go_ret
  exact ⟨rfl, rfl⟩
theorem tz_16 (w : World) (ht : T64 w) : Calls Tryd.prog 71 #[.int .u64 16] w fun e w' => e = .returned (.int .i64 4) ∧ w' = w := by
  go_enter Tryd.func71, Tryd.ntmps71
  go_wp2_with (go_at_call 81; refine (tz64_any _ ht).mono ?_; rintro e w9 ⟨rfl, hw9⟩; subst w9)
  go_ret
  exact ⟨rfl, rfl⟩
end Hx
end Go.Proofs.YtbbpnlflihhflaaDoor
