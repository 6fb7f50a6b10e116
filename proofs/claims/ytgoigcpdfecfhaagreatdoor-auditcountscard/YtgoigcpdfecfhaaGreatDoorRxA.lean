import Derived.Test.YtgoigcpdfecfhaaGreatDoorRows
import Derived.Test.YtgoigcpdfecfhaaGreatDoorMgI
import Derived.Test.YtgoigcpdfecfhaaGreatDoorRdS
import Derived.WalkKit
import Derived.BigQuiet
import Derived.Deep.QuietTactic
import Derived.Laws.Externs
namespace Go.Proofs.YtgoigcpdfecfhaaGreatDoor
namespace Rx
open Go.RowKit
set_option linter.unusedVariables false
set_option maxRecDepth 8000
def z1 (s v : Int) : Int := IntKind.u64.wrap (s + IntKind.u64.wrap ((v + 1) * 11400714819323198485))
def z2 (s v : Int) : Int := IntKind.u64.wrap (bits .xor .u64 (z1 s v) (z1 s v / 1073741824) * 13787848793156543929)
def z3 (s v : Int) : Int := IntKind.u64.wrap (bits .xor .u64 (z2 s v) (z2 s v / 134217728) * 10723151780598845931)
/-- The number that a seed makes. -/
def mix (s v : Int) : Int := bits .xor .u64 (z3 s v) (z3 s v / 2147483648)
theorem ret_int {k : IntKind} {a b : Int} (h : a = b) : Ending.returned (.int k a) = .returned (.int k b) := by rw [h]
theorem rmix_any (s v : Int) (h0 : 0 ≤ s) (h1 : s < 18446744073709551616) (v0 : 0 ≤ v) (v1 : v < 4294967296) (w : World) : Calls Tryz.prog 175 #[.int .u64 s, .int .u32 v] w fun e w' => e = .returned (.int .u64 (mix s v)) ∧ w' = w := by
  go_enter Tryz.func175, Tryz.ntmps175
  go_wp2
  go_ret
  exact ⟨rfl, rfl⟩
abbrev TabAt (w : World) : Prop := w.cell? ⟨0, 0, none⟩ = some (.int .u64 11400714819323198485) ∧ w.cell? ⟨0, 1, none⟩ = some (.int .u64 13787848793156543929) ∧ w.cell? ⟨0, 2, none⟩ = some (.int .u64 10723151780598845931)
theorem mix_any (s v : Int) (h0 : 0 ≤ s) (h1 : s < 18446744073709551616) (v0 : 0 ≤ v) (v1 : v < 4294967296) (w : World) (ht : TabAt w) : Calls Tryz.prog 48 #[.int .u64 s, .int .u32 v] w fun e w' => e = .returned (.int .u64 (mix s v)) ∧ w' = w := by
  obtain ⟨t0, t1, t2⟩ := ht
  go_enter Tryz.func48, Tryz.ntmps48
  go_wp2
  go_ret
  exact ⟨rfl, rfl⟩
theorem mix_b (s v : Int) : 0 ≤ mix s v ∧ mix s v < 18446744073709551616 := by
  unfold mix bits
  rw [IntKind.wrap_u64]
  omega
end Rx
end Go.Proofs.YtgoigcpdfecfhaaGreatDoor
