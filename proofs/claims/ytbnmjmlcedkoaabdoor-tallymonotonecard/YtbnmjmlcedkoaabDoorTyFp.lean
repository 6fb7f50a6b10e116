import Derived.Test.YtbnmjmlcedkoaabDoorTyO
import Derived.Test.YtbnmjmlcedkoaabDoorTyEq
import Derived.Test.YtbnmjmlcedkoaabDoorTyB
import Derived.Test.YtbnmjmlcedkoaabDoorTyC
namespace Go.Proofs.YtbnmjmlcedkoaabDoor
namespace Ty
open Go.RowKit
set_option linter.unusedVariables false
def M0 (s : Int) : Int := if s / 8388608 = 0 then s else s % 8388608 + 8388608
def S0 (s : Int) : Nat := if s / 8388608 = 0 then 0 else (s / 8388608 - 1).toNat
/-- The units of a finite float32. -/
def mag (u : Int) : Int := M0 (u % 2147483648) * 2 ^ S0 (u % 2147483648)
def un (u : Int) : Int := if 2147483648 ≤ u then -mag u else mag u
/-- A sum with a float32 added, if it is finite. -/
def pt (A u : Int) : Int := if u % 2147483648 < 2139095040 then A + un u else A
/-- A list of uint32 that lies in memory. -/
def URow (w : World) (a : Option Addr) (len : Nat) (zs : List Int) : Prop :=
  (len ≤ zs.length ∧ len ≤ 9223372036854775807) ∧ (0 < len → ∃ x : Addr, a = some x ∧ x.block < w.heap.size ∧ ∀ i, i < len → w.cell? (x.add i) = some (.int .u32 (zs.getD i 0))) ∧ ∀ i, i < len → 0 ≤ zs.getD i 0 ∧ zs.getD i 0 < 4294967296
theorem URow.on {w w' : World} {a : Option Addr} {len : Nat} {zs : List Int} (h : URow w a len zs) (hb : Below w.heap.size w w') : URow w' a len zs := by
  obtain ⟨h1, h2, h3⟩ := h
  refine ⟨h1, fun h0 => ?_, h3⟩
  obtain ⟨x, rfl, hx, hc⟩ := h2 h0
  exact ⟨x, rfl, Nat.lt_of_lt_of_le hx hb.size, fun i hi => (hb.cell (p := x.add i) (by unfold Addr.add; split <;> exact hx)).trans (hc i hi)⟩
/-- The sum behind k numbers. -/
def pts (A : Int) (zs : List Int) : Nat → Int
  | 0 => A
  | k + 1 => pt (pts A zs k) (zs.getD k 0)
end Ty
end Go.Proofs.YtbnmjmlcedkoaabDoor
