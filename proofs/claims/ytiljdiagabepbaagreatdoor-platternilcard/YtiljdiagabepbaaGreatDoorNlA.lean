import Derived.Test.YtiljdiagabepbaaGreatDoorRows
import Derived.WalkKit
import Derived.Below
import Derived.Deep.RegionWith
import Derived.Deep.OwnRows
namespace Go.Proofs.YtiljdiagabepbaaGreatDoor
namespace Nl
open Go.RowKit
set_option linter.unusedVariables false
/-- A pointer to no disk: nil, or one whose first word is nil. -/
def ND (w : World) (p : Option Addr) : Prop := p = none ∨ ∃ g, p = some ⟨g, 0, none⟩ ∧ w.cell? ⟨g, 0, none⟩ = some (.pointer none)
theorem ND.on {w w' : World} {p : Option Addr} (h : ND w p) (hb : Below w.heap.size w w') : ND w' p := by
  rcases h with h | ⟨g, rfl, hc⟩
  · exact .inl h
  · exact .inr ⟨g, rfl, (hb.cell (p := ⟨g, 0, none⟩) (World.block_lt_of_cell? w _ hc)).trans hc⟩
theorem b1 (w : World) (o1 : Obj) : Below w.heap.size w (w.alloc o1) := (Below.refl _ _).alloc (Nat.le_refl _) _
theorem b2 (w : World) (o1 o2 : Obj) : Below w.heap.size w ((w.alloc o1).alloc o2) := (b1 w o1).alloc (by simp) _
theorem b3 (w : World) (o1 o2 o3 : Obj) : Below w.heap.size w (((w.alloc o1).alloc o2).alloc o3) := (b2 w o1 o2).alloc (by simp; omega) _
theorem b4 (w : World) (o1 o2 o3 o4 : Obj) : Below w.heap.size w ((((w.alloc o1).alloc o2).alloc o3).alloc o4) := (b3 w o1 o2 o3).alloc (by simp; omega) _
theorem b5 (w : World) (o1 o2 o3 o4 o5 : Obj) : Below w.heap.size w (((((w.alloc o1).alloc o2).alloc o3).alloc o4).alloc o5) := (b4 w o1 o2 o3 o4).alloc (by simp; omega) _
theorem b6 (w : World) (o1 o2 o3 o4 o5 o6 : Obj) : Below w.heap.size w ((((((w.alloc o1).alloc o2).alloc o3).alloc o4).alloc o5).alloc o6) := (b5 w o1 o2 o3 o4 o5).alloc (by simp; omega) _
theorem ns_in {P : Program} (w : World) (d : Nat) (t e : TypeId) (a : Addr) (h : P.underlying t = some (.pointer e)) : (Op.equalIn (d + 1) t (.pointer none) (.pointer (some a))).run P w = .ok false w := by
  simp [Op.equalIn, run_underlying h]
theorem ns_eq {P : Program} (w : World) (t e : TypeId) (a : Addr) (h : P.underlying t = some (.pointer e)) : (Op.equal t (.pointer none) (.pointer (some a))).run P w = .ok false w := ns_in w 9999 t e a h
theorem nil_some (a : Addr) (w : World) : (binOp .eql 23 (.pointer none) (.pointer (some a))).run Tryz.prog w = .ok (.bool false) w := by
  simp only [binOp]
  simp [ns_eq w 23 _ a Tryz.underlying23]
set_option maxHeartbeats 400000 in
set_option maxRecDepth 8000 in
theorem made_any (p : Option Addr) (w : World) (h : ND w p) :
    Calls Tryz.prog 60 #[.pointer p] w fun e w' => e = .returned (.bool false) ∧ w' = w := by
  rcases h with rfl | ⟨g, rfl, hc⟩
  · go_enter Tryz.func60, Tryz.ntmps60
    go_wp2
    go_ret
    exact ⟨rfl, rfl⟩
  · have hns := nil_some ⟨g, 0, none⟩
    go_enter Tryz.func60, Tryz.ntmps60
    go_wp2
    go_ret
    exact ⟨rfl, rfl⟩
set_option maxHeartbeats 400000 in
set_option maxRecDepth 8000 in
theorem gate_any (p : Option Addr) (c : Int) (f : Value) (w : World) (h : ND w p) :
    Calls Tryz.prog 16 #[.pointer p, .int .u8 c, f] w fun e w' => e = .returned (.int .i64 1) ∧ w' = w := by
  go_enter Tryz.func16, Tryz.ntmps16
  go_wp2_with (go_at_call 60; refine (made_any p _ h).mono ?_; rintro e9 w9 ⟨rfl, hw9⟩; subst w9)
  go_ret
  exact ⟨rfl, rfl⟩
end Nl
end Go.Proofs.YtiljdiagabepbaaGreatDoor
