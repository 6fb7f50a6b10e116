import Derived.Test.YtiljdiagabepbaaDoorProg
import Derived.WalkKit
import Derived.BigQuiet
import Derived.Laws.IdiomMaps
import Derived.Deep.RegionWith
import Derived.Deep.QuietTactic
import Derived.Below
namespace Go.Proofs.YtiljdiagabepbaaDoor
namespace Pb
open Go.RowKit
set_option linter.unusedVariables false
theorem mk_map (t : TypeId) (w : World) : (Instr.makeMap t none).run Tryd.prog w = .ok (.map (some w.heap.size)) (w.alloc (.map #[] 0)) := rfl
theorem ss_in {P : Program} (w : World) (d : Nat) (t e : TypeId) (a : Addr) (n : Nat) (h : P.underlying t = some (.pointer e)) (hs : (sizeOf e).run P w = .ok (n + 1) w) : (Op.equalIn (d + 1) t (.pointer (some a)) (.pointer (some a))).run P w = .ok true w := by
  simp [Op.equalIn, run_underlying h, hs, sameAddr]
theorem ss_eq {P : Program} (w : World) (t e : TypeId) (a : Addr) (n : Nat) (h : P.underlying t = some (.pointer e)) (hs : (sizeOf e).run P w = .ok (n + 1) w) : (Op.equal t (.pointer (some a)) (.pointer (some a))).run P w = .ok true w := ss_in w 9999 t e a n h hs
theorem same_ptr (a : Addr) (w : World) : (binOp .eql 23 (.pointer (some a)) (.pointer (some a))).run Tryd.prog w = .ok (.bool true) w := by
  have hs : (sizeOf 68).run Tryd.prog w = .ok (10 + 1) w := Tryd.sizeOf68 w
  simp only [binOp]
  simp [ss_eq w 23 68 a 10 Tryd.underlying23 hs]
theorem ns_in {P : Program} (w : World) (d : Nat) (t e : TypeId) (a : Addr) (h : P.underlying t = some (.pointer e)) : (Op.equalIn (d + 1) t (.pointer (some a)) (.pointer none)).run P w = .ok false w := by
  simp [Op.equalIn, run_underlying h]
/-- The cells of a disk without faults. -/
def dk (self : Nat) (q ops : Int) (gp gn gd : Nat) (ch : Value) (used : Int) : Array Value :=
  #[.pointer (some ⟨self, 0, none⟩), .int .i64 q, .int .i64 ops, .bool false, .bool false, .map (some gp), .int .i64 0, .map (some gn), .map (some gd), ch, .int .i64 used]
set_option maxHeartbeats 1600000 in
set_option maxRecDepth 8000 in
theorem new_q (q : Int) (h0 : 0 ≤ q) (h1 : q ≤ 1073741824) (w : World) :
    Calls Tryd.prog 6 #[.int .i64 q, .slice none 0 0] w fun e w' => e = .returned (.tuple #[.pointer (some ⟨w.heap.size + 1 + 1 + 1, 0, none⟩), .int .i64 0]) ∧ w' = (((w.alloc (.map #[] 0)).alloc (.map #[] 0)).alloc (.map #[] 0)).alloc (.cells (dk (w.heap.size + 1 + 1 + 1) q 0 w.heap.size (w.heap.size + 1) (w.heap.size + 1 + 1) (.slice none 0 0) 0) 68) := by
  have hsp := fun w' => same_ptr ⟨w.heap.size + 1 + 1 + 1, 0, none⟩ w'
  have mk28 := mk_map 63
  have mk29 := mk_map 65
  go_enter Tryd.func6, Tryd.ntmps6
  go_wp2
  go_loop [22] (fun i => i = .int .i64 0) (fun i => 0)
  case atStart => rfl
  case round =>
    subst hrel
    go_wp2
    go_loop [42] (fun i => i = .int .i64 0) (fun i => 0)
    case atStart => rfl
    case round =>
      subst hrel
      go_wp2
      go_ret2
      exact ⟨rfl, rfl⟩
set_option maxHeartbeats 800000 in
set_option maxRecDepth 8000 in
theorem made_any (g : Nat) (w : World) (h : w.cell? ⟨g, 0, none⟩ = some (.pointer (some ⟨g, 0, none⟩))) : Calls Tryd.prog 26 #[.pointer (some ⟨g, 0, none⟩)] w fun e w' => e = .returned (.bool true) ∧ w' = w := by
  have hsp := fun w' => same_ptr ⟨g, 0, none⟩ w'
  go_enter Tryd.func26, Tryd.ntmps26
  go_wp2
  go_ret
  exact ⟨rfl, rfl⟩
end Pb
end Go.Proofs.YtiljdiagabepbaaDoor
