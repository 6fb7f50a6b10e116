import Derived.Test.YtiljdiagabepbaaGreatDoorNlF
namespace Go.Proofs.YtiljdiagabepbaaGreatDoor
namespace Nl
open Go.RowKit
set_option linter.unusedVariables false
theorem mk_map (t : TypeId) (w : World) : (Instr.makeMap t none).run Tryz.prog w = .ok (.map (some w.heap.size)) (w.alloc (.map #[] 0)) := rfl
theorem ss_in {P : Program} (w : World) (d : Nat) (t e : TypeId) (a : Addr) (n : Nat) (h : P.underlying t = some (.pointer e)) (hs : (sizeOf e).run P w = .ok (n + 1) w) : (Op.equalIn (d + 1) t (.pointer (some a)) (.pointer (some a))).run P w = .ok true w := by
  simp [Op.equalIn, run_underlying h, hs, sameAddr]
theorem ss_eq {P : Program} (w : World) (t e : TypeId) (a : Addr) (n : Nat) (h : P.underlying t = some (.pointer e)) (hs : (sizeOf e).run P w = .ok (n + 1) w) : (Op.equal t (.pointer (some a)) (.pointer (some a))).run P w = .ok true w := ss_in w 9999 t e a n h hs
theorem same_ptr (a : Addr) (w : World) : (binOp .eql 23 (.pointer (some a)) (.pointer (some a))).run Tryz.prog w = .ok (.bool true) w := by
  have hs : (sizeOf 33).run Tryz.prog w = .ok (10 + 1) w := Tryz.sizeOf33 w
  simp only [binOp]
  simp [ss_eq w 23 33 a 10 Tryz.underlying23 hs]
set_option maxHeartbeats 1600000 in
set_option maxRecDepth 8000 in
theorem new_any (w : World) :
    Calls Tryz.prog 6 #[.int .i64 10, .slice none 0 0] w fun e w' => (∃ g, e = .returned (.tuple #[.pointer (some ⟨g, 0, none⟩), .int .i64 0])) ∧ Below w.heap.size w w' := by
  have hsp := fun w' => same_ptr ⟨w.heap.size + 1 + 1 + 1, 0, none⟩ w'
  have mk28 := mk_map 28
  have mk29 := mk_map 29
  have mk30 := mk_map 30
  go_enter Tryz.func6, Tryz.ntmps6
  go_wp2
  go_loop [22] (fun i => i = .int .i64 0) (fun i => 0)
  case atStart => rfl
  case round =>
    subst hrel
    go_wp2
    go_loop [42] (fun i => i = .int .i64 0) (fun i => 0)
    case atStart => rfl
    case round =>
      subst hrel
      go_wp2
      go_ret2
      exact ⟨⟨_, rfl⟩, b4 _ _ _ _ _⟩
end Nl
end Go.Proofs.YtiljdiagabepbaaGreatDoor
