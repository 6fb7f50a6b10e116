import Derived.Test.YtiljdiagabepbaaGreatDoorNlG
import Derived.Test.YtiljdiagabepbaaGreatDoorNlH
import Derived.Test.YtiljdiagabepbaaGreatDoorNlI
import Derived.Test.YtiljdiagabepbaaGreatDoorNlJ
import Derived.Test.YtiljdiagabepbaaGreatDoorNlN
namespace Go.Proofs.YtiljdiagabepbaaGreatDoor
namespace Nl
open Go.RowKit
set_option linter.unusedVariables false
/-- What 'Do' tells of no disk. -/
abbrev DoIs (k : Int) (s t : ByteArray) (da : Option Addr) (dl dc : Nat) (at' n : Int) (ka : Option Addr) (kl kc : Nat) (pa : Option Addr) (pl pc : Nat) (e : Int) (ns : List Int) : Prop := ∀ (p : Option Addr) (w : World), ND w p → KRow w ka kl → FRow w pa pl →
  Calls Tryz.prog 10 #[.pointer p, .agg (opC k s t da dl dc at' n ka kl kc pa pl pc)] w fun e' w' => ∃ v, e' = .returned (.tuple #[v, .pointer p]) ∧ AnsQ w w' e ns v ∧ Below w.heap.size w w'
abbrev DocIs (k : Int) (s t : ByteArray) (da : Option Addr) (dl dc : Nat) (at' n : Int) (ka : Option Addr) (kl kc : Nat) (pa : Option Addr) (pl pc : Nat) (e : Int) (ns : List Int) : Prop := ∀ (w : World),
  Calls Tryz.prog 11 #[.pointer none, .agg (opC k s t da dl dc at' n ka kl kc pa pl pc)] w fun e' w' => ∃ v, e' = .returned (.tuple #[v, .pointer none]) ∧ AnsQ w w' e ns v ∧ Below w.heap.size w w'
theorem both (k : Int) (s t : ByteArray) (da : Option Addr) (dl dc : Nat) (at' n : Int) (ka : Option Addr) (kl kc : Nat) (pa : Option Addr) (pl pc : Nat) (h2 : k ≠ 2) (h3 : k ≠ 3) : ∃ e ns, ns.length ≤ 4 ∧ DoIs k s t da dl dc at' n ka kl kc pa pl pc e ns ∧ DocIs k s t da dl dc at' n ka kl kc pa pl pc e ns := by
  by_cases lo : k < 1
  · exact ⟨0, [], by decide, fun p w h hk hf => do_bes p k s t da dl dc at' n ka kl kc pa pl pc 0 [] (.inl lo) w (fun v hb => bes_lo p k s t da dl dc at' n ka kl kc pa pl pc lo v (h.on hb)), fun w => doc_lo k s t da dl dc at' n ka kl kc pa pl pc lo w⟩
  by_cases hi : 17 < k
  · exact ⟨0, [], by decide, fun p w h hk hf => do_bes p k s t da dl dc at' n ka kl kc pa pl pc 0 [] (.inr (by omega)) w (fun v hb => bes_hi p k s t da dl dc at' n ka kl kc pa pl pc hi v (h.on hb)), fun w => doc_hi k s t da dl dc at' n ka kl kc pa pl pc hi w⟩
  have hc : k = 1 ∨ k = 4 ∨ k = 5 ∨ k = 6 ∨ k = 7 ∨ k = 8 ∨ k = 9 ∨ k = 10 ∨ k = 11 ∨ k = 12 ∨ k = 13 ∨ k = 14 ∨ k = 15 ∨ k = 16 ∨ k = 17 := by omega
  rcases hc with rfl | rfl | rfl | rfl | rfl | rfl | rfl | rfl | rfl | rfl | rfl | rfl | rfl | rfl | rfl
  · exact ⟨1, [], by decide, fun p w h hk hf => do_1 p s t da dl dc at' n ka kl kc pa pl pc w h, fun w => doc_1 s t da dl dc at' n ka kl kc pa pl pc w⟩
  · exact ⟨1, [0], by decide, fun p w h hk hf => do_4 p s t da dl dc at' n ka kl kc pa pl pc w h, fun w => doc_4 s t da dl dc at' n ka kl kc pa pl pc w⟩
  · exact ⟨1, [], by decide, fun p w h hk hf => do_5 p s t da dl dc at' n ka kl kc pa pl pc w h, fun w => doc_5 s t da dl dc at' n ka kl kc pa pl pc w⟩
  · exact ⟨1, [], by decide, fun p w h hk hf => do_6 p s t da dl dc at' n ka kl kc pa pl pc w h, fun w => doc_6 s t da dl dc at' n ka kl kc pa pl pc w⟩
  · exact ⟨1, [], by decide, fun p w h hk hf => do_7 p s t da dl dc at' n ka kl kc pa pl pc w h, fun w => doc_7 s t da dl dc at' n ka kl kc pa pl pc w⟩
  · exact ⟨1, [], by decide, fun p w h hk hf => do_8 p s t da dl dc at' n ka kl kc pa pl pc w h, fun w => doc_8 s t da dl dc at' n ka kl kc pa pl pc w⟩
  · exact ⟨1, [], by decide, fun p w h hk hf => do_9 p s t da dl dc at' n ka kl kc pa pl pc w h, fun w => doc_9 s t da dl dc at' n ka kl kc pa pl pc w⟩
  · exact ⟨1, [], by decide, fun p w h hk hf => do_bes p 10 s t da dl dc at' n ka kl kc pa pl pc 1 [] (.inr (by omega)) w (fun v hb => bes_10 p s t da dl dc at' n ka kl kc pa pl pc v (h.on hb) (hf.on hb)), fun w => doc_10 s t da dl dc at' n ka kl kc pa pl pc w⟩
  · exact ⟨1, [], by decide, fun p w h hk hf => do_bes p 11 s t da dl dc at' n ka kl kc pa pl pc 1 [] (.inr (by omega)) w (fun v hb => bes_11 p s t da dl dc at' n ka kl kc pa pl pc v (h.on hb) (hk.on hb)), fun w => doc_11 s t da dl dc at' n ka kl kc pa pl pc w⟩
  · exact ⟨1, [], by decide, fun p w h hk hf => do_bes p 12 s t da dl dc at' n ka kl kc pa pl pc 1 [] (.inr (by omega)) w (fun v hb => bes_12 p s t da dl dc at' n ka kl kc pa pl pc v (h.on hb)), fun w => doc_12 s t da dl dc at' n ka kl kc pa pl pc w⟩
  · exact ⟨1, [], by decide, fun p w h hk hf => do_bes p 13 s t da dl dc at' n ka kl kc pa pl pc 1 [] (.inr (by omega)) w (fun v hb => bes_13 p s t da dl dc at' n ka kl kc pa pl pc v (h.on hb)), fun w => doc_13 s t da dl dc at' n ka kl kc pa pl pc w⟩
  · exact ⟨0, [1], by decide, fun p w h hk hf => do_bes p 14 s t da dl dc at' n ka kl kc pa pl pc 0 [1] (.inr (by omega)) w (fun v hb => bes_14 p s t da dl dc at' n ka kl kc pa pl pc v (h.on hb)), fun w => doc_14 s t da dl dc at' n ka kl kc pa pl pc w⟩
  · exact ⟨0, [0, 0, 0, 0], by decide, fun p w h hk hf => do_bes p 15 s t da dl dc at' n ka kl kc pa pl pc 0 [0, 0, 0, 0] (.inr (by omega)) w (fun v hb => bes_15 p s t da dl dc at' n ka kl kc pa pl pc v (h.on hb)), fun w => doc_15 s t da dl dc at' n ka kl kc pa pl pc w⟩
  · exact ⟨0, [], by decide, fun p w h hk hf => do_bes p 16 s t da dl dc at' n ka kl kc pa pl pc 0 [] (.inr (by omega)) w (fun v hb => bes_16 p s t da dl dc at' n ka kl kc pa pl pc v (h.on hb)), fun w => doc_16 s t da dl dc at' n ka kl kc pa pl pc w⟩
  · exact ⟨1, [], by decide, fun p w h hk hf => do_bes p 17 s t da dl dc at' n ka kl kc pa pl pc 1 [] (.inr (by omega)) w (fun v hb => bes_17 p s t da dl dc at' n ka kl kc pa pl pc v (h.on hb)), fun w => doc_17 s t da dl dc at' n ka kl kc pa pl pc w⟩
end Nl
end Go.Proofs.YtiljdiagabepbaaGreatDoor
