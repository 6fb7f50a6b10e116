import Derived.Deep.WholeRow
import Derived.Test.YtiljdiagabepbaaGreatDoorNlB
import Derived.Test.YtiljdiagabepbaaGreatDoorNlC
import Derived.Test.YtiljdiagabepbaaGreatDoorNlD
import Derived.Test.YtiljdiagabepbaaGreatDoorNlE
namespace Go.Proofs.YtiljdiagabepbaaGreatDoor
namespace Nl
open Go.RowKit
set_option linter.unusedVariables false
theorem b7 (w : World) (o1 o2 o3 o4 o5 o6 o7 : Obj) : Below w.heap.size w (((((((w.alloc o1).alloc o2).alloc o3).alloc o4).alloc o5).alloc o6).alloc o7) := (b6 w o1 o2 o3 o4 o5 o6).alloc (by simp; omega) _
theorem b8 (w : World) (o1 o2 o3 o4 o5 o6 o7 o8 : Obj) : Below w.heap.size w ((((((((w.alloc o1).alloc o2).alloc o3).alloc o4).alloc o5).alloc o6).alloc o7).alloc o8) := (b7 w o1 o2 o3 o4 o5 o6 o7).alloc (by simp; omega) _
theorem cell_new (v : World) (N : Nat) (c : Array Value) (t : TypeId) (i : Nat) (x : Value) (hN : v.heap.size = N) (h : c[i]? = some x) : (v.alloc (.cells c t)).cell? ⟨N, i, none⟩ = some x := by
  subst hN
  have h1 := heap_alloc_last v (.cells c t)
  simp only [World.cell?, h1, h]
  rfl
/-- A call, as eight cells. -/
abbrev opC (k : Int) (s t : ByteArray) (da : Option Addr) (dl dc : Nat) (at' n : Int) (ka : Option Addr) (kl kc : Nat) (pa : Option Addr) (pl pc : Nat) : Array Value := #[.int .i64 k, .string s, .string t, .slice da dl dc, .int .i64 at', .int .i64 n, .slice ka kl kc, .slice pa pl pc]
/-- A list of numbers that an answer holds. -/
def NumsIs (w : World) (sl : Value) (ns : List Int) : Prop := (ns = [] ∧ sl = .slice none 0 0) ∨ (0 < ns.length ∧ ∃ g c, sl = .slice (some ⟨g, 0, none⟩) ns.length c ∧ ∀ i, i < ns.length → w.cell? ⟨g, i, none⟩ = some (.int .i64 (ns.getD i 0)))
/-- An answer: an error and numbers, nothing else. -/
def AnsQ (w0 w : World) (e : Int) (ns : List Int) (v : Value) : Prop := ∃ sl, v = .agg #[.int .i64 e, sl, .slice none 0 0, .slice none 0 0, .slice none 0 0] ∧ NumsIs w sl ns ∧ ∀ g l c, sl = .slice (some ⟨g, 0, none⟩) l c → w0.heap.size ≤ g
theorem NumsIs.on {w w' : World} {sl : Value} {ns : List Int} (h : NumsIs w sl ns) (hb : Below w.heap.size w w') : NumsIs w' sl ns := by
  rcases h with h | ⟨h0, g, c, rfl, hc⟩
  · exact .inl h
  · exact .inr ⟨h0, g, c, rfl, fun i hi => (hb.cell (p := ⟨g, i, none⟩) (World.block_lt_of_cell? w _ (hc i hi))).trans (hc i hi)⟩
theorem AnsQ.on {w0 w w' : World} {e : Int} {ns : List Int} {v : Value} (h : AnsQ w0 w e ns v) (hb : Below w.heap.size w w') : AnsQ w0 w' e ns v := by
  obtain ⟨sl, rfl, h, hn⟩ := h
  exact ⟨sl, rfl, h.on hb, hn⟩
end Nl
end Go.Proofs.YtiljdiagabepbaaGreatDoor
