import Derived.Test.YtlhpnhjfibkgpabNeI
import Derived.Test.YtlhpnhjfibkgpabWuE
import Derived.Test.YtlhpnhjfibkgpabWrD
namespace Go.Proofs.Ytlhpnhjfibkgpab
namespace Wp
open Go.RowKit
set_option linter.unusedVariables false
set_option maxRecDepth 8000
theorem fsB (n : Int) (Q : List Nat) (S : Nat → Nat → Int) (i : Nat) : (S i 0 = 18446744073709551615 → fs (gB n Q) S (i + 1) 0 = fs (gB n Q) S i 0 ∧ fs (gB n Q) S (i + 1) 1 = fs (gB n Q) S i 1) ∧ (S i 0 ≠ 18446744073709551615 → fs (gB n Q) S (i + 1) 0 = fs (gB n Q) S i 0 + 1 ∧ fs (gB n Q) S (i + 1) 1 = max (fs (gB n Q) S i 1) (S i 0)) := by
  refine ⟨fun e => ?_, fun e => ?_⟩
  · show brFo (fs (gB n Q) S i) (S i) 0 = _ ∧ brFo (fs (gB n Q) S i) (S i) 1 = _
    unfold brFo
    rw [if_pos e]
    exact ⟨rfl, rfl⟩
  · show brFo (fs (gB n Q) S i) (S i) 0 = _ ∧ brFo (fs (gB n Q) S i) (S i) 1 = _
    unfold brFo
    rw [if_neg e, up_ne _ _ _ _ (by decide), up_eq, up_eq]
    exact ⟨rfl, rfl⟩
/-- Sources as they come in. -/
def Vr (w : World) (a : Option Addr) (l : Nat) (V : Nat → Nat) : Prop := 0 < l → ∃ x, a = some x ∧ x.block < w.heap.size ∧ ∀ i, i < l → w.cell? (x.add i) = some (.int .u32 (V i : Int))
theorem Vr.on {w w' : World} {a : Option Addr} {l : Nat} {V : Nat → Nat} (h : Vr w a l V) (hb : Below w.heap.size w w') : Vr w' a l V := fun h0 => by
  obtain ⟨x, rfl, h1, h2⟩ := h h0
  exact ⟨x, rfl, Nat.lt_of_lt_of_le h1 hb.size, fun i hi => (hb.cell (by rw [add_block]; exact h1)).trans (h2 i hi)⟩
/-- The first k sources, modulo n. -/
def Qk (V : Nat → Nat) (n : Nat) : Nat → List Nat
  | 0 => []
  | k + 1 => Qk V n k ++ [V k % n]
theorem Qk_len (V : Nat → Nat) (n k : Nat) : (Qk V n k).length = k := by induction k with | zero => rfl | succ k ih => simp [Qk, ih]
theorem Qk_lt (V : Nat → Nat) (n k : Nat) (hn : 1 ≤ n) : ∀ q ∈ Qk V n k, q < n := by
  induction k with
  | zero => intro q h; cases h
  | succ k ih =>
    intro q h
    rcases List.mem_append.1 h with h | h
    · exact ih q h
    · rw [List.mem_singleton.1 h]; exact Nat.mod_lt _ hn
theorem cuq_app (Q : List Nat) (q : Nat) : cuq (Q ++ [q]) = cuq Q ++ [.int .u32 (q : Int)] := by simp [cuq]
theorem own_sq {w : World} {base g c : Nat} {n : Nat} {Q : List Nat} (h : w.ownsRow base 26 1 (.slice (some ⟨g, 0, none⟩) n c) n (cuq Q)) : Sq w g Q := by
  refine ⟨(World.ownsRow.lt h g rfl).2, fun i q hq => ?_⟩
  have := World.ownsRow.cells h (g := g) rfl i (.int .u32 (q : Int)) (by simp [cuq, hq])
  rwa [addq] at this
theorem own_form {w : World} {base : Nat} {e : TypeId} {size : Nat} {v : Value} {n : Nat} {xs : List Value} (h : w.ownsRow base e size v n xs) (hn : 0 < n) : ∃ g cap, v = .slice (some ⟨g, 0, none⟩) n cap ∧ base ≤ g ∧ g < w.heap.size := by
  rcases h.2 with ⟨_, h0⟩ | ⟨g, cap, cur, hv, hb, hg, _⟩
  · omega
  · exact ⟨g, cap, hv, hb, (Array.getElem?_eq_some_iff.1 hg).1⟩
theorem FB.set {n : Int} {Q : List Nat} {qb q fb g j : Nat} {w : World} (h : FB n Q qb q fb w) (h1 : fb ≠ g) (h2 : qb ≠ g) (u : Value) : FB n Q qb q fb (w.setCell ⟨g, j, none⟩ u) :=
  ⟨by have := h.1; simpa using this, (Below.heap_setCell w _ u fb h1).trans h.2.1, by have := h.2.2.1; simpa using this,
    ⟨by have := h.2.2.2.1.1; simpa using this, fun i x hx => (World.cell?_of_block (Below.heap_setCell w _ u qb h2)).trans (h.2.2.2.1.2 i x hx)⟩, h.2.2.2.2⟩
/-- The list that was given, whatever it holds now. -/
def Gv (w : World) (base g c k : Nat) : Prop := ∃ xs : List Value, w.ownsRow base 26 1 (.slice (some ⟨g, 0, none⟩) k c) k xs ∧ ∀ i, i < k → ∃ y : Int, xs[i]? = some (.int .u32 y)
theorem Gv.mk {w : World} {base g c k : Nat} {Q : List Nat} (hk : Q.length = k) (h : w.ownsRow base 26 1 (.slice (some ⟨g, 0, none⟩) k c) k (cuq Q)) : Gv w base g c k :=
  ⟨cuq Q, h, fun i hi => ⟨((Q[i]'(by omega) : Nat) : Int), by simp [cuq, List.getElem?_eq_getElem (show i < Q.length by omega)]⟩⟩
theorem Gv.cell {w : World} {base g c k : Nat} (h : Gv w base g c k) {j : Nat} (hj : j < k) : ∃ y : Int, w.cell? ⟨g, j, none⟩ = some (.int .u32 y) ∧ w.frozen? ⟨g, j, none⟩ = false := by
  obtain ⟨xs, h1, h2⟩ := h
  obtain ⟨y, hy⟩ := h2 j hj
  exact ⟨y, (World.ownsRow.cellAt h1 j (by omega)).trans hy, World.ownsRow.frozenAt h1 j⟩
theorem Gv.set {w : World} {base g c k : Nat} (h : Gv w base g c k) (j : Nat) (y : Int) : Gv (w.setCell ⟨g, j, none⟩ (.int .u32 y)) base g c k := by
  obtain ⟨xs, h1, h2⟩ := h
  refine ⟨_, (World.ownsRow.stored h1 j (.int .u32 y)).1, fun i hi => ?_⟩
  obtain ⟨z, hz⟩ := h2 i hi
  by_cases e : i = j
  · subst e
    refine ⟨y, ?_⟩
    rw [List.getElem?_set_self (by have := List.getElem?_eq_some_iff.1 hz; exact this.1)]
  · exact ⟨z, by rw [List.getElem?_set_ne (fun k => e k.symm)]; exact hz⟩
theorem Gv.on {w w' : World} {base g c k : Nat} (h : Gv w base g c k) (hb : Below w.heap.size w w') : Gv w' base g c k := by
  obtain ⟨xs, h1, h2⟩ := h
  exact ⟨xs, own_below h1 hb, h2⟩
/-- What the walk holds on to while the given list changes. -/
structure Kg (n : Int) (Q : List Nat) (qb q fb g c k B : Nat) (w0 w : World) : Prop where
  f : FB n Q qb q fb w
  g : Gv w B g c k
  b : Below B w0 w
theorem Kg.set {n : Int} {Q : List Nat} {qb q fb g c k B : Nat} {w0 w : World} (h : Kg n Q qb q fb g c k B w0 w) (h1 : fb ≠ g) (h2 : qb ≠ g) (hg : B ≤ g) (j : Nat) (y : Int) : Kg n Q qb q fb g c k B w0 (w.setCell ⟨g, j, none⟩ (.int .u32 y)) :=
  ⟨h.f.set h1 h2 _, h.g.set j y, h.b.setCell hg _⟩
end Wp
end Go.Proofs.Ytlhpnhjfibkgpab
