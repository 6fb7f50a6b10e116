import Derived.Test.YtcolkfoodjpdjaaRaI
import Derived.Maps.Own
import Derived.Maps.OwnSet
import Derived.Maps.Views
import Derived.StringKeys
namespace Go.Proofs.Ytcolkfoodjpdjaa
namespace Rl
open Go.RowKit Ra
set_option linter.unusedVariables false
/-- The first place of a name among the first k. -/
def fsti (nm : Nat → ByteArray) : Nat → ByteArray → Option Nat
  | 0, _ => none
  | k + 1, s => match fsti nm k s with
    | some i => some i
    | none => if nm k = s then some k else none
theorem fsti_up {nm : Nat → ByteArray} {k : Nat} {s : ByteArray} {i : Nat} (h : fsti nm k s = some i) : ∀ {l : Nat}, k ≤ l → fsti nm l s = some i := by
  intro l hl
  induction l with
  | zero => obtain rfl : k = 0 := by omega
            exact h
  | succ l ih =>
    by_cases hk : k = l + 1
    · subst hk; exact h
    · unfold fsti; rw [ih (by omega)]
theorem fsti_here {nm : Nat → ByteArray} {k : Nat} {s : ByteArray} (h : fsti nm k s = none) (e : nm k = s) : fsti nm (k + 1) s = some k := by
  unfold fsti; rw [h]; simp [e]
theorem fsti_not {nm : Nat → ByteArray} {k : Nat} {s : ByteArray} (h : fsti nm k s = none) (e : nm k ≠ s) : fsti nm (k + 1) s = none := by
  unfold fsti; rw [h]; simp [e]
theorem fsti_lt {nm : Nat → ByteArray} {k : Nat} {s : ByteArray} {i : Nat} (h : fsti nm k s = some i) : i < k := by
  induction k with
  | zero => cases h
  | succ k ih =>
    unfold fsti at h
    cases hh : fsti nm k s with
    | some j => rw [hh] at h; have := ih (by rw [hh]; exact h); omega
    | none =>
      rw [hh] at h
      by_cases e : nm k = s
      · simp [e] at h; omega
      · simp [e] at h
theorem fsti_same {nm nm' : Nat → ByteArray} {k : Nat} (h : ∀ i, i < k → nm i = nm' i) (s : ByteArray) : fsti nm k s = fsti nm' k s := by
  induction k with
  | zero => rfl
  | succ k ih =>
    unfold fsti
    rw [ih (fun i hi => h i (by omega)), h k (by omega)]
theorem KS : Maps.Keyed Try.prog 9 := Maps.string_keyed Try.underlying9
abbrev ky (s : ByteArray) : Lit := .string s.data.toList
theorem ky_ne {s t : ByteArray} (h : s ≠ t) : ky s ≠ ky t := fun e => h (by
  have e1 : s.data.toList = t.data.toList := by simpa using e
  cases s; cases t; congr 1; exact Array.toList_inj.1 e1)
theorem key_of (s : ByteArray) (hs : s.size ≤ 140737488351232) : Go.keyOf Try.prog 9 (.string s) = some (ky s) := Go.WideMaps.keyOf_string_mk Try.underlying9 (s := s) (Nat.le_trans hs (by decide))
/-- A map of first places. -/
def MP (w : World) (b : Nat) (nm : Nat → ByteArray) (k : Nat) : Prop :=
  ∃ (D : DataW Unit) (n : Nat), w.ownsMap Try.prog 9 (plainElem Try.prog 3) b n D ∧ n ≤ k ∧ ∀ s, match fsti nm k s with
    | none => Maps.has D (ky s) = false
    | some i => Maps.has D (ky s) = true ∧ ∀ z, D.atKey (ky s) z = .lit (.int .i64 i)
theorem MP.kept {w w' : World} {b k : Nat} {nm : Nat → ByteArray} {row : Option Nat} (h : MP w b nm k) (hg : w.grownBy w' row) (hne : some b ≠ row) : MP w' b nm k := by
  obtain ⟨D, n, h1, h2⟩ := h
  exact ⟨D, n, h1.kept hg hne, h2⟩
theorem MP.alloc {w : World} {b k : Nat} {nm : Nat → ByteArray} (h : MP w b nm k) (o : Obj) : MP (w.alloc o) b nm k := h.kept (World.grownBy_alloc w o none) (by simp)
theorem MP.lt {w : World} {b k : Nat} {nm : Nat → ByteArray} (h : MP w b nm k) : b < w.heap.size := by
  obtain ⟨D, n, h1, h2⟩ := h
  exact h1.lt
theorem MP.made (w : World) (nm : Nat → ByteArray) : MP (w.alloc (.map #[] 0)) w.heap.size nm 0 :=
  ⟨.map [], 0, World.ownsMap_made w _ _ _, Nat.le_refl _, fun s => rfl⟩
def got (o : Option Nat) : Value := .tuple #[.int .i64 (match o with | some i => (i : Int) | none => 0), .bool o.isSome]
theorem zero_int (w : World) : (zeroValue 3).run Try.prog w = .ok (.int .i64 0) w := by kernel_rfl
theorem MP.look {w : World} {b k : Nat} {nm : Nat → ByteArray} (h : MP w b nm k) (s : ByteArray) (hs : s.size ≤ 140737488351232) : (Instr.lookup 41 (.map (some b)) (.string s) true).run Try.prog w = .ok (got (fsti nm k s)) w := by
  obtain ⟨D, n, h1, h2, h3⟩ := h
  obtain ⟨v, ps, hr, hv⟩ := h1.look_ok KS Try.underlying41 (z := .int .i64 0) (zd := .lit (.int .i64 0)) (zp := []) (zero_int w) (plainElem_int Try.underlying3 (by decide)) (key_of s hs)
  have h4 := h3 s
  rw [hr]
  cases hh : fsti nm k s with
  | none =>
    rw [hh] at h4
    rw [h4] at hr ⊢
    rw [Maps.atKey_of_not_has h4] at hv
    obtain ⟨a, rfl, e⟩ := plainElem_int_inv Try.underlying3 hv
    simp at e
    obtain ⟨⟨rfl, _⟩, _⟩ := e
    rfl
  | some i =>
    rw [hh] at h4
    rw [h4.1]
    rw [h4.2] at hv
    obtain ⟨a, rfl, e⟩ := plainElem_int_inv Try.underlying3 hv
    simp at e
    obtain ⟨⟨rfl, _⟩, _⟩ := e
    rfl
theorem MP.same {w : World} {b k i : Nat} {nm : Nat → ByteArray} (h : MP w b nm k) (hf : fsti nm k (nm k) = some i) : MP w b nm (k + 1) := by
  obtain ⟨D, n, h1, h2, h3⟩ := h
  refine ⟨D, n, h1, by omega, fun s => ?_⟩
  have h4 := h3 s
  have e : fsti nm (k + 1) s = fsti nm k s := by
    cases hh : fsti nm k s with
    | some j => exact fsti_up hh (by omega)
    | none =>
      refine fsti_not hh (fun e => ?_)
      rw [← e, hf] at hh; cases hh
  rw [e]; exact h4
theorem MP.store {w : World} {b k : Nat} {nm : Nat → ByteArray} (h : MP w b nm k) (hk : k ≤ 100000) (hf : fsti nm k (nm k) = none) (hs : (nm k).size ≤ 140737488351232) :
    ∃ w', (Instr.mapUpdate 41 (.map (some b)) (.string (nm k)) (.int .i64 k)).run Try.prog w = .ok () w' ∧ MP w' b nm (k + 1) ∧ w.grownBy w' (some b) := by
  obtain ⟨D, n, h1, h2, h3⟩ := h
  have im := h1.isMap
  obtain ⟨w', hr, h4, h5⟩ := h1.store KS Try.underlying41 (by unfold maxLen; omega) (key_of (nm k) hs) (val := .int .i64 k) (d := .lit (.int .i64 k)) (ps := []) (plainElem_int Try.underlying3 (by simp [Lit.wf, IntKind.min, IntKind.max, IntKind.signed, IntKind.bits]; omega))
  refine ⟨w', hr, ⟨_, _, h4, by omega, fun s => ?_⟩, h5.grown⟩
  by_cases e : nm k = s
  · rw [fsti_here (by rw [← e]; exact hf) e]
    subst e
    exact ⟨Maps.has_put_same im (k := ky (nm k)) (show WideAt.IsKeyLit (.string (nm k).data.toList) from trivial) _, fun z => Maps.atKey_put_same im (k := ky (nm k)) (show WideAt.IsKeyLit (.string (nm k).data.toList) from trivial) _ z⟩
  · have h6 := h3 s
    have e2 : fsti nm (k + 1) s = fsti nm k s := by
      cases hh : fsti nm k s with
      | some j => exact fsti_up hh (by omega)
      | none => exact fsti_not hh e
    rw [e2]
    cases hh : fsti nm k s with
    | none => rw [hh] at h6; show Maps.has _ _ = false; rw [Maps.has_put_other (ky_ne (Ne.symm e))]; exact h6
    | some j => rw [hh] at h6; exact ⟨by rw [Maps.has_put_other (ky_ne (Ne.symm e))]; exact h6.1, fun z => by rw [Maps.atKey_put_other (ky_ne (Ne.symm e))]; exact h6.2 z⟩
end Rl
end Go.Proofs.Ytcolkfoodjpdjaa
