import Derived.Test.YtcolkfoodjpdjaaRlC
namespace Go.Proofs.Ytcolkfoodjpdjaa
namespace Rl
open Go.RowKit Ra
set_option linter.unusedVariables false
/-- Entries as a list. -/
def el (E : Nat → En) (l : Nat) : List En := (List.range l).map E
theorem el_succ (E : Nat → En) (l : Nat) : el E (l + 1) = el E l ++ [E l] := by simp [el, List.range_succ]
theorem el_len (E : Nat → En) (l : Nat) : (el E l).length = l := by simp [el]
theorem lc_el (E : Nat → En) (l : Nat) : lc (el E l) = ec E l := by
  induction l with
  | zero => rfl
  | succ l ih => rw [el_succ, lc_snoc, ih, ec_succ]
theorem comp_own (w : World) (B : Nat) (h : B ≤ w.heap.size) : (w.alloc (.cells #[] 31)).ownsRow B 31 2 (.slice (some ⟨w.heap.size, 0, none⟩) 0 0) 0 [] :=
  ⟨rfl, Or.inr ⟨w.heap.size, 0, #[], rfl, h, World.alloc_heap_new w _, Nat.le_refl _, Nat.zero_le _, rfl, rfl⟩⟩
set_option maxHeartbeats 800000 in
set_option maxRecDepth 8000 in
theorem clone_any (a : Option Addr) (l c : Nat) (E : Nat → En) (w : World) (hl : l ≤ 100000) (hn : a = none → c = 0) (hr : ERow w a l E) :
    Calls Try.prog 19 #[.slice a l c] w fun e w' => ∃ v, e = .returned v ∧ LR w' w.heap.size v (el E l) ∧ Below w.heap.size w w' := by
  cases a with
  | none =>
    have hl0 : l = 0 := by
      by_cases h0 : 0 < l
      · obtain ⟨x, hx, _⟩ := hr h0; cases hx
      · omega
    subst hl0
    rw [hn rfl]
    have hq : ∀ (W : World), Sem.run Try.prog (binOp BinOp.eql 25 (Value.slice none 0 0) (Value.slice none 0 0)) W = .ok (.bool true) W := fun _ => rfl
    go_enter Try.func19, Try.ntmps19
    go_wp2
    go_ret
    exact ⟨_, rfl, World.ownsRow_nil _ _ _ _, Below.refl _ _⟩
  | some x =>
    have hB : Below w.heap.size w (w.alloc (.cells #[] 31)) := (Below.refl _ _).alloc (Nat.le_refl _) _
    have HX : Hid (Src (w.alloc (.cells #[] 31)) (.slice (some x) l c) l (ec E l)) := (hr.on hB).src hn
    clear hn hr
    have hq : ∀ (W : World), Sem.run Try.prog (binOp BinOp.eql 25 (Value.slice (some x) l c) (Value.slice none 0 0)) W = .ok (.bool false) W := fun _ => rfl
    go_enter Try.func19, Try.ntmps19
    go_wp2_with (at_builtin; refine wpList_append2 tpE rfl _ _ rfl w.heap.size _ _ 0 l [] (ec E l) rfl (comp_own w _ (Nat.le_refl _)) rfl HX.out (by omega) (by simp) ?_)
    intro v1 w1 hown1 hgr1 _
    have HB : Hid (Below w.heap.size w w1) := hB.grown hgr1 (by simp) (fun j hj => by cases hj; exact Nat.le_refl _)
    have HO : Hid (LR w1 w.heap.size v1 (el E l)) := by
      show w1.ownsRow _ _ _ _ _ _
      rw [el_len, lc_el]
      simpa using hown1
    clear hown1 hgr1 hB
    go_wp2
    go_ret
    exact ⟨_, rfl, HO.out, HB.out⟩
/-- An entry of under, as over says it. -/
def upd (E F : Nat → En) (m i : Nat) : En := ((E i).1, match fsti (fun j => (F j).1) m (E i).1 with | some j => (F j).2 | none => (E i).2)
def p1 (E F : Nat → En) (m : Nat) : Nat → List En
  | 0 => []
  | k + 1 => p1 E F m k ++ [upd E F m k]
def p2 (E F : Nat → En) (l : Nat) : Nat → List En
  | 0 => []
  | j + 1 => match fsti (fun i => (E i).1) l (F j).1 with | some _ => p2 E F l j | none => p2 E F l j ++ [F j]
/-- Entries laid over others. -/
def layE (E : Nat → En) (l : Nat) (F : Nat → En) (m : Nat) : List En := p1 E F m l ++ p2 E F l m
theorem p1_len (E F : Nat → En) (m k : Nat) : (p1 E F m k).length = k := by
  induction k with
  | zero => rfl
  | succ k ih => show (p1 E F m k ++ [upd E F m k]).length = _; rw [List.length_append, ih]; rfl
theorem p2_len (E F : Nat → En) (l j : Nat) : (p2 E F l j).length ≤ j := by
  induction j with
  | zero => exact Nat.le_refl _
  | succ j ih =>
    unfold p2
    split
    · omega
    · rw [List.length_append]; simp; omega
end Rl
end Go.Proofs.Ytcolkfoodjpdjaa
