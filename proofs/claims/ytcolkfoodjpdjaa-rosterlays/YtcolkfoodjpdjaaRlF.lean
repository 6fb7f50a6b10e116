import Derived.Test.YtcolkfoodjpdjaaRlE
namespace Go.Proofs.Ytcolkfoodjpdjaa
namespace Rl
open Go.RowKit Ra
set_option linter.unusedVariables false
abbrev Sc := ByteArray × List En
theorem rows_ne {w : World} {B B' e e' s s' n n' : Nat} {u v : Value} {xs ys : List Value} (hu : w.ownsRow B e s u n xs) (hv : w.ownsRow B' e' s' v n' ys) (hne : e ≠ e') : u.ownBlock = none ∨ u.ownBlock ≠ v.ownBlock := by
  rcases hu.2 with ⟨rfl, _⟩ | ⟨g, cap, cur, rfl, _, hg, _⟩
  · exact .inl rfl
  · refine .inr (not_row hg hne hv)
theorem own_base {w : World} {B B' e s n : Nat} {u : Value} {xs : List Value} (h : w.ownsRow B e s u n xs) (hb : B' ≤ B) : w.ownsRow B' e s u n xs := by
  refine ⟨h.1, ?_⟩
  rcases h.2 with h2 | ⟨g, cap, cur, h3, h4, h5⟩
  · exact .inl h2
  · exact .inr ⟨g, cap, cur, h3, Nat.le_trans hb h4, h5⟩
theorem own_on {w w' : World} {B e s n : Nat} {u : Value} {xs : List Value} (h : w.ownsRow B e s u n xs) (hb : Below w.heap.size w w') : w'.ownsRow B e s u n xs :=
  World.ownsRow.kept (row := none) h ⟨hb.os, hb.tape, hb.output, hb.size, fun k hk _ => hb.block k hk⟩ (by cases u.ownBlock <;> simp)
/-- Sections as cells. -/
structure LX (w : World) (B : Nat) (xs : List Value) (R : List Sc) : Prop where
  at' : ∀ (i : Nat) (r : Sc), R[i]? = some r → xs[i * 2]? = some (.string r.1) ∧ ∃ u, xs[i * 2 + 1]? = some u ∧ LR w B u r.2
  far : ∀ (i j : Nat) (u u' : Value), i ≠ j → xs[i * 2 + 1]? = some u → xs[j * 2 + 1]? = some u' → u.ownBlock = none ∨ u.ownBlock ≠ u'.ownBlock
/-- A list of sections of our own. -/
def SL (w : World) (B : Nat) (v : Value) (R : List Sc) (xs : List Value) : Prop := w.ownsRow B 37 2 v R.length xs ∧ LX w B xs R
theorem SL.nil (w : World) (B : Nat) : SL w B (.slice none 0 0) [] [] := ⟨World.ownsRow_nil _ _ _ _, fun i r h => by simp at h, fun i j u u' _ h => by simp at h⟩
theorem SL.on {w w' : World} {B : Nat} {v : Value} {R : List Sc} {xs : List Value} (h : SL w B v R xs) (hb : Below w.heap.size w w') : SL w' B v R xs :=
  ⟨own_on h.1 hb, fun i r hr => by
    obtain ⟨a, u, b, c⟩ := h.2.at' i r hr
    exact ⟨a, u, b, own_on c hb⟩, h.2.far⟩
theorem SL.step {wr X w4 : World} {B n : Nat} {v v' u : Value} {R : List Sc} {xs : List Value} {nm : ByteArray} {es : List En} (h : SL wr B v R xs) (hn : R.length = n) (hB : Below wr.heap.size wr X) (hBs : B ≤ wr.heap.size) (hu : LR X wr.heap.size u es) (hg : X.grownBy w4 v.ownBlock)
    (hown : w4.ownsRow B 37 2 v' (n + 1) (xs ++ [.string nm, u])) : SL w4 B v' (R ++ [(nm, es)]) (xs ++ [.string nm, u]) := by
  subst hn
  have hxl : xs.length = R.length * 2 := h.1.1
  have hX := h.on hB
  have kp : ∀ {B' n : Nat} {u : Value} {ys : List Value}, X.ownsRow B' 31 2 u n ys → w4.ownsRow B' 31 2 u n ys := fun hr => hr.kept hg (rows_ne hr hX.1 (by decide))
  have old : ∀ (i : Nat) (z : Value), xs[i * 2 + 1]? = some z → ∃ es, LR wr B z es := by
    intro i z hz
    have hi : i < R.length := by have := (List.getElem?_eq_some_iff.1 hz).1; omega
    obtain ⟨_, z', hz', hl⟩ := h.2.at' i R[i] (List.getElem?_eq_getElem hi)
    rw [hz] at hz'; cases hz'
    exact ⟨_, hl⟩
  have lo : ∀ (z : Value) (es' : List En), LR wr B z es' → z.ownBlock = none ∨ z.ownBlock ≠ u.ownBlock := by
    intro z es' hz
    cases hzb : z.ownBlock with
    | none => exact .inl rfl
    | some k =>
      refine .inr (fun e => ?_)
      have := (World.ownsRow.lt hz k hzb).2
      have := (World.ownsRow.lt hu k e.symm).1
      omega
  have hi' : ∀ (z : Value) (es' : List En), LR wr B z es' → u.ownBlock = none ∨ u.ownBlock ≠ z.ownBlock := by
    intro z es' hz
    rcases lo z es' hz with e | e
    · cases hub : u.ownBlock with
      | none => exact .inl rfl
      | some k => exact .inr (by rw [e]; simp)
    · exact .inr (Ne.symm e)
  refine ⟨by rw [List.length_append]; exact hown, fun i r hr => ?_, fun i j z z' hij hz hz' => ?_⟩
  · by_cases hi : i < R.length
    · rw [List.getElem?_append_left hi] at hr
      obtain ⟨a, z, b, c⟩ := h.2.at' i r hr
      exact ⟨by rw [List.getElem?_append_left (by omega)]; exact a, z, by rw [List.getElem?_append_left (by omega)]; exact b, kp (own_on c hB)⟩
    · have hlt := (List.getElem?_eq_some_iff.1 hr).1
      rw [List.length_append] at hlt
      obtain rfl : i = R.length := by simp at hlt; omega
      rw [List.getElem?_append_right (by omega)] at hr
      simp at hr
      subst hr
      exact ⟨by rw [List.getElem?_append_right (by omega), hxl]; simp, u, by rw [List.getElem?_append_right (by omega), hxl]; simp, own_base (kp hu) hBs⟩
  · have hb1 := (List.getElem?_eq_some_iff.1 hz).1
    have hb2 := (List.getElem?_eq_some_iff.1 hz').1
    rw [List.length_append] at hb1 hb2
    simp at hb1 hb2
    by_cases hi : i < R.length
    · rw [List.getElem?_append_left (by omega)] at hz
      by_cases hj : j < R.length
      · rw [List.getElem?_append_left (by omega)] at hz'
        exact h.2.far i j z z' hij hz hz'
      · obtain rfl : j = R.length := by omega
        rw [List.getElem?_append_right (by omega), hxl] at hz'
        simp at hz'
        subst hz'
        obtain ⟨es', he⟩ := old i z hz
        exact lo z es' he
    · obtain rfl : i = R.length := by omega
      have hj : j < R.length := by omega
      rw [List.getElem?_append_left (by omega)] at hz'
      rw [List.getElem?_append_right (by omega), hxl] at hz
      simp at hz
      subst hz
      obtain ⟨es', he⟩ := old j z' hz'
      exact hi' z' es' he
/-- Sections laid over others. -/
def sec1 (D O : Nat → Dt) (m i : Nat) : Sc := ((D i).nm, match fsti (fun j => (O j).nm) m (D i).nm with | some j => layE (D i).E (D i).l (O j).E (O j).l | none => el (D i).E (D i).l)
def s1 (D O : Nat → Dt) (m : Nat) : Nat → List Sc
  | 0 => []
  | k + 1 => s1 D O m k ++ [sec1 D O m k]
def s2 (D O : Nat → Dt) (l : Nat) : Nat → List Sc
  | 0 => []
  | j + 1 => match fsti (fun i => (D i).nm) l (O j).nm with | some _ => s2 D O l j | none => s2 D O l j ++ [((O j).nm, el (O j).E (O j).l)]
def layS (D : Nat → Dt) (l : Nat) (O : Nat → Dt) (m : Nat) : List Sc := s1 D O m l ++ s2 D O l m
theorem s1_len (D O : Nat → Dt) (m k : Nat) : (s1 D O m k).length = k := by
  induction k with
  | zero => rfl
  | succ k ih => show (s1 D O m k ++ [sec1 D O m k]).length = _; rw [List.length_append, ih]; rfl
theorem s2_len (D O : Nat → Dt) (l j : Nat) : (s2 D O l j).length ≤ j := by
  induction j with
  | zero => exact Nat.le_refl _
  | succ j ih =>
    unfold s2
    split
    · omega
    · rw [List.length_append]; simp; omega
end Rl
end Go.Proofs.Ytcolkfoodjpdjaa
