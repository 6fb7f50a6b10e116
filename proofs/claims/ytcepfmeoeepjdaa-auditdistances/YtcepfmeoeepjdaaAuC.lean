import Derived.Test.YtcepfmeoeepjdaaAuB
namespace Go.Proofs.Ytcepfmeoeepjdaa
namespace Au
open Go.RowKit Go.Shelf
set_option linter.unusedVariables false
set_option maxRecDepth 8000
/-- A verdict: none, if it is right; else the vertex and the rule. -/
abbrev Vd := Option (Nat × Nat)
def vR : Vd → Bool | none => true | some _ => false
def vV : Vd → Int | none => 0 | some p => p.1
def vK : Vd → Int | none => 0 | some p => p.2
def nt (o : Vd) (v r : Nat) : Vd := match o with
  | none => some (v, r)
  | some p => if v < p.1 ∨ v = p.1 ∧ r < p.2 then some (v, r) else some p
/-- The least of all that is noted. -/
def Lm (P : Nat → Nat → Prop) : Vd → Prop
  | none => ∀ v r, ¬ P v r
  | some p => P p.1 p.2 ∧ ∀ v r, P v r → p.1 < v ∨ p.1 = v ∧ p.2 ≤ r
theorem Lm.one {P : Nat → Nat → Prop} {o o' : Vd} (h : Lm P o) (h' : Lm P o') : o = o' := by
  match o, o', h, h' with
  | none, none, _, _ => rfl
  | none, some p, h, h' => exact absurd h'.1 (h _ _)
  | some p, none, h, h' => exact absurd h.1 (h' _ _)
  | some p, some q, h, h' =>
    have a := h.2 _ _ h'.1
    have b := h'.2 _ _ h.1
    have e1 : p.1 = q.1 := by omega
    have e2 : p.2 = q.2 := by omega
    rw [show p = q from Prod.ext e1 e2]
theorem Lm.nt {P : Nat → Nat → Prop} {o : Vd} (h : Lm P o) (v r : Nat) : Lm (fun a b => P a b ∨ (a = v ∧ b = r)) (nt o v r) := by
  match o, h with
  | none, h => exact ⟨Or.inr ⟨rfl, rfl⟩, fun a b hab => Or.elim hab (fun hp => absurd hp (h _ _)) (fun e => Or.inr ⟨e.1.symm, Nat.le_of_eq e.2.symm⟩)⟩
  | some p, h =>
    unfold Au.nt
    by_cases e : v < p.1 ∨ v = p.1 ∧ r < p.2
    · simp only [e, if_true]
      refine ⟨Or.inr ⟨rfl, rfl⟩, fun a b hab => ?_⟩
      rcases hab with hp | ⟨rfl, rfl⟩
      · have := h.2 _ _ hp; show v < a ∨ v = a ∧ r ≤ b; omega
      · exact Or.inr ⟨rfl, Nat.le_refl _⟩
    · simp only [e, if_false]
      refine ⟨Or.inl h.1, fun a b hab => ?_⟩
      rcases hab with hp | ⟨rfl, rfl⟩
      · exact h.2 _ _ hp
      · omega
theorem Lm.ext {P Q : Nat → Nat → Prop} {o : Vd} (h : Lm P o) (e : ∀ v r, P v r ↔ Q v r) : Lm Q o := by
  have : P = Q := funext fun v => funext fun r => propext (e v r)
  rw [← this]; exact h
/-- What a rule adds: only the first vertex at which it is broken is noted. -/
theorem Lm.rule {P : Nat → Nat → Prop} {o : Vd} {n k r : Nat} {β : Nat → Bool} (h : Lm P o) (hk : k < n) (hb : β k = true) (hl : ∀ v, v < k → β v = false) : Lm (fun a b => P a b ∨ (b = r ∧ a < n ∧ β a = true)) (Au.nt o k r) := by
  have h1 := h.nt k r
  generalize Au.nt o k r = o' at *
  match o', h1 with
  | none, h1 => exact absurd (Or.inr ⟨rfl, rfl⟩) (h1 k r)
  | some p, h1 =>
    refine ⟨?_, fun a b hab => ?_⟩
    · rcases h1.1 with hp | ⟨e1, e2⟩
      · exact Or.inl hp
      · exact Or.inr ⟨e2, by omega, by rw [e1]; exact hb⟩
    · rcases hab with hp | ⟨rfl, ha, hba⟩
      · exact h1.2 _ _ (Or.inl hp)
      · have h2 := h1.2 k b (Or.inr ⟨rfl, rfl⟩)
        have : k ≤ a := by
          rcases Nat.lt_or_ge a k with q | q
          · rw [hl a q] at hba; cases hba
          · exact q
        omega
theorem Lm.none_rule {P : Nat → Nat → Prop} {o : Vd} {n r : Nat} {β : Nat → Bool} (h : Lm P o) (hl : ∀ v, v < n → β v = false) : Lm (fun a b => P a b ∨ (b = r ∧ a < n ∧ β a = true)) o := h.ext (fun a b => ⟨Or.inl, fun hab => by
  rcases hab with hp | ⟨_, ha, hb⟩
  · exact hp
  · rw [hl a ha] at hb; cases hb⟩)
/-- An inquiry as it lies. -/
abbrev qc (n : Nat) (kd : Int) (ed sl : Value) (o : Vd) : Array Value := #[.int .u32 (n : Int), .int .i64 kd, ed, sl, .bool (vR o), .int .u32 (vV o), .int .i64 (vK o)]
def Iq (w : World) (qb n : Nat) (kd : Int) (ed sl : Value) (o : Vd) : Prop := w.heap[qb]? = some (.cells (qc n kd ed sl o) 66 (0, 0))
theorem Iq.lt {w : World} {qb n : Nat} {kd : Int} {ed sl : Value} {o : Vd} (h : Iq w qb n kd ed sl o) : qb < w.heap.size := lt_of_some h
theorem Iq.on {X : Nat → Prop} {w w' : World} {qb n : Nat} {kd : Int} {ed sl : Value} {o : Vd} (h : Iq w qb n kd ed sl o) (hc : Ch X w w') (hx : ¬ X qb) : Iq w' qb n kd ed sl o := (hc.block qb h.lt hx).trans h
theorem Iq.c {w : World} {qb n : Nat} {kd : Int} {ed sl : Value} {o : Vd} (h : Iq w qb n kd ed sl o) : w.cell? ⟨qb, 0, none⟩ = some (.int .u32 (n : Int)) ∧ w.cell? ⟨qb, 1, none⟩ = some (.int .i64 kd) ∧ w.cell? ⟨qb, 2, none⟩ = some ed ∧ w.cell? ⟨qb, 3, none⟩ = some sl ∧ w.cell? ⟨qb, 4, none⟩ = some (.bool (vR o)) ∧ w.cell? ⟨qb, 5, none⟩ = some (.int .u32 (vV o)) ∧ w.cell? ⟨qb, 6, none⟩ = some (.int .i64 (vK o)) := by
  refine ⟨?_, ?_, ?_, ?_, ?_, ?_, ?_⟩ <;> exact (cell_of_row w qb _ _ 66 (0, 0) h).trans rfl
theorem Iq.f {w : World} {qb n : Nat} {kd : Int} {ed sl : Value} {o : Vd} (h : Iq w qb n kd ed sl o) (j : Nat) : w.frozen? ⟨qb, j, none⟩ = false := frozen_of_row w qb _ _ 66 h
theorem Iq.set {w : World} {qb n : Nat} {kd : Int} {ed sl : Value} {o : Vd} (h : Iq w qb n kd ed sl o) (o' : Vd) : Iq (((w.setCell ⟨qb, 4, none⟩ (.bool (vR o'))).setCell ⟨qb, 5, none⟩ (.int .u32 (vV o'))).setCell ⟨qb, 6, none⟩ (.int .i64 (vK o'))) qb n kd ed sl o' := by
  unfold Iq at *
  rw [setCell_eq_setRow w qb 4 _ 66 (0, 0) _ h]
  have h1 := setRow_heap w qb _ ((qc n kd ed sl o).setIfInBounds 4 (.bool (vR o'))) 66 (0, 0) h
  rw [setCell_eq_setRow _ qb 5 _ 66 (0, 0) _ h1]
  have h2 := setRow_heap _ qb _ (((qc n kd ed sl o).setIfInBounds 4 (.bool (vR o'))).setIfInBounds 5 (.int .u32 (vV o'))) 66 (0, 0) h1
  rw [setCell_eq_setRow _ qb 6 _ 66 (0, 0) _ h2]
  exact setRow_heap _ qb _ _ 66 (0, 0) h2
set_option maxHeartbeats 4000000 in
theorem note_any (qb v r n : Nat) (kd : Int) (ed sl : Value) (o : Vd) (w : World) (h : Iq w qb n kd ed sl o) :
    Calls Try.prog 70 #[.pointer (some ⟨qb, 0, none⟩), .int .u32 (v : Int), .int .i64 (r : Int)] w fun e w' => (∃ x, e = .returned x) ∧ Iq w' qb n kd ed sl (nt o v r) ∧ Ch (fun k => k = qb) w w' := by
  obtain ⟨c0, c1, c2, c3, c4, c5, c6⟩ := h.c
  have f4 := h.f 4
  have f5 := h.f 5
  have f6 := h.f 6
  have hlt := h.lt
  have HA : Hid (∀ C : Array Value, Iq (w.alloc (.cells C 35)) qb n kd ed sl o ∧ Ch (fun k => k = qb) w (w.alloc (.cells C 35))) := fun C => ⟨h.on (X := fun _ => False) (Ch.of (b1 _ _ _)) (fun h => h), Ch.of (b1 _ _ _)⟩
  have HH : Hid (∀ C : Array Value, Iq ((((w.setCell ⟨qb, 4, none⟩ (.bool false)).setCell ⟨qb, 5, none⟩ (.int .u32 (v : Int))).setCell ⟨qb, 6, none⟩ (.int .i64 (r : Int))).alloc (.cells C 35)) qb n kd ed sl (some (v, r)) ∧ Ch (fun k => k = qb) w ((((w.setCell ⟨qb, 4, none⟩ (.bool false)).setCell ⟨qb, 5, none⟩ (.int .u32 (v : Int))).setCell ⟨qb, 6, none⟩ (.int .i64 (r : Int))).alloc (.cells C 35))) := fun C =>
    ⟨(h.set (some (v, r))).on (X := fun _ => False) (Ch.of (b1 _ _ _)) (fun h => h), ((((Ch.refl (fun k => k = qb) w).set _ _ (Or.inl rfl)).set _ _ (Or.inl rfl)).set _ _ (Or.inl rfl)).alloc _⟩
  clear h c0 c1 c2 c3
  match o with
  | none =>
    simp only [vR, vV, vK] at *
    rw [show nt none v r = some (v, r) from rfl]
    go_enter Try.func70, Try.ntmps70
    go_wp2
    go_end0
    exact ⟨⟨_, rfl⟩, HH.out _⟩
  | some p =>
    simp only [vR, vV, vK] at *
    by_cases e : v < p.1 ∨ v = p.1 ∧ r < p.2
    · have hn : nt (some p) v r = some (v, r) := by unfold nt; simp only [e, if_true]
      rw [hn]
      clear hn
      rcases e with e | ⟨e1, e2⟩
      · have hl : (v : Int) < (p.1 : Int) := by omega
        go_enter Try.func70, Try.ntmps70
        go_wp2
        go_end0
        exact ⟨⟨_, rfl⟩, HH.out _⟩
      · have hl : ¬ (v : Int) < (p.1 : Int) := by omega
        have hq : ((v : Int) == (p.1 : Int)) = true := by simp; omega
        have hr : (r : Int) < (p.2 : Int) := by omega
        clear e1 e2
        go_enter Try.func70, Try.ntmps70
        go_wp2
        go_end0
        exact ⟨⟨_, rfl⟩, HH.out _⟩
    · have hn : nt (some p) v r = some p := by unfold nt; simp only [e, if_false]
      rw [hn]
      have hl : ¬ (v : Int) < (p.1 : Int) := by omega
      by_cases e2 : v = p.1
      · have hq : ((v : Int) == (p.1 : Int)) = true := by simp; omega
        have hr : ¬ (r : Int) < (p.2 : Int) := by omega
        clear e2 e hn
        go_enter Try.func70, Try.ntmps70
        go_wp2
        go_end0
        exact ⟨⟨_, rfl⟩, HA.out _⟩
      · have hq : ((v : Int) == (p.1 : Int)) = false := by simp; omega
        clear e2 e hn
        go_enter Try.func70, Try.ntmps70
        go_wp2
        go_end0
        exact ⟨⟨_, rfl⟩, HA.out _⟩
end Au
end Go.Proofs.Ytcepfmeoeepjdaa
