import Derived.Test.YtcolkfoodjpdjaaRaD
import Derived.RangeFuncBox
namespace Go.Proofs.Ytcolkfoodjpdjaa
namespace Ra
open Go.RowKit
set_option linter.unusedVariables false
/-- A list's type and its elements', of two cells. -/
def Tp (t e : TypeId) : Prop := Try.prog.underlying t = some (.slice e) ∧ ∃ i z b, Try.prog.info? e = some i ∧ i.zero = some z ∧ i.size = 2 ∧ i.bytes = b ∧ z.cells.size = 2 ∧ b ≤ 40
theorem infoE : (Try.prog.info? 31).map (fun i => (i.zero, i.size, i.bytes)) = some (some (.agg #[.string ⟨#[]⟩, .string ⟨#[]⟩]), 2, 32) := by kernel_rfl
theorem infoS : (Try.prog.info? 37).map (fun i => (i.zero, i.size, i.bytes)) = some (some (.agg #[.string ⟨#[]⟩, .slice none 0 0]), 2, 40) := by kernel_rfl
theorem tpE : Tp 25 31 := by
  refine ⟨Try.underlying25, ?_⟩
  have h := infoE
  cases hh : Try.prog.info? 31 with
  | none => rw [hh] at h; cases h
  | some i => rw [hh] at h; simp at h; exact ⟨i, _, _, rfl, h.1, h.2.1, h.2.2, rfl, by omega⟩
theorem tpS : Tp 22 37 := by
  refine ⟨Try.underlying22, ?_⟩
  have h := infoS
  cases hh : Try.prog.info? 37 with
  | none => rw [hh] at h; cases h
  | some i => rw [hh] at h; simp at h; exact ⟨i, _, _, rfl, h.1, h.2.1, h.2.2, rfl, by omega⟩
/-- What an append takes: nothing, or cells that lie somewhere. -/
def Src (w : World) (sv : Value) (m : Nat) (news : List Value) : Prop :=
  (sv = .slice none 0 0 ∧ m = 0 ∧ news = []) ∨ ∃ ad c, sv = .slice (some ad) m c ∧ news.length = m * 2 ∧ (∀ j u, news[j]? = some u → w.cell? (ad.add j) = some u) ∧ ∀ u ∈ news, u.oneCell' = true
theorem small40 {n b : Nat} (h : n ≤ 1000000) (hb : b ≤ 40) : n * b ≤ 140737488355328 := Nat.le_trans (Nat.mul_le_mul h hb) (by decide)
theorem grown_refl (w : World) (r : Option Nat) : w.grownBy w r := ⟨rfl, rfl, rfl, Nat.le_refl _, fun _ _ _ => rfl⟩
theorem wpList_append2 {t e : TypeId} (hT : Tp t e) {w : World} {ops : Array Oper} {rest : List Oper} {o : Oper} {a : Act} {Q : Exit → Act → World → Prop} (hgd : o.guard = none) (s x : Operand)
    (ho : o.op = .call { callee := .builtin .append, args := #[s, x], argTypes := #[t, t] }) (base : Nat) (v sv : Value) (n m : Nat) (xs news : List Value) (hs : a.eval s = v) (hown : w.ownsRow base e 2 v n xs)
    (hx : a.eval x = sv) (hsrc : Src w sv m news) (h63 : n + m ≤ 1000000) (hbase : base ≤ w.heap.size)
    (h : ∀ v' w', w'.ownsRow base e 2 v' (n + m) (xs ++ news) → w.grownBy w' v.ownBlock → (v'.ownBlock = v.ownBlock ∨ v'.ownBlock = some w.heap.size) → wpList Try.prog ops Q rest (a.put o.dst v') w') : wpList Try.prog ops Q (o :: rest) a w := by
  obtain ⟨hu, i0, z, b, hi, hz0, hz1, hz2, hz3, hz4⟩ := hT
  rcases hsrc with ⟨rfl, rfl, rfl⟩ | ⟨ad, c, rfl, hl, hc, h1⟩
  · refine wpList_append_own_none hgd s x t ho base e i0 2 hu hi v n xs hs hown hx ?_
    exact h v w (by simpa using hown) (grown_refl _ _) (Or.inl rfl)
  · exact wpList_append_own_at w hgd s x t ho base e i0 z 2 b hu hi hz0 hz1 hz2 hz3 (by decide) v n xs hs hown ad m c news hx (by omega) hc h1 (by unfold maxLen; omega) (small40 h63 hz4) hbase (fun v' w' h2 h3 _ h5 => h v' w' h2 h3 h5)
theorem step_append2 {t e : TypeId} (hT : Tp t e) {w : World} {ops : Array Oper} {o : Oper} {a : Act} {K : Act → World → Prop} {Q : Exit → Act → World → Prop} {E : Prop} (hgd : o.guard = none) (s x : Operand)
    (ho : o.op = .call { callee := .builtin .append, args := #[s, x], argTypes := #[t, t] }) (base : Nat) (v sv : Value) (n m : Nat) (xs news : List Value) (hs : a.eval s = v) (hown : w.ownsRow base e 2 v n xs)
    (hx : a.eval x = sv) (hsrc : Src w sv m news) (h63 : n + m ≤ 1000000) (hbase : base ≤ w.heap.size)
    (h : ∀ v' w', w'.ownsRow base e 2 v' (n + m) (xs ++ news) → w.grownBy w' v.ownBlock → (v'.ownBlock = v.ownBlock ∨ v'.ownBlock = some w.heap.size) → K (a.put o.dst v') w') :
    if Region.wanted o (yielded ops a.tmps) = true then Oper.wp Try.prog o a w K Q else E := by
  have hw : Region.wanted o (yielded ops a.tmps) = true := by simp [Region.wanted, hgd]
  rw [if_pos hw]
  obtain ⟨hu, i0, z, b, hi, hz0, hz1, hz2, hz3, hz4⟩ := hT
  rcases hsrc with ⟨rfl, rfl, rfl⟩ | ⟨ad, c, rfl, hl, hc, h1⟩
  · have hr := run_append_owned_none (P := Try.prog) (w := w) base t o.type e i0 2 hu hi v n xs hown
    unfold Oper.wp execOp
    simp only [ho, resolve, invoke, builtin, Sem.run_bind, Sem.run_pure, Result.andThen_ok, List.map_toArray, List.map_cons, List.map_nil, hs, hx, hr]
    exact h v w (by simpa using hown) (grown_refl _ _) (Or.inl rfl)
  · obtain ⟨v', w', hr, h2, h3, h4, h5⟩ := run_append_own_at (P := Try.prog) w base t o.type e i0 z 2 b hu hi hz0 hz1 hz2 hz3 (by decide) v n xs hown ad m c news (by omega) hc h1 (by unfold maxLen; omega) (small40 h63 hz4) hbase
    unfold Oper.wp execOp
    simp only [ho, resolve, invoke, builtin, Sem.run_bind, Sem.run_pure, Result.andThen_ok, List.map_toArray, List.map_cons, List.map_nil, hs, hx, hr]
    exact h v' w' h2 h3 h5
theorem cell_new (v : World) (N : Nat) (c : Array Value) (t : TypeId) (i : Nat) (x : Value) (hN : v.heap.size = N) (h : c[i]? = some x) : (v.alloc (.cells c t)).cell? ⟨N, i, none⟩ = some x := by
  subst hN
  have h1 : (v.alloc (.cells c t)).heap[v.heap.size]? = some (.cells c t) := World.alloc_heap_new v _
  simp only [World.cell?, h1, h]
  rfl
/-- One element of two cells in a new block. -/
theorem src_new (w : World) (p q : Value) (t : TypeId) (hp : p.oneCell' = true) (hq : q.oneCell' = true) (c : Nat) : Src (w.alloc (.cells #[p, q] t)) (.slice (some ⟨w.heap.size, 0, none⟩) 1 c) 1 [p, q] := by
  refine Or.inr ⟨_, _, rfl, rfl, ?_, ?_⟩
  · intro j u hj
    match j, hj with
    | 0, hj => simp at hj; subst hj; exact cell_new _ _ _ _ _ _ rfl rfl
    | 1, hj => simp at hj; subst hj; exact cell_new _ _ _ _ _ _ rfl rfl
  · intro u hu; simp at hu; rcases hu with rfl | rfl <;> assumption
theorem Src.draw {w : World} {sv : Value} {m : Nat} {news : List Value} (h : Src w sv m news) (n : Nat) : Src (w.drewN n) sv m news := h
theorem own_draw {w : World} {base : Nat} {e : TypeId} {v : Value} {n : Nat} {xs : List Value} (h : w.ownsRow base e 2 v n xs) (k : Nat) : (w.drewN k).ownsRow base e 2 v n xs := h
end Ra
end Go.Proofs.Ytcolkfoodjpdjaa
