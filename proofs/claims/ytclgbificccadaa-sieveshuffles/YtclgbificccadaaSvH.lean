import Derived.Test.YtclgbificccadaaSvG
import Derived.Maps.OwnIn
namespace Go.Proofs.Ytclgbificccadaa
namespace Sv
open Go.RowKit Go.Shelf
set_option linter.unusedVariables false
attribute [local go_sem] Oper.semAt_some
/-- Only block g has turned. -/
def But (g : Nat) (w w' : World) : Prop := w'.os = w.os ∧ w'.tape = w.tape ∧ w'.output = w.output ∧ w'.heap.size = w.heap.size ∧ ∀ k, k ≠ g → w'.heap[k]? = w.heap[k]?
theorem But.refl (g : Nat) (w : World) : But g w w := ⟨rfl, rfl, rfl, rfl, fun _ _ => rfl⟩
theorem But.set {g : Nat} {w w' : World} (h : But g w w') (j : Nat) (v : Value) : But g w (w'.setCell ⟨g, j, none⟩ v) := by
  have k := (Below.refl 0 w').setCell (p := ⟨g, j, none⟩) (Nat.zero_le _) v
  exact ⟨k.os.trans h.1, k.tape.trans h.2.1, k.output.trans h.2.2.1, by simp [h.2.2.2.1], fun i hi => (Below.heap_setCell _ _ _ i hi).trans (h.2.2.2.2 i hi)⟩
theorem But.below {g B : Nat} {w w' : World} (h : But g w w') (hg : B ≤ g) (hB : B ≤ w.heap.size) : Below B w w' := ⟨h.1, h.2.1, h.2.2.1, by rw [h.2.2.2.1]; exact Nat.le_refl _, fun k hk => h.2.2.2.2 k (by omega)⟩
/-- Cells of block g up to m may be stored. -/
def Fr (w : World) (g m : Nat) : Prop := ∀ j, j < m → w.frozen? ⟨g, j, none⟩ = false ∧ ∃ v, w.cell? ⟨g, j, none⟩ = some v
theorem Fr.set {w : World} {g m : Nat} (h : Fr w g m) (i : Nat) (hi : i < m) (v : Value) : Fr (w.setCell ⟨g, i, none⟩ v) g m := by
  intro j hj
  obtain ⟨a, u, b⟩ := h j hj
  exact ⟨by simpa using a, cell?_setCell_some b⟩
theorem wpListIn_append3 {F : Fence} {nF : Nat} {t e : TypeId} {B : Nat} (hT : Tp t e B) {w : World} {ops : Array Oper} {rest : List Oper} {o : Oper} {a : Act} {Q : Exit → Act → World → Prop} (hgd : o.guard = none) (s x : Operand)
    (ho : o.op = .call { callee := .builtin .append, args := #[s, x], argTypes := #[t, t] }) (base : Nat) (v sv : Value) (n m : Nat) (xs news : List Value) (hs : a.eval s = v) (hown : w.ownsRow base e 3 v n xs)
    (hx : a.eval x = sv) (hsrc : Src w sv m news) (h63 : (n + m) * B ≤ 140737488355328) (h12 : 12 ≤ B) (hbase : base ≤ w.heap.size)
    (h : ∀ v' w', w'.ownsRow base e 3 v' (n + m) (xs ++ news) → w.grownBy w' v.ownBlock → (v'.ownBlock = v.ownBlock ∨ v'.ownBlock = some w.heap.size) → wpListIn F nF Try.prog ops Q rest (a.put o.dst v') w') : wpListIn F nF Try.prog ops Q (o :: rest) a w := by
  obtain ⟨hu, i0, z, hi, hz0, hz1, hz2, hz3⟩ := hT
  have hm : n + m ≤ 140737488355328 := Nat.le_trans (by have := Nat.mul_le_mul_left (n + m) (show 1 ≤ B by omega); omega) h63
  rcases hsrc with ⟨rfl, rfl, rfl⟩ | ⟨ad, c, rfl, hl, hc, h1⟩
  · refine wpListIn_plain hgd fun K hK => ?_
    have hr := run_append_owned_none (P := Try.prog) (w := w) base t o.type e i0 3 hu hi v n xs hown
    unfold Oper.wpIn
    refine ⟨by simp [Oper.about, ho, resolve, Target.leads, Sem.run_pure], ?_⟩
    rw [Oper.semAt_plain F _ _ (by rw [ho]; intro c hc'; cases hc')]
    simp [execOp, ho, resolve, invoke, builtin, hs, hx, hr, Result.andThen]
    exact hK _ _ (h v w (by simpa using hown) (grown_refl _ _) (Or.inl rfl))
  · exact wpListIn_append_own_at w hgd s x t ho base e i0 z 3 B hu hi hz0 hz1 hz2 hz3 (by decide) v n xs hs hown ad m c news hx (by omega) hc h1 (by unfold maxLen; omega) h63 hbase (fun v' w' h2 h3 _ h5 => h v' w' h2 h3 h5)
end Sv
end Go.Proofs.Ytclgbificccadaa
