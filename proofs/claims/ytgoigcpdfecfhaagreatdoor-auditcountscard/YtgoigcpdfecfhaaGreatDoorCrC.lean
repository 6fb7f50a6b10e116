import Derived.Test.YtgoigcpdfecfhaaGreatDoorCrB
namespace Go.Proofs.YtgoigcpdfecfhaaGreatDoor
namespace Au
open Go.RowKit
set_option linter.unusedVariables false
set_option maxRecDepth 8000
theorem entersR49 (A : Array Value) (W : World) : (callFunc 49 A).run Tryz.prog W = .ok (.enter 49 A) W := enters_of Tryz.func49 (by kernel_rfl) rfl A W
theorem entersR52 (A : Array Value) (W : World) : (callFunc 52 A).run Tryz.prog W = .ok (.enter 52 A) W := enters_of Tryz.func52 (by kernel_rfl) rfl A W
theorem entersR46 (A : Array Value) (W : World) : (callFunc 46 A).run Tryz.prog W = .ok (.enter 46 A) W := enters_of Tryz.func46 (by kernel_rfl) rfl A W
/-- Both lists with the boxes that name them. -/
structure Rj (rb n m pb nb p q cp cq : Nat) (P G : Nat → Int) (W : World) : Prop where
  g : Rg W rb n m p q P G
  p : Boxed W pb 32 (.slice (some ⟨rb, p, none⟩) n cp)
  q : Boxed W nb 32 (.slice (some ⟨rb, q, none⟩) n cq)
theorem Rj.of {rb n m pb nb p q cp cq : Nat} {P G : Nat → Int} {W W' : World} (h : Rj rb n m pb nb p q cp cq P G W) (e1 : W'.heap[rb]? = W.heap[rb]?) (e2 : W'.heap[pb]? = W.heap[pb]?) (e3 : W'.heap[nb]? = W.heap[nb]?) : Rj rb n m pb nb p q cp cq P G W' := ⟨h.g.of e1, e2.trans h.p, e3.trans h.q⟩
theorem Rj.on {X : Nat → Prop} {rb n m pb nb p q cp cq : Nat} {P G : Nat → Int} {W W' : World} (h : Rj rb n m pb nb p q cp cq P G W) (hC : Ch X W W') (x1 : ¬ X rb) (x2 : ¬ X pb) (x3 : ¬ X nb) : Rj rb n m pb nb p q cp cq P G W' := h.of (hC.block _ h.g.lt x1) (hC.block _ h.p.lt x2) (hC.block _ h.q.lt x3)
theorem Rj.ext {rb n m pb nb p q cp cq : Nat} {P G P' G' : Nat → Int} {W : World} (h : Rj rb n m pb nb p q cp cq P G W) (e : ∀ v, v < n → P v = P' v) (e' : ∀ v, v < n → G v = G' v) : Rj rb n m pb nb p q cp cq P' G' W := ⟨h.g.ext e e', h.p, h.q⟩
theorem Rj.setp {rb n m pb nb p q cp cq : Nat} {P G : Nat → Int} {W : World} (h : Rj rb n m pb nb p q cp cq P G W) (r1 : pb ≠ rb) (r2 : nb ≠ rb) (j : Nat) (hj : j < n) (x : Int) : Rj rb n m pb nb p q cp cq (up P j x) G (W.setCell ⟨rb, p + j, none⟩ (.int .u64 x)) :=
  ⟨h.g.setp j hj x, (Below.heap_setCell _ _ _ _ r1).trans h.p, (Below.heap_setCell _ _ _ _ r2).trans h.q⟩
theorem Rj.copied {rb n m pb nb p q cp cq : Nat} {P G : Nat → Int} {W : World} (h : Rj rb n m pb nb p q cp cq P G W) (r1 : pb ≠ rb) (r2 : nb ≠ rb) : Rj rb n m pb nb p q cp cq P P (W.setCells rb q ((List.range' 0 n).map (fun j => .int .u64 (P j)))) := by
  have hC : Ch (fun k => k = rb) W (W.setCells rb q ((List.range' 0 n).map (fun j => Value.int .u64 (P j)))) := Ch.cells (X := fun k => k = rb) rfl _ q (Ch.refl _ _)
  exact ⟨h.g.copied, (hC.block _ h.p.lt r1).trans h.p, (hC.block _ h.q.lt r2).trans h.q⟩
theorem box_set {w : World} {b : Nat} {t : TypeId} {v v' : Value} (h : Boxed w b t v) : Boxed (w.setCell ⟨b, 0, none⟩ v') b t v' := by
  have h' : w.heap[b]? = some (.cells #[v] t (0, 0)) := h
  show (w.setCell ⟨b, 0, none⟩ v').heap[b]? = _
  rw [setCell_eq_setRow w b 0 #[v] t (0, 0) v' h']
  exact setRow_heap w b _ _ t (0, 0) h'
theorem Rj.swapped {rb n m pb nb p q cp cq : Nat} {P G : Nat → Int} {W : World} (h : Rj rb n m pb nb p q cp cq P G W) (r1 : pb ≠ rb) (r2 : nb ≠ rb) (r3 : pb ≠ nb) : Rj rb n m pb nb q p cq cp G P ((W.setCell ⟨pb, 0, none⟩ (.slice (some ⟨rb, q, none⟩) n cq)).setCell ⟨nb, 0, none⟩ (.slice (some ⟨rb, p, none⟩) n cp)) := by
  refine ⟨h.g.swap.of ((Below.heap_setCell _ _ _ _ (Ne.symm r2)).trans (Below.heap_setCell _ _ _ _ (Ne.symm r1))), (Below.heap_setCell _ _ _ _ r3).trans (box_set h.p), ?_⟩
  have hq : Boxed (W.setCell ⟨pb, 0, none⟩ (.slice (some ⟨rb, q, none⟩) n cq)) nb 32 (.slice (some ⟨rb, q, none⟩) n cq) := (Below.heap_setCell _ _ _ _ (Ne.symm r3)).trans h.q
  exact box_set hq
/-- What a vertex begins with. -/
def fst (s : Int) (v : Nat) : Int := osn (Rx.mix s v)
theorem fst_b (s : Int) : WB (fst s) := fun v => osn_b _
/-- What a look at registers ends with. -/
def AR (n : Nat) (L : List T3) (s : Int) (r : Nat) (S : Nat → Nat → Int) (o : Vd) : Prop := Lm (fun a b => b = 1 ∧ a < n ∧ (S a 0 != itr L (fst s) r a) = true) o
def RR (n m rb : Nat) (L : List T3) (f s : Int) (r : Nat) (S : Nat → Nat → Int) (E : Int) (o : Vd) (W : World) : Prop := E = fa n 0 L f ∧ (E = 0 → AR n L s r S o) ∧ Sp W rb (2 * n) m
theorem wp_cut2 {P : Program} {c : Code} {Q : Exit → Act → World → Prop} {a : Act} {w : World} (T : Nat → Nat → World → Prop) (A1 : Nat → Nat → Act)
    (h : c.wp P (fun e a' w' => match e with | .normal => ∃ x y, a' = A1 x y ∧ T x y w' | _ => False) a w) (hq : ∀ x y w', T x y w' → Q .normal (A1 x y) w') : c.wp P Q a w := by
  refine Code.wp_mono ?_ h
  intro e a' w' hh
  cases e with
  | normal => obtain ⟨x, y, rfl, ht⟩ := hh; exact hq x y w' ht
  | _ => exact hh.elim
abbrev SR46 (kb n : Nat) (w : World) : Prop := w.cell? ⟨kb, 0, none⟩ = some (.int .u32 (n : Int))
abbrev SR46b (pb eb rb p n cp : Nat) (s : Int) (w : World) : Prop := w.cell? ⟨pb, 0, none⟩ = some (.slice (some ⟨rb, p, none⟩) n cp) ∧ w.cell? ⟨eb, 0, none⟩ = some (.int .u64 s)
end Au
end Go.Proofs.YtgoigcpdfecfhaaGreatDoor
