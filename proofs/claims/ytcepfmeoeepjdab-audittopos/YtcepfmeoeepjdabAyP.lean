import Derived.Test.YtcepfmeoeepjdabAuT
import Derived.Test.YtcepfmeoeepjdabAuU
import Derived.Test.YtcepfmeoeepjdabAyA
import Derived.Laws.AppendOwnNone
import Derived.Maps.AppendAt
namespace Go.Proofs.Ytcepfmeoeepjdab
namespace Au
open Go.RowKit
set_option linter.unusedVariables false
set_option maxRecDepth 8000
theorem infoU : (Try.prog.info? 22).map (fun i => (i.zero, i.size, i.bytes)) = some (some (.int .u32 0), 1, 4) := by kernel_rfl
theorem info_u : ∃ i0, Try.prog.info? 22 = some i0 ∧ i0.zero = some (.int .u32 0) ∧ i0.size = 1 ∧ i0.bytes = 4 := by
  have h := infoU
  cases hh : Try.prog.info? 22 with
  | none => rw [hh] at h; cases h
  | some i => rw [hh] at h; simp at h; exact ⟨i, rfl, h.1, h.2.1, h.2.2⟩
def uq (Q : List Nat) : List Value := Q.map (fun (q : Nat) => Value.int .u32 (q : Int))
theorem uq_get {Q : List Nat} {i q : Nat} (h : Q[i]? = some q) : (uq Q)[i]? = some (.int .u32 (q : Int)) := by simp [uq, h]
theorem uq_len (Q : List Nat) : (uq Q).length = Q.length := by simp [uq]
theorem uq_one (Q : List Nat) : ∀ u ∈ uq Q, u.oneCell' = true := by
  intro u hu
  simp only [uq, List.mem_map] at hu
  obtain ⟨x, _, rfl⟩ := hu; rfl
/-- What an append of the sources to an empty list of its own leaves. -/
structure Aq (w : World) (q : Nat) (Q : List Nat) (ua : Option Addr) (w' : World) : Prop where
  row : Row1 w' ua Q
  ge : ∀ x, ua = some x → q ≤ x.block ∧ x.block < w'.heap.size
  oth : ∀ k, k < w.heap.size → k ≠ q → w'.heap[k]? = w.heap[k]?
  bel : Below q w w'
theorem own_row {w : World} {B : Nat} {v : Value} {Q : List Nat} (h : w.ownsRow B 22 1 v Q.length (uq Q)) : ∃ a c, v = .slice a Q.length c ∧ Row1 w a Q ∧ ∀ x, a = some x → B ≤ x.block ∧ x.block < w.heap.size := by
  have h' := h
  obtain ⟨h1, h2⟩ := h
  rcases h2 with ⟨rfl, h0⟩ | ⟨g, cap, cur, rfl, h3, h4, h5⟩
  · have : Q = [] := List.eq_nil_of_length_eq_zero h0
    subst this
    exact ⟨none, 0, rfl, fun h => by simp at h, fun x e => by cases e⟩
  · have k : g < w.heap.size := by
      rcases Nat.lt_or_ge g w.heap.size with k | k
      · exact k
      · rw [Array.getElem?_eq_none (by omega)] at h4; cases h4
    refine ⟨_, cap, rfl, fun h0 => ⟨_, rfl, k, fun i e he => World.ownsRow.cells h' (g := g) rfl i _ (uq_get he)⟩, fun x e => ?_⟩
    cases e
    exact ⟨h3, k⟩
theorem grown_refl' (w : World) (r : Option Nat) : w.grownBy w r := ⟨rfl, rfl, rfl, Nat.le_refl _, fun _ _ _ => rfl⟩
theorem grown_aq {w w' : World} {q : Nat} {v : Value} {Q : List Nat} (hq : q < w.heap.size) (h1 : w'.ownsRow q 22 1 v Q.length (uq Q)) (h2 : w.grownBy w' (some q)) : ∃ ua uc, v = .slice ua Q.length uc ∧ Aq w q Q ua w' := by
  obtain ⟨a, c, rfl, hr, hb⟩ := own_row h1
  obtain ⟨g1, g2, g3, g4, g5⟩ := h2
  exact ⟨a, c, rfl, hr, hb, fun k hk hn => g5 k hk (by simpa using hn), Below.grown (Below.refl _ _) ⟨g1, g2, g3, g4, g5⟩ (by omega) (fun k e => by cases e; exact Nat.le_refl _)⟩
theorem step_appq {w : World} {ops : Array Oper} {o : Oper} {a : Act} {K : Act → World → Prop} {Z : Exit → Act → World → Prop} {E : Prop} (hgd : o.guard = none) (s x : Operand)
    (ho : o.op = .call { callee := .builtin .append, args := #[s, x], argTypes := #[25, 25] }) (q n : Nat) (qa : Option Addr) (Q : List Nat) (qc : Nat) (hn : n = Q.length) (hs : a.eval s = .slice (some ⟨q, 0, none⟩) 0 0) (hq : w.heap[q]? = some (.cells #[] 22 (0, 0)))
    (hx : a.eval x = .slice qa n qc) (hr : Row1 w qa Q) (hqc : qa = none → qc = 0) (h4 : Q.length * 4 ≤ 140737488351232)
    (h : ∀ ua uc w', Aq w q Q ua w' → K (a.put o.dst (.slice ua n uc)) w') :
    if Region.wanted o (yielded ops a.tmps) = true then Oper.wp Try.prog o a w K Z else E := by
  subst hn
  have hw : Region.wanted o (yielded ops a.tmps) = true := by simp [Region.wanted, hgd]
  rw [if_pos hw]
  obtain ⟨i0, hi, hz0, hz1, hz2⟩ := info_u
  have hql := lt_of_some hq
  have hown : w.ownsRow q 22 1 (.slice (some ⟨q, 0, none⟩) 0 0) 0 [] := ⟨rfl, Or.inr ⟨q, 0, #[], rfl, Nat.le_refl _, hq, Nat.le_refl _, by unfold maxLen; omega, rfl, rfl⟩⟩
  by_cases hnone : qa = none
  · subst hnone
    have h0 := hqc rfl
    subst h0
    have hQ : Q = [] := by
      cases Q with
      | nil => rfl
      | cons e Q =>
        obtain ⟨x, hx', _⟩ := hr (by simp)
        cases hx'
    subst hQ
    have hr := run_append_owned_none (P := Try.prog) (w := w) q 25 o.type 22 i0 1 Try.underlying25 hi _ 0 [] hown
    unfold Oper.wp execOp
    simp only [List.length_nil] at hx
    simp only [ho, resolve, invoke, builtin, Sem.run_bind, Sem.run_pure, Result.andThen_ok, List.map_toArray, List.map_cons, List.map_nil, hs, hx, hr]
    obtain ⟨ua, uc, e, hA⟩ := grown_aq (Q := []) (v := .slice (some ⟨q, 0, none⟩) 0 0) hql hown (grown_refl' w _)
    cases e
    exact h _ _ w hA
  · obtain ⟨ad, rfl⟩ : ∃ ad, qa = some ad := by
      cases qa with
      | none => exact absurd rfl hnone
      | some x => exact ⟨x, rfl⟩
    have hc : ∀ (j : Nat) u, (uq Q)[j]? = some u → w.cell? (ad.add j) = some u := fun j u hu => by
      simp only [uq, List.getElem?_map, Option.map_eq_some_iff] at hu
      obtain ⟨e', h1, rfl⟩ := hu
      obtain ⟨x', hx', _, hc⟩ := hr (by have := (List.getElem?_eq_some_iff.1 h1).1; omega)
      cases hx'
      exact hc j e' h1
    obtain ⟨v', w', hr, h2, h3, _, h5⟩ := run_append_own_at (P := Try.prog) w q 25 o.type 22 i0 (.int .u32 0) 1 4 Try.underlying25 hi hz0 hz1 hz2 rfl (by decide) _ 0 [] hown ad Q.length qc (uq Q) (by rw [uq_len]; omega) hc (uq_one Q) (by unfold maxLen; omega) (by omega) (by omega)
    unfold Oper.wp execOp
    simp only [ho, resolve, invoke, builtin, Sem.run_bind, Sem.run_pure, Result.andThen_ok, List.map_toArray, List.map_cons, List.map_nil, hs, hx, hr]
    rw [Nat.zero_add, List.nil_append] at h2
    obtain ⟨ua, uc, rfl, hA⟩ := grown_aq hql h2 h3
    exact h _ _ w' hA
/-- What a law's walk carries from call to call: the case, the states, the room, two verdicts. -/
structure St (w : World) (c : Cs) (S : Nat → Nat → Int) (need sg rb vb ub : Nat) (v u : Array Value) (W : World) : Prop where
  hC : Cb W w.heap.size c
  hR : SR W sg (c.sn + 2) (mk c.sn c.sn S)
  hS : Sp W rb need (rm c)
  hV : W.heap[vb]? = some (.cells v 35 (0, 0))
  hU : W.heap[ub]? = some (.cells u 35 (0, 0))
  hB : Below w.heap.size w W
  gv : w.heap.size ≤ vb
  gu : w.heap.size ≤ ub
  hne : vb ≠ ub
theorem St.b {w : World} {c : Cs} {S : Nat → Nat → Int} {need sg rb vb ub : Nat} {v u : Array Value} {W W' : World} (h : St w c S need sg rb vb ub v u W) (hb : Below W.heap.size W W') : St w c S need sg rb vb ub v u W' :=
  ⟨(hb.block _ h.hC.lt).trans h.hC, h.hR.of (hb.block _ h.hR.lt), h.hS.of (hb.block _ h.hS.lt), (hb.block _ (lt_of_some h.hV)).trans h.hV, (hb.block _ (lt_of_some h.hU)).trans h.hU, h.hB.trans (hb.mono h.hB.size), h.gv, h.gu, h.hne⟩
theorem ne_cb {W : World} {b k : Nat} {c : Cs} {v : Array Value} (hC : Cb W b c) (h : W.heap[k]? = some (.cells v 35 (0, 0))) : b ≠ k := fun e => by
  subst e
  have h2 : W.heap[b]? = some (.cells (cb c) 30 (0, 0)) := hC
  rw [h] at h2; simp at h2
theorem ne_sr {W : World} {sg k n : Nat} {F : Nat → Nat → Int} {v : Array Value} (hR : SR W sg n F) (h : W.heap[k]? = some (.cells v 35 (0, 0))) : sg ≠ k := fun e => by
  subst e
  obtain ⟨Q, h2, _⟩ := hR
  rw [h] at h2; simp at h2
theorem ne_sp {W : World} {rb k n m : Nat} {v : Array Value} (hS : Sp W rb n m) (h : W.heap[k]? = some (.cells v 35 (0, 0))) : rb ≠ k := fun e => by
  subst e
  obtain ⟨U, ⟨Q, h2, _⟩, _⟩ := hS
  rw [h] at h2; simp at h2
theorem chs {w : World} {u : Nat} (a b c : Value) : Ch (fun k => k = u) w (((w.setCell ⟨u, 0, none⟩ a).setCell ⟨u, 1, none⟩ b).setCell ⟨u, 2, none⟩ c) := (((Ch.refl (fun k => k = u) w).set _ _ (Or.inl rfl)).set _ _ (Or.inl rfl)).set _ _ (Or.inl rfl)
theorem St.sv {w : World} {c : Cs} {S : Nat → Nat → Int} {need sg rb vb ub : Nat} {v u : Array Value} {W : World} (h : St w c S need sg rb vb ub v u W) (hs : v.size = 3) (p q r : Value) : St w c S need sg rb vb ub #[p, q, r] u (((W.setCell ⟨vb, 0, none⟩ p).setCell ⟨vb, 1, none⟩ q).setCell ⟨vb, 2, none⟩ r) := by
  have n1 := ne_cb h.hC h.hV
  have n2 := ne_sr h.hR h.hV
  have n3 := ne_sp h.hS h.hV
  have n4 := h.hne
  have hc : Ch (fun k => k = vb) W (((W.setCell ⟨vb, 0, none⟩ p).setCell ⟨vb, 1, none⟩ q).setCell ⟨vb, 2, none⟩ r) := chs p q r
  refine ⟨(hc.block _ h.hC.lt n1).trans h.hC, h.hR.of (hc.block _ h.hR.lt n2), h.hS.of (hc.block _ h.hS.lt n3), ?_, (hc.block _ (lt_of_some h.hU) (fun e => n4 e.symm)).trans h.hU, h.hB.trans (hc.below (fun k hk e => by have := h.gv; omega) h.hB.size), h.gv, h.gu, h.hne⟩
  rw [sets3 h.hV hs]
  exact setRow_heap _ _ _ _ _ _ h.hV
theorem St.su {w : World} {c : Cs} {S : Nat → Nat → Int} {need sg rb vb ub : Nat} {v u : Array Value} {W : World} (h : St w c S need sg rb vb ub v u W) (hs : u.size = 3) (p q r : Value) : St w c S need sg rb vb ub v #[p, q, r] (((W.setCell ⟨ub, 0, none⟩ p).setCell ⟨ub, 1, none⟩ q).setCell ⟨ub, 2, none⟩ r) := by
  have n1 := ne_cb h.hC h.hU
  have n2 := ne_sr h.hR h.hU
  have n3 := ne_sp h.hS h.hU
  have n4 := h.hne
  have hc : Ch (fun k => k = ub) W (((W.setCell ⟨ub, 0, none⟩ p).setCell ⟨ub, 1, none⟩ q).setCell ⟨ub, 2, none⟩ r) := chs p q r
  refine ⟨(hc.block _ h.hC.lt n1).trans h.hC, h.hR.of (hc.block _ h.hR.lt n2), h.hS.of (hc.block _ h.hS.lt n3), (hc.block _ (lt_of_some h.hV) n4).trans h.hV, ?_, h.hB.trans (hc.below (fun k hk e => by have := h.gu; omega) h.hB.size), h.gv, h.gu, h.hne⟩
  rw [sets3 h.hU hs]
  exact setRow_heap _ _ _ _ _ _ h.hU
/-- Behind an audit: only the room's block may have changed. -/
theorem St.ch {w : World} {c : Cs} {S : Nat → Nat → Int} {need sg rb vb ub : Nat} {v u : Array Value} {wB W W' : World} (h : St w c S need sg rb vb ub v u wB) (hb : Below wB.heap.size wB W) (hc : Ch (fun k => k = rb) W W') (h1 : Cb W' w.heap.size c) (h2 : SR W' sg (c.sn + 2) (Au.mk c.sn c.sn S)) (h3 : Sp W' rb need (rm c)) (h4 : Below w.heap.size w W') : St w c S need sg rb vb ub v u W' := by
  have h' := h.b hb
  exact ⟨h1, h2, h3, (hc.block _ (lt_of_some h'.hV) (fun e => ne_sp h'.hS h'.hV e.symm)).trans h'.hV, (hc.block _ (lt_of_some h'.hU) (fun e => ne_sp h'.hS h'.hU e.symm)).trans h'.hU, h4, h.gv, h.gu, h.hne⟩
theorem row_at (w : World) (s : Int) (src q : Nat) (hs : s = (src : Int)) (hq : q = w.heap.size) : Row1 (w.alloc (.cells #[.int .u32 s] 22)) (some ⟨q, 0, none⟩) [src] := fun _ => by
  subst hq hs
  refine ⟨_, rfl, by simp, fun i q hq => ?_⟩
  match i, hq with
  | 0, hq =>
    obtain rfl : src = q := by simpa using hq
    exact (cell_of_row _ _ _ _ _ _ (at0 _ _)).trans rfl
theorem Row1.dr {w : World} {a : Option Addr} {Q : List Nat} (h : Row1 w a Q) : Row1 w.drew a Q := h
theorem f35 {w : World} {vb : Nat} {v : Array Value} (h : w.heap[vb]? = some (.cells v 35 (0, 0))) : w.frozen? ⟨vb, 0, none⟩ = false ∧ w.frozen? ⟨vb, 1, none⟩ = false ∧ w.frozen? ⟨vb, 2, none⟩ = false := ⟨frozen_of_row _ _ _ _ _ h, frozen_of_row _ _ _ _ _ h, frozen_of_row _ _ _ _ _ h⟩
end Au
end Go.Proofs.Ytcepfmeoeepjdab
