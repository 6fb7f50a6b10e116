import Derived.Test.YtgoigcpdfecfhaaGreatDoorCsA
namespace Go.Proofs.YtgoigcpdfecfhaaGreatDoor
namespace Au
open Go.RowKit
set_option linter.unusedVariables false
set_option maxRecDepth 8000
theorem rnd_hi (m e : Int) : 0 ≤ Rd.rnd false m e ∧ Rd.rnd false m e < 4294967296 := by
  refine ⟨Kt.rnd_nn m e, ?_⟩
  unfold Rd.rnd Rd.sg
  simp only [Bool.false_eq_true, if_false]
  split
  · omega
  · split <;> omega
theorem siz_b (z : Int) : 0 ≤ Kt.siz z ∧ Kt.siz z < 4294967296 := rnd_hi _ _
theorem gu_own {W : World} {B n : Nat} {v : Value} {G : Nat → Int} (h : W.ownsRow B 28 1 v n ((List.range' 0 n).map (fun j => .int .u64 (G j)))) (hn : 0 < n) : ∃ g c, v = .slice (some ⟨g, 0, none⟩) n c ∧ B ≤ g ∧ GU W g n G := by
  rcases h.2 with ⟨_, h0⟩ | ⟨g, cap, cur, h1, h2, h3, h4, h5, h6, h7⟩
  · omega
  · refine ⟨g, cap, h1, h2, cur, h3, fun v hv => ?_⟩
    have : (cur.toList.take (n * 1))[v]? = some (.int .u64 (G v)) := by
      rw [h7, List.getElem?_map, List.getElem?_range' hv]; simp
    rw [List.getElem?_take, if_pos (by omega)] at this
    simpa using this
theorem info_w : ∃ i0, Tryz.prog.info? 28 = some i0 ∧ i0.zero = some (.int .u64 0) ∧ i0.size = 1 ∧ i0.bytes = 8 := by
  have h := infoW
  cases hh : Tryz.prog.info? 28 with
  | none => rw [hh] at h; cases h
  | some i => rw [hh] at h; simp at h; exact ⟨i, rfl, h.1, h.2.1, h.2.2⟩
/-- A list behind nothing: a list of its own. -/
theorem wpList_dup {w : World} {ops : Array Oper} {rest : List Oper} {o : Oper} {a : Act} {Q : Exit → Act → World → Prop} (hgd : o.guard = none) (s x : Operand)
    (ho : o.op = .call { callee := .builtin .append, args := #[s, x], argTypes := #[32, 32] }) (eb g n cap : Nat) (G : Nat → Int) (hs : a.eval s = .slice (some ⟨eb, 0, none⟩) 0 0) (he : w.heap[eb]? = some (.cells #[] 28 (0, 0)))
    (hx : a.eval x = .slice (some ⟨g, 0, none⟩) n cap) (hG : GU w g n G) (hge : g < eb) (hn : 0 < n) (hn2 : n ≤ 5000)
    (h : ∀ h c w', GU w' h n G → eb ≤ h → Ch (fun k => k = eb) w w' → wpList Tryz.prog ops Q rest (a.put o.dst (.slice (some ⟨h, 0, none⟩) n c)) w') : wpList Tryz.prog ops Q (o :: rest) a w := by
  obtain ⟨i0, hi, hz0, hz1, hz2⟩ := info_w
  have hel := lt_of_some he
  refine wpList_append_own_at w hgd s x 32 ho eb 28 i0 (.int .u64 0) 1 8 Tryz.underlying32 hi hz0 hz1 hz2 rfl (by decide) (.slice (some ⟨eb, 0, none⟩) 0 0) 0 [] hs ⟨rfl, .inr ⟨eb, 0, #[], rfl, Nat.le_refl _, he, Nat.le_refl _, by decide, rfl, rfl⟩⟩ ⟨g, 0, none⟩ n cap ((List.range' 0 n).map (fun j => .int .u64 (G j))) hx (by simp) (fun j u hj => ?_) (fun u hu => ?_) (by unfold maxLen; omega) (by omega) (by omega) (fun v' w' h2 h3 _ h5 => ?_)
  · have hjn : j < n := by have := (List.getElem?_eq_some_iff.1 hj).1; simpa using this
    rw [add0, hG.cell j hjn]
    rw [List.getElem?_map, List.getElem?_range' hjn] at hj
    simpa using hj
  · simp only [List.mem_map] at hu
    obtain ⟨j, _, rfl⟩ := hu
    rfl
  · rw [Nat.zero_add, List.nil_append] at h2
    obtain ⟨h', c, rfl, hb, hg⟩ := gu_own h2 hn
    have hc : Ch (fun k => k = eb) w w' := ⟨h3.os, h3.tape, h3.output, h3.size, fun k hk hne => h3.block k hk (fun e => hne (by simpa [Value.ownBlock] using e))⟩
    exact h h' c w' hg hb hc
/-- What the document's sets carry. -/
structure Hs (w : World) (n u : Nat) (P : Nat → Int) (W : World) : Prop where
  r : W.heap[w.heap.size]? = some (.cells z8 59 (0, 0))
  g : GU W u n P
  o : w.heap.size < u
  b : Below w.heap.size w W
theorem Hs.on {X : Nat → Prop} {w : World} {n g : Nat} {P : Nat → Int} {W W' : World} (h : Hs w n g P W) (hC : Ch X W W') (hx : ∀ k, k ≤ w.heap.size ∨ k = g → ¬ X k) : Hs w n g P W' :=
  ⟨(hC.block _ (lt_of_some h.r) (hx _ (Or.inl (Nat.le_refl _)))).trans h.r, h.g.of (hC.block _ h.g.lt (hx _ (Or.inr rfl))), h.o, h.b.trans (hC.below (fun k hk => hx k (Or.inl (by omega))) h.b.size)⟩
theorem Hs.set {w : World} {n g : Nat} {P : Nat → Int} {W : World} (h : Hs w n g P W) (j : Nat) (x : Int) : Hs w n g (up P j x) (W.setCell ⟨g, j, none⟩ (.int .u64 x)) := by
  have hC : Ch (fun k => k = g) W (W.setCell ⟨g, j, none⟩ (.int .u64 x)) := (Ch.refl _ _).set _ _ (Or.inl rfl)
  have ho := h.o
  exact ⟨(hC.block _ (lt_of_some h.r) (by omega)).trans h.r, (h.g.set j x).1, h.o, h.b.trans (hC.below (fun k hk => by omega) h.b.size)⟩
end Au
end Go.Proofs.YtgoigcpdfecfhaaGreatDoor
