import Derived.Test.YtcolkfoodjpdjaaRlG
namespace Go.Proofs.Ytcolkfoodjpdjaa
namespace Rl
open Go.RowKit Ra
set_option linter.unusedVariables false
/-- A block of two cells. -/
def B2 (W : World) (g : Nat) (p q : Value) (t : TypeId) : Prop := W.heap[g]? = some (.cells #[p, q] t (0, 0))
theorem B2.lt {W : World} {g : Nat} {p q : Value} {t : TypeId} (h : B2 W g p q t) : g < W.heap.size := (Array.getElem?_eq_some_iff.1 h).1
theorem B2.c0 {W : World} {g : Nat} {p q : Value} {t : TypeId} (h : B2 W g p q t) : W.cell? ⟨g, 0, none⟩ = some p := by simp [World.cell?, show W.heap[g]? = _ from h]
theorem B2.c1 {W : World} {g : Nat} {p q : Value} {t : TypeId} (h : B2 W g p q t) : W.cell? ⟨g, 1, none⟩ = some q := by simp [World.cell?, show W.heap[g]? = _ from h]
theorem B2.f1 {W : World} {g : Nat} {p q : Value} {t : TypeId} (h : B2 W g p q t) : W.frozen? ⟨g, 1, none⟩ = false := by simp [World.frozen?, show W.heap[g]? = _ from h]
theorem B2.new (W : World) (p q : Value) (t : TypeId) : B2 (W.alloc (.cells #[p, q] t)) W.heap.size p q t := World.alloc_heap_new W _
theorem B2.alloc {W : World} {g : Nat} {p q : Value} {t : TypeId} (h : B2 W g p q t) (o : Obj) : B2 (W.alloc o) g p q t := (Below.heap_alloc W o g h.lt).trans h
theorem B2.on {W W' : World} {g : Nat} {p q : Value} {t : TypeId} (h : B2 W g p q t) (hb : Below W.heap.size W W') : B2 W' g p q t := (hb.block g h.lt).trans h
theorem B2.set1 {W : World} {g : Nat} {p q : Value} {t : TypeId} (h : B2 W g p q t) (u : Value) : B2 (W.setCell ⟨g, 1, none⟩ u) g p u t := by
  obtain ⟨hlt, hk⟩ := Array.getElem?_eq_some_iff.1 h
  show (W.heap.modify g _)[g]? = _
  rw [Array.getElem?_eq_getElem (by rw [Array.size_modify]; exact hlt), Array.getElem_modify_self, hk]
  rfl
theorem B2.other {W : World} {g g' j : Nat} {p q : Value} {t : TypeId} (h : B2 W g p q t) (hne : g ≠ g') (u : Value) : B2 (W.setCell ⟨g', j, none⟩ u) g p q t := (Below.heap_setCell _ _ _ g hne).trans h
theorem B2.grown {W W' : World} {g : Nat} {p q : Value} {t : TypeId} {row : Option Nat} (h : B2 W g p q t) (hg : W.grownBy W' row) (hne : some g ≠ row) : B2 W' g p q t := (hg.block g h.lt hne).trans h
theorem B2.not_own {W : World} {g : Nat} {p q : Value} {t e : TypeId} (h : B2 W g p q t) (hte : t ≠ e) {base size k : Nat} {v : Value} {xs : List Value} (hr : W.ownsRow base e size v k xs) : some g ≠ v.ownBlock := not_row h hte hr
theorem own_setCell {w : World} {B e s n g j : Nat} {u x : Value} {xs : List Value} (h : w.ownsRow B e s u n xs) (hne : some g ≠ u.ownBlock) : (w.setCell ⟨g, j, none⟩ x).ownsRow B e s u n xs := by
  refine h.kept (row := some g) ⟨rfl, rfl, rfl, by simp, fun k _ hk => Below.heap_setCell _ _ _ k (fun e => hk (by rw [e]))⟩ ?_
  cases hb : u.ownBlock with
  | none => exact .inl rfl
  | some k => exact .inr (fun e => hne (by rw [hb]; exact e.symm))
theorem layE_zero (E F : Nat → En) (l : Nat) : layE E l F 0 = el E l := by
  show p1 E F 0 l ++ [] = _
  rw [List.append_nil]
  induction l with
  | zero => rfl
  | succ l ih => show p1 E F 0 l ++ [upd E F 0 l] = _; rw [ih, el_succ]; rfl
/-- What stands while the document's answer lays a section's entries. -/
structure IL (w : World) (M : Nat) (nk mnm : ByteArray) (b : Option Addr) (mj d : Nat) (L : List En) (v : Value) (wi : World) : Prop where
  t : B2 wi (M + 1) (.string nk) v 37
  m : B2 wi M (.string mnm) (.slice b mj d) 37
  r : LR wi M v L
  b : Below M w wi
theorem IL.size {w wi : World} {M : Nat} {nk mnm : ByteArray} {b : Option Addr} {mj d : Nat} {L : List En} {v : Value} (h : IL w M nk mnm b mj d L v wi) : M + 1 < wi.heap.size := h.t.lt
/-- An entry more: behind the append and the store. -/
theorem IL.step {w X w1 : World} {M n : Nat} {nk mnm : ByteArray} {b : Option Addr} {mj d : Nat} {L : List En} {x : En} {v v' : Value} (hM : M = w.heap.size) (h : IL w M nk mnm b mj d L v X) (hn : L.length = n)
    (hown : w1.ownsRow M 31 2 v' (n + 1) (lc L ++ [.string x.1, .string x.2])) (hg : X.grownBy w1 v.ownBlock) :
    (w1.cell? ⟨M + 1, 1, none⟩ = some v ∧ w1.frozen? ⟨M + 1, 1, none⟩ = false) ∧ IL w M nk mnm b mj d (L ++ [x]) v' (w1.setCell ⟨M + 1, 1, none⟩ v') := by
  have ht := h.t.grown hg (h.t.not_own (by decide) h.r)
  have hm := h.m.grown hg (h.m.not_own (by decide) h.r)
  refine ⟨⟨ht.c1, ht.f1⟩, ht.set1 v', hm.other (by omega) v', LR.snoc hn (own_setCell hown (ht.not_own (by decide) hown)), ?_⟩
  have := h.size
  exact (h.b.grown hg (by omega) (fun j hj => (World.ownsRow.lt h.r j hj).1)).setCell (p := ⟨M + 1, 1, none⟩) (by simp) v'
theorem IL.alloc {w wi : World} {M : Nat} {nk mnm : ByteArray} {b : Option Addr} {mj d : Nat} {L : List En} {v : Value} (h : IL w M nk mnm b mj d L v wi) (o : Obj) : IL w M nk mnm b mj d L v (wi.alloc o) :=
  ⟨h.t.alloc o, h.m.alloc o, World.ownsRow.alloc h.r o, h.b.alloc (by have := h.size; omega) o⟩
theorem IL.set {w wi : World} {M g j : Nat} {nk mnm : ByteArray} {b : Option Addr} {mj d : Nat} {L : List En} {v u : Value} (h : IL w M nk mnm b mj d L v wi) (hg : M + 1 < g) (hr : some g ≠ v.ownBlock) : IL w M nk mnm b mj d L v (wi.setCell ⟨g, j, none⟩ u) :=
  ⟨h.t.other (by omega) u, h.m.other (by omega) u, own_setCell h.r hr, h.b.setCell (p := ⟨g, j, none⟩) (by show M ≤ g; omega) u⟩
theorem IL.drawn {w wi : World} {M : Nat} {nk mnm : ByteArray} {b : Option Addr} {mj d : Nat} {L : List En} {v : Value} (h : IL w M nk mnm b mj d L v wi) (n : Nat) : IL w M nk mnm b mj d L v (wi.drewN n) :=
  ⟨h.t, h.m, h.r, below_drew h.b n⟩
end Rl
end Go.Proofs.Ytcolkfoodjpdjaa
