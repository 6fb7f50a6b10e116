import Derived.Test.YteegfadhfimlcaaGreatDoorNzLj
import Derived.Test.YteegfadhfimlcaaGreatDoorNzL6
import Derived.Test.YteegfadhfimlcaaGreatDoorNzLa
import Derived.Test.YteegfadhfimlcaaGreatDoorNzLb
import Derived.Test.YteegfadhfimlcaaGreatDoorNzLc
import Derived.Test.YteegfadhfimlcaaGreatDoorNzLd
import Derived.Test.YteegfadhfimlcaaGreatDoorNzL8
import Derived.Test.YteegfadhfimlcaaGreatDoorNzL9
import Derived.Test.YteegfadhfimlcaaGreatDoorNzLe
import Derived.Test.YteegfadhfimlcaaGreatDoorNzLf
import Derived.Test.YteegfadhfimlcaaGreatDoorNzLg
import Derived.Test.YteegfadhfimlcaaGreatDoorNzLh
namespace Go.Proofs.YteegfadhfimlcaaGreatDoor
namespace Rn
open Go.RowKit
set_option linter.unusedVariables false
set_option maxRecDepth 8000
/-- Behind k answers: the verdicts, the errors. -/
def zl : Nat → List Value
  | 0 => []
  | k + 1 => zl k ++ z3.toList
def ol : Nat → List Value
  | 0 => []
  | k + 1 => ol k ++ [.int .i64 1]
theorem zl_len (k : Nat) : (zl k).length = k * 3 := by induction k with | zero => rfl | succ k ih => simp only [zl, List.length_append, ih]; simp; omega
theorem ol_len (k : Nat) : (ol k).length = k := by induction k with | zero => rfl | succ k ih => simp [ol, ih]
theorem zl_get (k i : Nat) (hi : i < k) : (zl k)[i * 3]? = some (.bool false) ∧ (zl k)[i * 3 + 1]? = some (.int .u32 0) ∧ (zl k)[i * 3 + 2]? = some (.int .i64 0) := by
  induction k with
  | zero => omega
  | succ k ih =>
    have hl := zl_len k
    by_cases e : i < k
    · obtain ⟨a, b, c⟩ := ih e
      refine ⟨?_, ?_, ?_⟩ <;> (simp only [zl]; rw [List.getElem?_append_left (by omega)]; assumption)
    · obtain rfl : i = k := by omega
      refine ⟨?_, ?_, ?_⟩ <;> (simp only [zl]; rw [List.getElem?_append_right (by omega), hl])
      · simp
      · rw [show i * 3 + 1 - i * 3 = 1 by omega]; rfl
      · rw [show i * 3 + 2 - i * 3 = 2 by omega]; rfl
theorem ol_get (k i : Nat) (hi : i < k) : (ol k)[i]? = some (.int .i64 1) := by
  induction k with
  | zero => omega
  | succ k ih =>
    have hl := ol_len k
    by_cases e : i < k
    · simp only [ol]; rw [List.getElem?_append_left (by omega)]; exact ih e
    · obtain rfl : i = k := by omega
      simp only [ol]; rw [List.getElem?_append_right (by omega), hl]; simp
theorem infoV : (Tryz.prog.info? 36).map (fun i => (i.zero, i.size, i.bytes)) = some (some (.agg z3), 3, 16) := by kernel_rfl
theorem info_v : ∃ i0, Tryz.prog.info? 36 = some i0 ∧ i0.zero = some (.agg z3) ∧ i0.size = 3 ∧ i0.bytes = 16 := by
  have h := infoV
  cases hh : Tryz.prog.info? 36 with
  | none => rw [hh] at h; cases h
  | some i => rw [hh] at h; simp at h; exact ⟨i, rfl, h.1, h.2.1, h.2.2⟩
theorem infoE : (Tryz.prog.info? 37).map (fun i => (i.zero, i.size, i.bytes)) = some (some (.int .i64 0), 1, 8) := by kernel_rfl
theorem info_e : ∃ i0, Tryz.prog.info? 37 = some i0 ∧ i0.zero = some (.int .i64 0) ∧ i0.size = 1 ∧ i0.bytes = 8 := by
  have h := infoE
  cases hh : Tryz.prog.info? 37 with
  | none => rw [hh] at h; cases h
  | some i => rw [hh] at h; simp at h; exact ⟨i, rfl, h.1, h.2.1, h.2.2⟩
theorem wpList_appendV {w : World} {ops : Array Oper} {rest : List Oper} {o : Oper} {a : Act} {Q : Exit → Act → World → Prop} (hgd : o.guard = none) (s x : Operand)
    (ho : o.op = .call { callee := .builtin .append, args := #[s, x], argTypes := #[33, 33] }) (base : Nat) (v : Value) (n : Nat) (xs : List Value) (ad : Addr) (c : Nat) (hs : a.eval s = v) (hown : w.ownsRow base 36 3 v n xs)
    (hx : a.eval x = .slice (some ad) 1 c) (hc : ∀ j u, z3.toList[j]? = some u → w.cell? (ad.add j) = some u) (h63 : n ≤ 1000) (hbase : base ≤ w.heap.size)
    (h : ∀ v' w', w'.ownsRow base 36 3 v' (n + 1) (xs ++ z3.toList) → w.grownBy w' v.ownBlock → (v'.ownBlock = v.ownBlock ∨ v'.ownBlock = some w.heap.size) → wpList Tryz.prog ops Q rest (a.put o.dst v') w') : wpList Tryz.prog ops Q (o :: rest) a w := by
  obtain ⟨i0, hi, hz0, hz1, hz2⟩ := info_v
  exact wpList_append_own_at w hgd s x 33 ho base 36 i0 (.agg z3) 3 16 Tryz.underlying33 hi hz0 hz1 hz2 rfl (by decide) v n xs hs hown ad 1 c z3.toList hx rfl hc (fun u hu => by simp at hu; rcases hu with rfl | rfl | rfl <;> rfl) (by unfold maxLen; omega) (by omega) hbase (fun v' w' h2 h3 _ h5 => h v' w' h2 h3 h5)
theorem wpList_appendE {w : World} {ops : Array Oper} {rest : List Oper} {o : Oper} {a : Act} {Q : Exit → Act → World → Prop} (hgd : o.guard = none) (s x : Operand)
    (ho : o.op = .call { callee := .builtin .append, args := #[s, x], argTypes := #[34, 34] }) (base : Nat) (v : Value) (n : Nat) (xs : List Value) (ad : Addr) (c : Nat) (hs : a.eval s = v) (hown : w.ownsRow base 37 1 v n xs)
    (hx : a.eval x = .slice (some ad) 1 c) (hc : w.cell? ad = some (.int .i64 1)) (h63 : n ≤ 1000) (hbase : base ≤ w.heap.size)
    (h : ∀ v' w', w'.ownsRow base 37 1 v' (n + 1) (xs ++ [.int .i64 1]) → w.grownBy w' v.ownBlock → (v'.ownBlock = v.ownBlock ∨ v'.ownBlock = some w.heap.size) → wpList Tryz.prog ops Q rest (a.put o.dst v') w') : wpList Tryz.prog ops Q (o :: rest) a w := by
  obtain ⟨i0, hi, hz0, hz1, hz2⟩ := info_e
  exact wpList_append_own_at w hgd s x 34 ho base 37 i0 (.int .i64 0) 1 8 Tryz.underlying34 hi hz0 hz1 hz2 rfl (by decide) v n xs hs hown ad 1 c [.int .i64 1] hx rfl (fun j u hj => by
    match j, hj with
    | 0, hj => simp at hj; subst hj; rw [show ad.add 0 = ad from by unfold Addr.add; cases ad; simp]; exact hc) (fun u hu => by simp at hu; subst hu; rfl) (by unfold maxLen; omega) (by omega) hbase (fun v' w' h2 h3 _ h5 => h v' w' h2 h3 h5)
theorem own_below {w w' : World} {B : Nat} {t : TypeId} {q : Nat} {v : Value} {n : Nat} {xs : List Value} (h : w.ownsRow B t q v n xs) (hb : Below w.heap.size w w') : w'.ownsRow B t q v n xs := by
  refine ⟨h.1, ?_⟩
  rcases h.2 with h0 | ⟨g, cap, cur, h1, h2, h3, h4⟩
  · exact .inl h0
  · exact .inr ⟨g, cap, cur, h1, h2, (hb.block g (Array.getElem?_eq_some_iff.1 h3).1).trans h3, h4⟩
/-- What the law's walk carries: the case, the verdict's cells, both lists. -/
structure Ln (C : Array Value) (w : World) (vb k m : Nat) (v u : Value) (W : World) : Prop where
  c : W.heap[w.heap.size]? = some (.cells C 30 (0, 0))
  z : W.heap[vb]? = some (.cells z3 36 (0, 0))
  l : W.ownsRow (vb + 1) 36 3 v k (zl k)
  e : W.ownsRow (vb + 1) 37 1 u m (ol m)
  n : ∀ j, v.ownBlock = some j → u.ownBlock ≠ some j
  lt : w.heap.size < vb
  b : Below w.heap.size w W
theorem Ln.vs {C : Array Value} {w : World} {vb k m : Nat} {v u : Value} {W : World} (h : Ln C w vb k m v u W) : vb + 1 ≤ W.heap.size := (Array.getElem?_eq_some_iff.1 h.z).1
theorem Ln.call {C : Array Value} {w : World} {vb k m : Nat} {v u : Value} {W W' : World} (h : Ln C w vb k m v u W) (hb : Below W.heap.size W W') : Ln C w vb k m v u W' :=
  ⟨(hb.block _ (Array.getElem?_eq_some_iff.1 h.c).1).trans h.c, (hb.block _ (Array.getElem?_eq_some_iff.1 h.z).1).trans h.z, own_below h.l hb, own_below h.e hb, h.n, h.lt, h.b.trans (hb.mono h.b.size)⟩
theorem Ln.set {C : Array Value} {w : World} {vb k m : Nat} {v u : Value} {W : World} (h : Ln C w vb k m v u W) : Ln C w vb k m v u (((W.setCell ⟨vb, 0, none⟩ (.bool false)).setCell ⟨vb, 1, none⟩ (.int .u32 0)).setCell ⟨vb, 2, none⟩ (.int .i64 0)) := by
  refine ⟨?_, ?_, ownsRow_setCell_below (ownsRow_setCell_below (ownsRow_setCell_below h.l (by show vb < vb + 1; omega) _) (by show vb < vb + 1; omega) _) (by show vb < vb + 1; omega) _, ownsRow_setCell_below (ownsRow_setCell_below (ownsRow_setCell_below h.e (by show vb < vb + 1; omega) _) (by show vb < vb + 1; omega) _) (by show vb < vb + 1; omega) _, h.n, h.lt, ?_⟩
  · rw [sets3 h.z rfl]; exact (setRow_other _ _ _ _ (Nat.ne_of_lt h.lt)).trans h.c
  · rw [sets3 h.z rfl]; exact setRow_heap _ _ _ _ _ _ h.z
  · rw [sets3 h.z rfl]; exact below_setRow h.b (Nat.le_of_lt h.lt) _
theorem Ln.appL {C : Array Value} {w : World} {vb k m : Nat} {v u v' : Value} {W W' : World} {o : Obj} (h : Ln C w vb k m v u W) (h1 : W'.ownsRow (vb + 1) 36 3 v' (k + 1) (zl k ++ z3.toList)) (h2 : (W.alloc o).grownBy W' v.ownBlock) (h5 : v'.ownBlock = v.ownBlock ∨ v'.ownBlock = some (W.alloc o).heap.size) : Ln C w vb (k + 1) m v' u W' := by
  have hb : ∀ j, j < vb + 1 → W'.heap[j]? = W.heap[j]? := fun j hj => (h2.block j (by have := h.vs; rw [World.size_alloc]; omega) (fun e => by have := (World.ownsRow.lt h.l j e.symm).1; omega)).trans (Below.heap_alloc W o j (by have := h.vs; omega))
  refine ⟨(hb _ (by have := h.lt; omega)).trans h.c, (hb vb (by omega)).trans h.z, h1, ?_, ?_, h.lt, ?_⟩
  · refine (h.e.alloc o).kept h2 ?_
    cases hu : u.ownBlock with
    | none => exact .inl rfl
    | some j => exact .inr (fun e => h.n j e.symm hu)
  · intro j hj hu
    rcases h5 with e | e
    · exact h.n j (e ▸ hj) hu
    · rw [e] at hj
      cases hj
      have := (World.ownsRow.lt h.e _ hu).2
      rw [World.size_alloc] at this; omega
  · exact (bA h.b h.b.size o).grown h2 (by have := h.b.size; rw [World.size_alloc]; omega) (fun j hj => by have := (World.ownsRow.lt h.l j hj).1; have := h.lt; omega)
theorem Ln.appE {C : Array Value} {w : World} {vb k m : Nat} {v u u' : Value} {W W' : World} {o : Obj} (h : Ln C w vb k m v u W) (h1 : W'.ownsRow (vb + 1) 37 1 u' (m + 1) (ol m ++ [.int .i64 1])) (h2 : (W.alloc o).grownBy W' u.ownBlock) (h5 : u'.ownBlock = u.ownBlock ∨ u'.ownBlock = some (W.alloc o).heap.size) : Ln C w vb k (m + 1) v u' W' := by
  have hb : ∀ j, j < vb + 1 → W'.heap[j]? = W.heap[j]? := fun j hj => (h2.block j (by have := h.vs; rw [World.size_alloc]; omega) (fun e => by have := (World.ownsRow.lt h.e j e.symm).1; omega)).trans (Below.heap_alloc W o j (by have := h.vs; omega))
  refine ⟨(hb _ (by have := h.lt; omega)).trans h.c, (hb vb (by omega)).trans h.z, ?_, h1, ?_, h.lt, ?_⟩
  · refine (h.l.alloc o).kept h2 ?_
    cases hv : v.ownBlock with
    | none => exact .inl rfl
    | some j => exact .inr (fun e => h.n j hv e.symm)
  · intro j hv hj
    rcases h5 with e | e
    · exact h.n j hv (e ▸ hj)
    · rw [e] at hj
      cases hj
      have := (World.ownsRow.lt h.l _ hv).2
      rw [World.size_alloc] at this; omega
  · exact (bA h.b h.b.size o).grown h2 (by have := h.b.size; rw [World.size_alloc]; omega) (fun j hj => by have := (World.ownsRow.lt h.e j hj).1; have := h.lt; omega)
theorem cellsV {W : World} {s : Nat} (hs : s = W.heap.size) : ∀ j u, z3.toList[j]? = some u → (W.alloc (.cells z3 36)).cell? ((⟨s, 0, none⟩ : Addr).add j) = some u := by
  subst hs
  intro j u hj
  rw [add0]
  exact (cell_of_row _ _ _ _ _ _ (at0 W (.cells z3 36))).trans (by simpa using hj)
theorem cellsE {W : World} {s : Nat} (hs : s = W.heap.size) (x : Value) : (W.alloc (.cells #[x] 37)).cell? ⟨s, 0, none⟩ = some x := by
  subst hs
  exact (cell_of_row _ _ _ _ _ _ (at0 W (.cells #[x] 37))).trans rfl
end Rn
end Go.Proofs.YteegfadhfimlcaaGreatDoor
