import Derived.Test.YtlhpnhjfibkgpabWrA
namespace Go.Proofs.Ytlhpnhjfibkgpab
namespace Wp
open Go.RowKit
set_option linter.unusedVariables false
set_option maxRecDepth 8000
def Tp3 (t e : TypeId) : Prop := Try.prog.underlying t = some (.slice e) ∧ ∃ i z, Try.prog.info? e = some i ∧ i.zero = some z ∧ i.size = 3 ∧ i.bytes = 12 ∧ z.cells.size = 3
theorem infoE3 : (Try.prog.info? 53).map (fun i => (i.zero, i.size, i.bytes)) = some (some (.agg (ev 0 0 0)), 3, 12) := by kernel_rfl
theorem tp3 : Tp3 22 53 := by
  refine ⟨Try.underlying22, ?_⟩
  have h := infoE3
  cases hh : Try.prog.info? 53 with
  | none => rw [hh] at h; cases h
  | some i =>
    rw [hh] at h
    simp at h
    exact ⟨i, .agg (ev 0 0 0), rfl, h.1, h.2.1, h.2.2, rfl⟩
theorem wpList_append3 {t e : TypeId} (hT : Tp3 t e) {w : World} {ops : Array Oper} {rest : List Oper} {o : Oper} {a : Act} {Q : Exit → Act → World → Prop} (hgd : o.guard = none) (s x : Operand)
    (ho : o.op = .call { callee := .builtin .append, args := #[s, x], argTypes := #[t, t] }) (base : Nat) (v : Value) (n : Nat) (xs : List Value) (ad : Addr) (c : Nat) (news : List Value) (hs : a.eval s = v) (hown : w.ownsRow base e 3 v n xs)
    (hx : a.eval x = .slice (some ad) 1 c) (hl : news.length = 3) (hc : ∀ j u, news[j]? = some u → w.cell? (ad.add j) = some u) (h1 : ∀ u ∈ news, u.oneCell' = true) (h63 : (n + 1) * 12 ≤ 140737488355328) (hbase : base ≤ w.heap.size)
    (h : ∀ v' w', w'.ownsRow base e 3 v' (n + 1) (xs ++ news) → w.grownBy w' v.ownBlock → wpList Try.prog ops Q rest (a.put o.dst v') w') : wpList Try.prog ops Q (o :: rest) a w := by
  obtain ⟨hu, i0, z, hi, hz0, hz1, hz2, hz3⟩ := hT
  exact wpList_append_own_at w hgd s x t ho base e i0 z 3 12 hu hi hz0 hz1 hz2 hz3 (by decide) v n xs hs hown ad 1 c news hx (by omega) hc h1 (by unfold maxLen; omega) h63 hbase (fun v' w' h2 h3 _ h5 => h v' w' h2 h3)
/-- The cells of the first k edges. -/
def ce (E : Nat → Int × Int × Int) : Nat → List Value
  | 0 => []
  | k + 1 => ce E k ++ (ev (E k).1 (E k).2.1 (E k).2.2).toList
theorem ce_len (E : Nat → Int × Int × Int) (k : Nat) : (ce E k).length = k * 3 := by
  induction k with
  | zero => rfl
  | succ k ih => simp only [ce, List.length_append, ih]; simp; omega
theorem ce_get (E : Nat → Int × Int × Int) (k i : Nat) (hi : i < k) : (ce E k)[i * 3]? = some (.int .u32 (E i).1) ∧ (ce E k)[i * 3 + 1]? = some (.int .u32 (E i).2.1) ∧ (ce E k)[i * 3 + 2]? = some (.int .u32 (E i).2.2) := by
  induction k with
  | zero => omega
  | succ k ih =>
    simp only [ce]
    by_cases h : i < k
    · rw [List.getElem?_append_left (by rw [ce_len]; omega), List.getElem?_append_left (by rw [ce_len]; omega), List.getElem?_append_left (by rw [ce_len]; omega)]
      exact ih h
    · have hk : i = k := by omega
      subst hk
      rw [List.getElem?_append_right (by rw [ce_len]; omega), List.getElem?_append_right (by rw [ce_len]; omega), List.getElem?_append_right (by rw [ce_len]; omega), ce_len, show i * 3 - i * 3 = 0 by omega, show i * 3 + 1 - i * 3 = 1 by omega, show i * 3 + 2 - i * 3 = 2 by omega]
      exact ⟨rfl, rfl, rfl⟩
theorem own_er {w : World} {B : Nat} {v : Value} {n : Nat} {E : Nat → Int × Int × Int} (h : w.ownsRow B 53 3 v n (ce E n)) : ∃ a c, v = .slice a n c ∧ ERow w a n E ∧ (∀ b, a = some b → B ≤ b.block) := by
  obtain ⟨h1, h2⟩ := h
  rcases h2 with ⟨rfl, h0⟩ | ⟨g, cap, cur, rfl, h3, h4, h5, h6, h7, h8⟩
  · subst h0; exact ⟨none, 0, rfl, fun h => by omega, fun b h => by cases h⟩
  · refine ⟨_, cap, rfl, fun _ => ⟨g, rfl, (Array.getElem?_eq_some_iff.1 h4).1, fun i hi => ?_⟩, fun b hb => by cases hb; exact h3⟩
    obtain ⟨c1, c2, c3⟩ := ce_get E n i hi
    rw [← h8, List.getElem?_take, if_pos (by omega)] at c1 c2 c3
    refine ⟨?_, ?_, ?_⟩
    · exact (cell_of_row w g _ _ 53 (0, 0) h4).trans (by simpa using c1)
    · exact (cell_of_row w g _ _ 53 (0, 0) h4).trans (by simpa using c2)
    · exact (cell_of_row w g _ _ 53 (0, 0) h4).trans (by simpa using c3)
/-- A list of edges that came in. -/
def IRow (w : World) (a : Option Addr) (m : Nat) (E : Nat → Int × Int × Int) : Prop := 0 < m → ∃ x, a = some x ∧ x.block < w.heap.size ∧ ∀ i, i < m → w.cell? (x.add (i * 3)) = some (.int .u32 (E i).1) ∧ w.cell? ⟨(x.add (i * 3)).block, (x.add (i * 3)).off + 1, none⟩ = some (.int .u32 (E i).2.1) ∧ w.cell? ⟨(x.add (i * 3)).block, (x.add (i * 3)).off + 2, none⟩ = some (.int .u32 (E i).2.2)
theorem add_block (x : Addr) (i : Nat) : (x.add i).block = x.block := by unfold Addr.add; split <;> rfl
theorem IRow.on {w w' : World} {a : Option Addr} {m : Nat} {E : Nat → Int × Int × Int} (h : IRow w a m E) (hb : Below w.heap.size w w') : IRow w' a m E := fun h0 => by
  obtain ⟨x, rfl, h1, h2⟩ := h h0
  refine ⟨x, rfl, Nat.lt_of_lt_of_le h1 hb.size, fun i hi => ⟨?_, ?_, ?_⟩⟩
  · exact (hb.cell (by rw [add_block]; exact h1)).trans (h2 i hi).1
  · exact (hb.cell (p := ⟨(x.add (i * 3)).block, (x.add (i * 3)).off + 1, none⟩) (by show (x.add (i * 3)).block < _; rw [add_block]; exact h1)).trans (h2 i hi).2.1
  · exact (hb.cell (p := ⟨(x.add (i * 3)).block, (x.add (i * 3)).off + 2, none⟩) (by show (x.add (i * 3)).block < _; rw [add_block]; exact h1)).trans (h2 i hi).2.2
/-- The graph's edges, as list tells them. -/
def le1 (N : Int) (E : Nat → Int × Int × Int) : Nat → Int × Int × Int := fun i => ((E i).1 % (gz N : Int), (E i).2.1 % (gz N : Int), 0)
theorem le1_in (N : Int) (m : Nat) (E : Nat → Int × Int × Int) : EIn (gz N) m (le1 N E) := fun i hi => by
  have h := (gz_b N).1
  have h1 := Int.emod_nonneg (E i).1 (show (gz N : Int) ≠ 0 by omega)
  have h2 := Int.emod_lt_of_pos (E i).1 (show (0 : Int) < gz N by omega)
  have h3 := Int.emod_nonneg (E i).2.1 (show (gz N : Int) ≠ 0 by omega)
  have h4 := Int.emod_lt_of_pos (E i).2.1 (show (0 : Int) < gz N by omega)
  exact ⟨((E i).1 % (gz N : Int)).toNat, ((E i).2.1 % (gz N : Int)).toNat, by show (E i).1 % (gz N : Int) = _; omega, by show (E i).2.1 % (gz N : Int) = _; omega, by omega, by omega⟩
end Wp
end Go.Proofs.Ytlhpnhjfibkgpab
