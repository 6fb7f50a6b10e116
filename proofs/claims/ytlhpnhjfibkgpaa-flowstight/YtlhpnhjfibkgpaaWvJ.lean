import Derived.Test.YtlhpnhjfibkgpaaWvI
import Derived.Test.YtlhpnhjfibkgpaaWsC
import Derived.Maps.AppendAt
import Derived.Laws.AppendOwnNone
namespace Go.Proofs.Ytlhpnhjfibkgpaa
namespace Wp
open Go.RowKit
set_option linter.unusedVariables false
set_option maxRecDepth 8000
/-- A list of numbers as it lies. -/
def GL (w : World) (b n : Nat) (G : Nat → Int) : Prop := ∃ C : Array Value, w.heap[b]? = some (.cells C 2 (0, 0)) ∧ ∀ v, v < n → C[v]? = some (.int .i64 (G v))
theorem GL.lt {w : World} {b n : Nat} {G : Nat → Int} (h : GL w b n G) : b < w.heap.size := by
  obtain ⟨C, h, _⟩ := h
  exact (Array.getElem?_eq_some_iff.1 h).1
theorem GL.of {w w' : World} {b n : Nat} {G : Nat → Int} (h : GL w b n G) (e : w'.heap[b]? = w.heap[b]?) : GL w' b n G := by
  obtain ⟨C, h, h2⟩ := h
  exact ⟨C, e.trans h, h2⟩
theorem GL.on {w w' : World} {b n : Nat} {G : Nat → Int} (h : GL w b n G) (hb : Below w.heap.size w w') : GL w' b n G := h.of (hb.block b h.lt)
theorem GL.ext {w : World} {b n : Nat} {G H : Nat → Int} (h : GL w b n G) (e : ∀ v, v < n → G v = H v) : GL w b n H := by
  obtain ⟨C, h1, h2⟩ := h
  exact ⟨C, h1, fun v hv => by rw [← e v hv]; exact h2 v hv⟩
theorem GL.cell {w : World} {b n : Nat} {G : Nat → Int} (h : GL w b n G) (v : Nat) (hv : v < n) : w.cell? ⟨b, v, none⟩ = some (.int .i64 (G v)) := by
  obtain ⟨C, h, h2⟩ := h
  exact (cell_of_row w b _ _ 2 (0, 0) h).trans (h2 v hv)
theorem GL.fz {w : World} {b n : Nat} {G : Nat → Int} (h : GL w b n G) (j : Nat) : w.frozen? ⟨b, j, none⟩ = false := by
  obtain ⟨C, h, h2⟩ := h
  exact frozen_of_row w b _ _ 2 h
theorem GL.set {w : World} {b n : Nat} {G : Nat → Int} (h : GL w b n G) (j : Nat) (x : Int) : GL (w.setCell ⟨b, j, none⟩ (.int .i64 x)) b n (up G j x) ∧ ∃ C, w.setCell ⟨b, j, none⟩ (.int .i64 x) = w.setRow b C := by
  obtain ⟨C, h, h2⟩ := h
  rw [setCell_eq_setRow w b j C 2 (0, 0) _ h]
  refine ⟨⟨_, setRow_heap w b _ _ 2 (0, 0) h, fun v hv => ?_⟩, _, rfl⟩
  show _ = some (Value.int .i64 (if v = j then x else G v))
  rw [Array.getElem?_setIfInBounds]
  have hv2 := h2 v hv
  have := (Array.getElem?_eq_some_iff.1 hv2).1
  by_cases e : j = v
  · subst e; rw [if_pos rfl, if_pos this, if_pos rfl]
  · rw [if_neg e, if_neg (fun k => e k.symm)]; exact hv2
theorem infoK : (Try.prog.info? 2).map (fun i => (i.zero, i.size, i.bytes)) = some (some (.int .i64 0), 1, 8) := by kernel_rfl
theorem info_k : ∃ i0, Try.prog.info? 2 = some i0 ∧ i0.zero = some (.int .i64 0) ∧ i0.size = 1 ∧ i0.bytes = 8 := by
  have h := infoK
  cases hh : Try.prog.info? 2 with
  | none => rw [hh] at h; cases h
  | some i => rw [hh] at h; simp at h; exact ⟨i, rfl, h.1, h.2.1, h.2.2⟩
theorem make_num (w : World) (n : Nat) (hn : n ≤ 1000000) : (Instr.makeSlice 88 (.int .u32 (n : Int)) (.int .u32 (n : Int))).run Try.prog w = .ok (.slice (some ⟨w.heap.size, 0, none⟩) n n) (w.alloc (.cells (madeCells #[.int .i64 0] n) 2)) := by
  have h := infoK
  cases hh : Try.prog.info? 2 with
  | none => rw [hh] at h; cases h
  | some i =>
    rw [hh] at h
    simp at h
    have hr := run_make (P := Try.prog) w 88 2 i (.int .i64 0) Try.underlying88 hh h.1 .u32 .u32 n n (by omega) (by omega) (by rw [h.2.2]; omega) (by omega)
    rw [h.2.1] at hr
    simp only [Int.toNat_natCast, Nat.mul_one] at hr
    rw [hr]
    rfl
theorem GL.new (w : World) (n : Nat) : GL (w.alloc (.cells (madeCells #[.int .i64 0] n) 2)) w.heap.size n (fun _ => 0) := by
  refine ⟨_, at0 _ _, fun j hj => ?_⟩
  simp [madeCells, hj, Nat.mod_one]
def cn (G : Nat → Int) : Nat → List Value
  | 0 => []
  | k + 1 => cn G k ++ [.int .i64 (G k)]
theorem cn_len (G : Nat → Int) (k : Nat) : (cn G k).length = k := by
  induction k with
  | zero => rfl
  | succ k ih => simp only [cn, List.length_append, ih]; rfl
theorem cn_get (G : Nat → Int) (k i : Nat) (hi : i < k) : (cn G k)[i]? = some (.int .i64 (G i)) := by
  induction k with
  | zero => omega
  | succ k ih =>
    simp only [cn]
    by_cases h : i < k
    · rw [List.getElem?_append_left (by rw [cn_len]; omega)]; exact ih h
    · have hk : i = k := by omega
      subst hk
      rw [List.getElem?_append_right (by rw [cn_len]; omega), cn_len, Nat.sub_self]; rfl
theorem cn_one (G : Nat → Int) (k : Nat) : ∀ u ∈ cn G k, u.oneCell' = true := by
  induction k with
  | zero => intro u hu; simp [cn] at hu
  | succ k ih =>
    intro u hu
    simp only [cn, List.mem_append, List.mem_singleton] at hu
    rcases hu with h | h
    · exact ih u h
    · subst h; rfl
theorem own_gl {w : World} {B : Nat} {v : Value} {n : Nat} {G : Nat → Int} (h : w.ownsRow B 2 1 v n (cn G n)) (hn : 0 < n) : ∃ g cap, v = .slice (some ⟨g, 0, none⟩) n cap ∧ B ≤ g ∧ GL w g n G := by
  obtain ⟨h1, h2⟩ := h
  rcases h2 with ⟨rfl, h0⟩ | ⟨g, cap, cur, rfl, h3, h4, h5, h6, h7, h8⟩
  · omega
  · refine ⟨g, cap, rfl, h3, cur, h4, fun u hu => ?_⟩
    have hg := cn_get G n u hu
    rw [← h8, List.getElem?_take, if_pos (by omega)] at hg
    simpa using hg
theorem own2 (w : World) : (w.alloc (.cells #[] 2)).ownsRow w.heap.size 2 1 (.slice (some ⟨w.heap.size, 0, none⟩) 0 0) 0 [] :=
  ⟨rfl, Or.inr ⟨w.heap.size, 0, #[], rfl, Nat.le_refl _, at0 w _, Nat.le_refl _, by unfold maxLen; omega, rfl, rfl⟩⟩
theorem addz (g i : Nat) : (⟨g, 0, none⟩ : Addr).add i = ⟨g, i, none⟩ := by
  unfold Addr.add
  split
  · next h => rw [h]
  · simp
/-- append of a whole list to an empty one. -/
theorem wpList_copyI {w : World} {ops : Array Oper} {rest : List Oper} {o : Oper} {a : Act} {Q : Exit → Act → World → Prop} (hgd : o.guard = none) (s x : Operand)
    (ho : o.op = .call { callee := .builtin .append, args := #[s, x], argTypes := #[88, 88] }) (v : Value) (b n c B : Nat) (G : Nat → Int) (hs : a.eval s = v) (hown : w.ownsRow B 2 1 v 0 [])
    (hx : a.eval x = .slice (some ⟨b, 0, none⟩) n c) (hG : GL w b n G) (hn : n ≤ 1000000) (hbase : B ≤ w.heap.size)
    (h : ∀ v' w', w'.ownsRow B 2 1 v' n (cn G n) → w.grownBy w' v.ownBlock → wpList Try.prog ops Q rest (a.put o.dst v') w') : wpList Try.prog ops Q (o :: rest) a w := by
  obtain ⟨i0, hi, hz0, hz1, hz2⟩ := info_k
  exact wpList_append_own_at w hgd s x 88 ho B 2 i0 (.int .i64 0) 1 8 Try.underlying88 hi hz0 hz1 hz2 rfl (by decide) v 0 [] hs hown ⟨b, 0, none⟩ n c (cn G n) hx (by rw [cn_len]; omega) (fun j u hj => by
    have hl := (List.getElem?_eq_some_iff.1 hj).1
    rw [cn_len] at hl
    rw [cn_get G n j hl] at hj
    cases hj
    rw [addz]; exact hG.cell j hl) (cn_one G n) (by unfold maxLen; omega) (by omega) hbase (fun v' w' h2 h3 _ h5 => h v' w' (by simpa using h2) h3)
set_option maxHeartbeats 1000000 in
theorem rweight_any (k z : Int) (w : World) : Calls Try.prog 23 #[.int .i64 k, .int .u32 z] w fun e w' => e = .returned (.int .i64 (wt k z)) ∧ w' = w := by
  by_cases e : k = 1
  · have hb : (k == 1) = true := by rw [e]; rfl
    have hE : Hid (wt k z = 1) := by show _ = _; unfold wt; rw [if_pos e]
    rw [hE.out]
    clear e
    go_enter Try.func23, Try.ntmps23
    go_wp2
    all_goals go_ret
    all_goals exact ⟨rfl, rfl⟩
  · have hb : (k == 1) = false := by simp [e]
    have hE : Hid (wt k z = wrap32 z) := by show _ = _; unfold wt; rw [if_neg e]
    rw [hE.out]
    have hz := i32_b z
    have HW : Hid (wrap64 (wrap32 z) = wrap32 z) := w64 _ (by omega) (by omega)
    clear e hz
    go_enter Try.func23, Try.ntmps23
    go_wp2
    all_goals go_ret
    all_goals refine ⟨?_, rfl⟩
    all_goals show Ending.returned (.int .i64 (wrap64 (wrap32 z))) = _
    all_goals rw [HW.out]
end Wp
end Go.Proofs.Ytlhpnhjfibkgpaa
