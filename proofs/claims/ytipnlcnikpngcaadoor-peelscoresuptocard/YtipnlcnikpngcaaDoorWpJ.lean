import Derived.Test.YtipnlcnikpngcaaDoorWpI
import Derived.Laws.AppendOwnNone
import Derived.Maps.AppendAt
namespace Go.Proofs.YtipnlcnikpngcaaDoor
namespace Wp
open Go.RowKit
set_option linter.unusedVariables false
set_option maxRecDepth 8000
def Tp8 (t e : TypeId) : Prop := Tryd.prog.underlying t = some (.slice e) ∧ ∃ i z, Tryd.prog.info? e = some i ∧ i.zero = some z ∧ i.size = 8 ∧ i.bytes = 64 ∧ z.cells.size = 8
theorem infoS : (Tryd.prog.info? 41).map (fun i => (i.zero, i.size, i.bytes)) = some (some (.agg z8), 8, 64) := by kernel_rfl
theorem tp8 : Tp8 35 41 := by
  refine ⟨Tryd.underlying35, ?_⟩
  have h := infoS
  cases hh : Tryd.prog.info? 41 with
  | none => rw [hh] at h; cases h
  | some i =>
    rw [hh] at h
    simp at h
    exact ⟨i, .agg z8, rfl, h.1, h.2.1, h.2.2, rfl⟩
/-- What an append takes: nothing, or cells that lie somewhere. -/
def Src (w : World) (sv : Value) (m : Nat) (news : List Value) : Prop :=
  (sv = .slice none 0 0 ∧ m = 0 ∧ news = []) ∨ ∃ ad c, sv = .slice (some ad) m c ∧ news.length = m * 8 ∧ (∀ j u, news[j]? = some u → w.cell? (ad.add j) = some u) ∧ ∀ u ∈ news, u.oneCell' = true
theorem grown_refl (w : World) (r : Option Nat) : w.grownBy w r := ⟨rfl, rfl, rfl, Nat.le_refl _, fun _ _ _ => rfl⟩
theorem step_append8 {t e : TypeId} (hT : Tp8 t e) {w : World} {ops : Array Oper} {o : Oper} {a : Act} {K : Act → World → Prop} {Q : Exit → Act → World → Prop} {E : Prop} (hgd : o.guard = none) (s x : Operand)
    (ho : o.op = .call { callee := .builtin .append, args := #[s, x], argTypes := #[t, t] }) (base : Nat) (v sv : Value) (n m : Nat) (xs news : List Value) (hs : a.eval s = v) (hown : w.ownsRow base e 8 v n xs)
    (hx : a.eval x = sv) (hsrc : Src w sv m news) (h63 : n + m ≤ 1000000) (hbase : base ≤ w.heap.size)
    (h : ∀ v' w', w'.ownsRow base e 8 v' (n + m) (xs ++ news) → w.grownBy w' v.ownBlock → (v'.ownBlock = v.ownBlock ∨ v'.ownBlock = some w.heap.size) → K (a.put o.dst v') w') :
    if Region.wanted o (yielded ops a.tmps) = true then Oper.wp Tryd.prog o a w K Q else E := by
  have hw : Region.wanted o (yielded ops a.tmps) = true := by simp [Region.wanted, hgd]
  rw [if_pos hw]
  obtain ⟨hu, i0, z, hi, hz0, hz1, hz2, hz3⟩ := hT
  rcases hsrc with ⟨rfl, rfl, rfl⟩ | ⟨ad, c, rfl, hl, hc, h1⟩
  · have hr := run_append_owned_none (P := Tryd.prog) (w := w) base t o.type e i0 8 hu hi v n xs hown
    unfold Oper.wp execOp
    simp only [ho, resolve, invoke, builtin, Sem.run_bind, Sem.run_pure, Result.andThen_ok, List.map_toArray, List.map_cons, List.map_nil, hs, hx, hr]
    exact h v w (by simpa using hown) (grown_refl _ _) (Or.inl rfl)
  · obtain ⟨v', w', hr, h2, h3, h4, h5⟩ := run_append_own_at (P := Tryd.prog) w base t o.type e i0 z 8 64 hu hi hz0 hz1 hz2 hz3 (by decide) v n xs hown ad m c news (by omega) hc h1 (by unfold maxLen; omega) (by omega) hbase
    unfold Oper.wp execOp
    simp only [ho, resolve, invoke, builtin, Sem.run_bind, Sem.run_pure, Result.andThen_ok, List.map_toArray, List.map_cons, List.map_nil, hs, hx, hr]
    exact h v' w' h2 h3 h5
theorem wpList_append8 {t e : TypeId} (hT : Tp8 t e) {w : World} {ops : Array Oper} {rest : List Oper} {o : Oper} {a : Act} {Q : Exit → Act → World → Prop} (hgd : o.guard = none) (s x : Operand)
    (ho : o.op = .call { callee := .builtin .append, args := #[s, x], argTypes := #[t, t] }) (base : Nat) (v sv : Value) (n m : Nat) (xs news : List Value) (hs : a.eval s = v) (hown : w.ownsRow base e 8 v n xs)
    (hx : a.eval x = sv) (hsrc : Src w sv m news) (h63 : n + m ≤ 1000000) (hbase : base ≤ w.heap.size)
    (h : ∀ v' w', w'.ownsRow base e 8 v' (n + m) (xs ++ news) → w.grownBy w' v.ownBlock → (v'.ownBlock = v.ownBlock ∨ v'.ownBlock = some w.heap.size) → wpList Tryd.prog ops Q rest (a.put o.dst v') w') : wpList Tryd.prog ops Q (o :: rest) a w := by
  obtain ⟨hu, i0, z, hi, hz0, hz1, hz2, hz3⟩ := hT
  rcases hsrc with ⟨rfl, rfl, rfl⟩ | ⟨ad, c, rfl, hl, hc, h1⟩
  · refine wpList_append_own_none hgd s x t ho base e i0 8 hu hi v n xs hs hown hx ?_
    exact h v w (by simpa using hown) (grown_refl _ _) (Or.inl rfl)
  · exact wpList_append_own_at w hgd s x t ho base e i0 z 8 64 hu hi hz0 hz1 hz2 hz3 (by decide) v n xs hs hown ad m c news hx (by omega) hc h1 (by unfold maxLen; omega) (by omega) hbase (fun v' w' h2 h3 _ h5 => h v' w' h2 h3 h5)
theorem cell_new (v : World) (N : Nat) (c : Array Value) (t : TypeId) (i : Nat) (x : Value) (hN : v.heap.size = N) (h : c[i]? = some x) : (v.alloc (.cells c t)).cell? ⟨N, i, none⟩ = some x := by
  subst hN
  have h1 : (v.alloc (.cells c t)).heap[v.heap.size]? = some (.cells c t) := at0 v _
  simp only [World.cell?, h1, h]
  rfl
theorem add0 (g i : Nat) : (⟨g, 0, none⟩ : Addr).add i = ⟨g, i, none⟩ := by
  unfold Addr.add
  split
  · simp_all
  · simp
/-- One state in a new block. -/
theorem src_new8 (w : World) (s : Nat → Int) (t : TypeId) (c : Nat) : Src (w.alloc (.cells (sv s) t)) (.slice (some ⟨w.heap.size, 0, none⟩) 1 c) 1 (sv s).toList := by
  refine Or.inr ⟨_, _, rfl, rfl, ?_, ?_⟩
  · intro j u hj
    rw [add0]
    exact cell_new w _ _ t j u rfl (by simpa using hj)
  · intro u hu
    simp at hu
    rcases hu with rfl | rfl | rfl | rfl | rfl | rfl | rfl | rfl <;> rfl
/-- The cells of the first k states. -/
def cs (S : Nat → Nat → Int) : Nat → List Value
  | 0 => []
  | k + 1 => cs S k ++ (sv (S k)).toList
theorem cs_len (S : Nat → Nat → Int) (k : Nat) : (cs S k).length = k * 8 := by
  induction k with
  | zero => rfl
  | succ k ih => simp only [cs, List.length_append, ih]; simp; omega
theorem cs_get (S : Nat → Nat → Int) (k v i : Nat) (hv : v < k) (hi : i < 8) : (cs S k)[v * 8 + i]? = some (.int .u64 (S v i)) := by
  induction k with
  | zero => omega
  | succ k ih =>
    simp only [cs]
    by_cases h : v < k
    · rw [List.getElem?_append_left (by rw [cs_len]; omega)]
      exact ih h
    · have hk : v = k := by omega
      subst hk
      rw [List.getElem?_append_right (by rw [cs_len]; omega), cs_len, show v * 8 + i - v * 8 = i by omega]
      have := sv_get (S v) i hi
      simpa using this
/-- A list of our own holds the states. -/
theorem own_sr {w : World} {B : Nat} {v : Value} {n : Nat} {S : Nat → Nat → Int} (h : w.ownsRow B 41 8 v n (cs S n)) (hn : 0 < n) : ∃ g cap, v = .slice (some ⟨g, 0, none⟩) n cap ∧ B ≤ g ∧ SR w g n S := by
  obtain ⟨h1, h2⟩ := h
  rcases h2 with ⟨rfl, h0⟩ | ⟨g, cap, cur, rfl, h3, h4, h5, h6, h7, h8⟩
  · omega
  · refine ⟨g, cap, rfl, h3, cur, h4, fun u hu i hi => ?_⟩
    have hg := cs_get S n u i hu hi
    rw [← h8, List.getElem?_take, if_pos (by omega)] at hg
    simpa using hg
end Wp
end Go.Proofs.YtipnlcnikpngcaaDoor
