import Derived.Test.YtipnlcnikpngcaaDoorSpI
import Derived.Test.YtipnlcnikpngcaaDoorWpI
import Derived.Test.YtipnlcnikpngcaaDoorWpJ
import Derived.Laws.AppendOwnNone
import Derived.Maps.AppendAt
namespace Go.Proofs.YtipnlcnikpngcaaDoor
namespace Wp
open Go.RowKit
set_option linter.unusedVariables false
set_option maxRecDepth 8000
/-- A type of lists whose elements have three cells and b bytes. -/
def Tp3 (t e : TypeId) (b : Nat) : Prop := Tryd.prog.underlying t = some (.slice e) ∧ ∃ i z, Tryd.prog.info? e = some i ∧ i.zero = some z ∧ i.size = 3 ∧ i.bytes = b ∧ z.cells.size = 3
theorem infoE3 : (Tryd.prog.info? 52).map (fun i => (i.zero, i.size, i.bytes)) = some (some (.agg (ev 0 0 0)), 3, 12) := by kernel_rfl
theorem infoU3 : (Tryd.prog.info? 81).map (fun i => (i.zero, i.size, i.bytes)) = some (some (.agg #[.int .u32 0, .int .u64 0, .int .u64 0]), 3, 24) := by kernel_rfl
theorem tpE : Tp3 24 52 12 := by
  refine ⟨Tryd.underlying24, ?_⟩
  have h := infoE3
  cases hh : Tryd.prog.info? 52 with
  | none => rw [hh] at h; cases h
  | some i =>
    rw [hh] at h
    simp at h
    exact ⟨i, .agg (ev 0 0 0), rfl, h.1, h.2.1, h.2.2, rfl⟩
theorem tpU : Tp3 77 81 24 := by
  refine ⟨Tryd.underlying77, ?_⟩
  have h := infoU3
  cases hh : Tryd.prog.info? 81 with
  | none => rw [hh] at h; cases h
  | some i =>
    rw [hh] at h
    simp at h
    exact ⟨i, .agg #[.int .u32 0, .int .u64 0, .int .u64 0], rfl, h.1, h.2.1, h.2.2, rfl⟩
theorem step_app3 {t e : TypeId} {by' : Nat} (hT : Tp3 t e by') {w : World} {ops : Array Oper} {o : Oper} {a : Act} {K : Act → World → Prop} {Q : Exit → Act → World → Prop} {E : Prop} (hgd : o.guard = none) (s x : Operand)
    (ho : o.op = .call { callee := .builtin .append, args := #[s, x], argTypes := #[t, t] }) (base : Nat) (v : Value) (n : Nat) (xs : List Value) (ad : Addr) (c : Nat) (news : List Value) (hs : a.eval s = v) (hown : w.ownsRow base e 3 v n xs)
    (hx : a.eval x = .slice (some ad) 1 c) (hl : news.length = 3) (hc : ∀ j u, news[j]? = some u → w.cell? (ad.add j) = some u) (h1 : ∀ u ∈ news, u.oneCell' = true) (hm : n + 1 < 140737488355328) (h63 : (n + 1) * by' ≤ 140737488355328) (hbase : base ≤ w.heap.size)
    (h : ∀ v' w', w'.ownsRow base e 3 v' (n + 1) (xs ++ news) → w.grownBy w' v.ownBlock → K (a.put o.dst v') w') :
    if Region.wanted o (yielded ops a.tmps) = true then Oper.wp Tryd.prog o a w K Q else E := by
  have hw : Region.wanted o (yielded ops a.tmps) = true := by simp [Region.wanted, hgd]
  rw [if_pos hw]
  obtain ⟨hu, i0, z, hi, hz0, hz1, hz2, hz3⟩ := hT
  obtain ⟨v', w', hr, h2, h3, h4, h5⟩ := run_append_own_at (P := Tryd.prog) w base t o.type e i0 z 3 by' hu hi hz0 hz1 hz2 hz3 (by decide) v n xs hown ad 1 c news (by omega) hc h1 (by unfold maxLen; omega) h63 hbase
  unfold Oper.wp execOp
  simp only [ho, resolve, invoke, builtin, Sem.run_bind, Sem.run_pure, Result.andThen_ok, List.map_toArray, List.map_cons, List.map_nil, hs, hx, hr]
  exact h v' w' h2 h3
theorem wpList_app3 {t e : TypeId} {by' : Nat} (hT : Tp3 t e by') {w : World} {ops : Array Oper} {rest : List Oper} {o : Oper} {a : Act} {Q : Exit → Act → World → Prop} (hgd : o.guard = none) (s x : Operand)
    (ho : o.op = .call { callee := .builtin .append, args := #[s, x], argTypes := #[t, t] }) (base : Nat) (v : Value) (n : Nat) (xs : List Value) (ad : Addr) (c : Nat) (news : List Value) (hs : a.eval s = v) (hown : w.ownsRow base e 3 v n xs)
    (hx : a.eval x = .slice (some ad) 1 c) (hl : news.length = 3) (hc : ∀ j u, news[j]? = some u → w.cell? (ad.add j) = some u) (h1 : ∀ u ∈ news, u.oneCell' = true) (hm : n + 1 < 140737488355328) (h63 : (n + 1) * by' ≤ 140737488355328) (hbase : base ≤ w.heap.size)
    (h : ∀ v' w', w'.ownsRow base e 3 v' (n + 1) (xs ++ news) → w.grownBy w' v.ownBlock → wpList Tryd.prog ops Q rest (a.put o.dst v') w') : wpList Tryd.prog ops Q (o :: rest) a w := by
  obtain ⟨hu, i0, z, hi, hz0, hz1, hz2, hz3⟩ := hT
  exact wpList_append_own_at w hgd s x t ho base e i0 z 3 by' hu hi hz0 hz1 hz2 hz3 (by decide) v n xs hs hown ad 1 c news hx (by omega) hc h1 (by unfold maxLen; omega) h63 hbase (fun v' w' h2 h3 _ h5 => h v' w' h2 h3)
theorem own_below {w w' : World} {B : Nat} {t : TypeId} {q : Nat} {v : Value} {n : Nat} {xs : List Value} (h : w.ownsRow B t q v n xs) (hb : Below w.heap.size w w') : w'.ownsRow B t q v n xs := by
  obtain ⟨h1, h2⟩ := h
  refine ⟨h1, ?_⟩
  rcases h2 with h2 | ⟨g, cap, cur, h2, h3, h4, h5⟩
  · exact Or.inl h2
  · exact Or.inr ⟨g, cap, cur, h2, h3, (hb.block _ (Array.getElem?_eq_some_iff.1 h4).1).trans h4, h5⟩
theorem own_row {w : World} {B : Nat} {t : TypeId} {q n g : Nat} {v : Value} {xs : List Value} (h : w.ownsRow B t q v n xs) (C : Array Value) (hg : g < B) : (w.setRow g C).ownsRow B t q v n xs := by
  obtain ⟨h1, h2⟩ := h
  refine ⟨h1, ?_⟩
  rcases h2 with h2 | ⟨g2, cap, cur, h2, h3, h4, h5⟩
  · exact Or.inl h2
  · exact Or.inr ⟨g2, cap, cur, h2, h3, (setRow_other _ _ _ _ (by omega)).trans h4, h5⟩
/-- The cells of the first k edges. -/
def ce (E : Nat → Int × Int × Int) : Nat → List Value
  | 0 => []
  | k + 1 => ce E k ++ (ev (E k).1 (E k).2.1 (E k).2.2).toList
theorem ce_len (E : Nat → Int × Int × Int) (k : Nat) : (ce E k).length = k * 3 := by
  induction k with
  | zero => rfl
  | succ k ih => simp only [ce, List.length_append, ih]; simp; omega
theorem ce_get (E : Nat → Int × Int × Int) (k i : Nat) (hi : i < k) : (ce E k)[i * 3]? = some (.int .u32 (E i).1) ∧ (ce E k)[i * 3 + 1]? = some (.int .u32 (E i).2.1) ∧ (ce E k)[i * 3 + 2]? = some (.int .u32 (E i).2.2) := by
  induction k with
  | zero => omega
  | succ k ih =>
    simp only [ce]
    by_cases h : i < k
    · rw [List.getElem?_append_left (by rw [ce_len]; omega), List.getElem?_append_left (by rw [ce_len]; omega), List.getElem?_append_left (by rw [ce_len]; omega)]
      exact ih h
    · have hk : i = k := by omega
      subst hk
      rw [List.getElem?_append_right (by rw [ce_len]; omega), List.getElem?_append_right (by rw [ce_len]; omega), List.getElem?_append_right (by rw [ce_len]; omega), ce_len, show i * 3 - i * 3 = 0 by omega, show i * 3 + 1 - i * 3 = 1 by omega, show i * 3 + 2 - i * 3 = 2 by omega]
      exact ⟨rfl, rfl, rfl⟩
theorem own_er {w : World} {B : Nat} {v : Value} {n : Nat} {E : Nat → Int × Int × Int} (h : w.ownsRow B 52 3 v n (ce E n)) : ∃ a c, v = .slice a n c ∧ ERow w a n E ∧ (∀ b, a = some b → B ≤ b.block) := by
  obtain ⟨h1, h2⟩ := h
  rcases h2 with ⟨rfl, h0⟩ | ⟨g, cap, cur, rfl, h3, h4, h5, h6, h7, h8⟩
  · subst h0; exact ⟨none, 0, rfl, fun h => by omega, fun b h => by cases h⟩
  · refine ⟨_, cap, rfl, fun _ => ⟨g, rfl, (Array.getElem?_eq_some_iff.1 h4).1, fun i hi => ?_⟩, fun b hb => by cases hb; exact h3⟩
    obtain ⟨c1, c2, c3⟩ := ce_get E n i hi
    rw [← h8, List.getElem?_take, if_pos (by omega)] at c1 c2 c3
    refine ⟨?_, ?_, ?_⟩
    · exact (cell_of_row w g _ _ 52 (0, 0) h4).trans (by simpa using c1)
    · exact (cell_of_row w g _ _ 52 (0, 0) h4).trans (by simpa using c2)
    · exact (cell_of_row w g _ _ 52 (0, 0) h4).trans (by simpa using c3)
/-- A list of edges that came in. -/
def IRow (w : World) (a : Option Addr) (m : Nat) (E : Nat → Int × Int × Int) : Prop := 0 < m → ∃ x, a = some x ∧ x.block < w.heap.size ∧ ∀ i, i < m → w.cell? (x.add (i * 3)) = some (.int .u32 (E i).1) ∧ w.cell? ⟨(x.add (i * 3)).block, (x.add (i * 3)).off + 1, none⟩ = some (.int .u32 (E i).2.1) ∧ w.cell? ⟨(x.add (i * 3)).block, (x.add (i * 3)).off + 2, none⟩ = some (.int .u32 (E i).2.2)
theorem add_block (x : Addr) (i : Nat) : (x.add i).block = x.block := by unfold Addr.add; split <;> rfl
theorem IRow.on {w w' : World} {a : Option Addr} {m : Nat} {E : Nat → Int × Int × Int} (h : IRow w a m E) (hb : Below w.heap.size w w') : IRow w' a m E := fun h0 => by
  obtain ⟨x, rfl, h1, h2⟩ := h h0
  refine ⟨x, rfl, Nat.lt_of_lt_of_le h1 hb.size, fun i hi => ⟨?_, ?_, ?_⟩⟩
  · exact (hb.cell (by rw [add_block]; exact h1)).trans (h2 i hi).1
  · exact (hb.cell (p := ⟨(x.add (i * 3)).block, (x.add (i * 3)).off + 1, none⟩) (by show (x.add (i * 3)).block < _; rw [add_block]; exact h1)).trans (h2 i hi).2.1
  · exact (hb.cell (p := ⟨(x.add (i * 3)).block, (x.add (i * 3)).off + 2, none⟩) (by show (x.add (i * 3)).block < _; rw [add_block]; exact h1)).trans (h2 i hi).2.2
theorem bA2 {w w' : World} (h : Below w.heap.size w w') (o : Obj) : Below w.heap.size w (w'.alloc o) := h.alloc h.size o
/-- Ends modulo n. -/
def ge (n : Nat) (R : Nat → Int × Int × Int) : Nat → Int × Int × Int := fun i => ((R i).1 % (n : Int), (R i).2.1 % (n : Int), 0)
theorem ge_in (n : Nat) (h : 1 ≤ n) (m : Nat) (R : Nat → Int × Int × Int) : EIn n m (ge n R) := fun i hi => by
  have h1 := Int.emod_nonneg (R i).1 (show (n : Int) ≠ 0 by omega)
  have h2 := Int.emod_lt_of_pos (R i).1 (show (0 : Int) < n by omega)
  have h3 := Int.emod_nonneg (R i).2.1 (show (n : Int) ≠ 0 by omega)
  have h4 := Int.emod_lt_of_pos (R i).2.1 (show (0 : Int) < n by omega)
  exact ⟨((R i).1 % (n : Int)).toNat, ((R i).2.1 % (n : Int)).toNat, by show (R i).1 % (n : Int) = _; omega, by show (R i).2.1 % (n : Int) = _; omega, by omega, by omega⟩
abbrev Kg (x : Addr) (j : Nat) (e1 e2 : Int) (w : World) : Prop := w.cell? (x.add (j * 3)) = some (.int .u32 e1) ∧ w.cell? ⟨(x.add (j * 3)).block, (x.add (j * 3)).off + 1, none⟩ = some (.int .u32 e2)
set_option maxHeartbeats 4000000 in
theorem graph_any (n : Nat) (a : Option Addr) (m c : Nat) (R : Nat → Int × Int × Int) (h1 : 1 ≤ n) (hn : n ≤ 1000) (hm : m ≤ 1048576) (w : World) (hr : IRow w a m R) (hE : ∀ i, i < m → 0 ≤ (R i).1 ∧ 0 ≤ (R i).2.1) :
    Calls Tryd.prog 6 #[.int .u32 (n : Int), .slice a m c] w fun e w' => ∃ a' c', e = .returned (.slice a' m c') ∧ ERow w' a' m (ge n R) ∧ Below w.heap.size w w' := by
  have HR : Hid (∀ W, Below w.heap.size w W → IRow W a m R) := fun W h => hr.on h
  have HE := hide hE
  have HX : Hid (Below w.heap.size w w) := Below.refl _ _
  clear hr hE
  go_enter Tryd.func6, Tryd.ntmps6
  go_wp2_with (fail)
  go_loopw [5, 6] (fun v k wr => ∃ j : Nat, j ≤ m ∧ k = .int .i64 j ∧ Hid (wr.ownsRow w.heap.size 52 3 v j (ce (ge n R) j)) ∧ Hid (Below w.heap.size w wr)) (fun _ k _ => m - (intOf k).toNat)
  case atStart => exact ⟨0, Nat.zero_le _, rfl, World.ownsRow_nil _ _ _ _, HX⟩
  case round =>
    clear HX
    obtain ⟨j, hj, rfl, HO, HB⟩ := hrel
    by_cases cc : j < m
    · obtain ⟨x, rfl, hx, hc⟩ := HR.out w (Below.refl _ _) (by omega)
      obtain ⟨c1, c2, c3⟩ := hc j cc
      have he := HE.out j cc
      obtain ⟨e1, he1⟩ : ∃ e1, (R j).1 = e1 := ⟨_, rfl⟩
      obtain ⟨e2, he2⟩ : ∃ e2, (R j).2.1 = e2 := ⟨_, rfl⟩
      rw [he1] at c1 he
      rw [he2] at c2 he
      obtain ⟨q1, hq1⟩ : ∃ q1, e1 % (n : Int) = q1 := ⟨_, rfl⟩
      obtain ⟨q2, hq2⟩ : ∃ q2, e2 % (n : Int) = q2 := ⟨_, rfl⟩
      have HLe : Hid (ge n R j = (q1, q2, 0)) := by show _ = _; unfold ge; rw [he1, he2, hq1, hq2]
      have ht1 : e1.tmod (n : Int) = q1 := (Int.tmod_eq_emod_of_nonneg he.1).trans hq1
      have ht2 : e2.tmod (n : Int) = q2 := (Int.tmod_eq_emod_of_nonneg he.2).trans hq2
      have hb1 : 0 ≤ q1 ∧ q1 < n := by rw [← hq1]; exact ⟨Int.emod_nonneg _ (by omega), Int.emod_lt_of_pos _ (by omega)⟩
      have hb2 : 0 ≤ q2 ∧ q2 < n := by rw [← hq2]; exact ⟨Int.emod_nonneg _ (by omega), Int.emod_lt_of_pos _ (by omega)⟩
      have hw1 : IntKind.u32.wrap q1 = q1 := by simp only [IntKind.wrap, IntKind.signed, IntKind.bits]; simp; omega
      have hw2 : IntKind.u32.wrap q2 = q2 := by simp only [IntKind.wrap, IntKind.signed, IntKind.bits]; simp; omega
      have hq0 : ¬ (n : Int) = 0 := by omega
      have hq9 : ¬ n = 0 := by omega
      have hq0' : ((n : Int) == 0) = false := by simp; omega
      have HK : Hid (∀ W, Below w.heap.size w W → Kg x j e1 e2 W) := fun W hB => ⟨(hB.cell (by rw [add_block]; exact hx)).trans c1, (hB.cell (p := ⟨(x.add (j * 3)).block, (x.add (j * 3)).off + 1, none⟩) (by show (x.add (j * 3)).block < _; rw [add_block]; exact hx)).trans c2⟩
      clear hc c1 c2 c3 he1 he2 hx hq1 hq2 he
      have HC := hide cc
      go_wp2_with (fail)
      go_region_held3 (Kg x j e1 e2) ((refine HK.out _ ?_; repeat (first | with_reducible exact HB3.out | with_reducible exact HB.out | with_reducible refine belowD ?_ | with_reducible refine bA2 ?_ _))) ((first | (refine step_app3 tpE (by rfl) _ _ (by rfl) w.heap.size u5 j (ce (ge n R) j) ⟨wr.heap.size, 0, none⟩ 1 (ev q1 q2 0).toList (by rfl) (HO.out.alloc _) (by rfl) (by rfl) (fun i u hu => by rw [add0]; exact cell_new wr _ _ 52 i u rfl (by simpa using hu)) (by intro u hu; simp at hu; rcases hu with rfl | rfl | rfl <;> rfl) (by omega) (by omega) ((bA2 HB.out _).size) ?_; intro v3 w3 hown3 hgr3; have HB3 : Hid (Below w.heap.size w w3) := (belowD (bA2 HB.out _)).grown hgr3 (belowD (bA2 HB.out _)).size (fun k hk => (World.ownsRow.lt HO.out k hk).1); have HO3 := hide hown3; clear hown3 hgr3) | fail "no arm"))
      go_wp2
      refine ⟨⟨j + 1, HC.out, by go_num, ?_, HB3.out⟩, by simp [intOf]; have := HC.out; omega⟩
      show World.ownsRow _ _ _ _ _ _ _
      rw [show ce (ge n R) (j + 1) = ce (ge n R) j ++ (ev (ge n R j).1 (ge n R j).2.1 (ge n R j).2.2).toList from rfl, HLe.out]
      exact HO3.out
    · have hjm : j = m := by omega
      subst hjm
      obtain ⟨a', c', rfl, hE7, _⟩ := own_er HO.out
      have HE7 := hide hE7
      clear cc hj hE7
      go_wp2
      all_goals go_ret
      all_goals exact ⟨a', c', rfl, HE7.out, HB.out⟩
end Wp
end Go.Proofs.YtipnlcnikpngcaaDoor
