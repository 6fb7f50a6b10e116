import Derived.Test.YtlhpnhjfibkgpabNeC
import Derived.Test.YtlhpnhjfibkgpabWrA
import Derived.Laws.AppendOwnNone
import Derived.Maps.AppendAt
namespace Go.Proofs.Ytlhpnhjfibkgpab
namespace Wp
open Go.RowKit
set_option linter.unusedVariables false
set_option maxRecDepth 8000
theorem infoU : (Try.prog.info? 26).map (fun i => (i.zero, i.size, i.bytes)) = some (some (.int .u32 0), 1, 4) := by kernel_rfl
theorem info_u : ∃ i0, Try.prog.info? 26 = some i0 ∧ i0.zero = some (.int .u32 0) ∧ i0.size = 1 ∧ i0.bytes = 4 := by
  have h := infoU
  cases hh : Try.prog.info? 26 with
  | none => rw [hh] at h; cases h
  | some i => rw [hh] at h; simp at h; exact ⟨i, rfl, h.1, h.2.1, h.2.2⟩
theorem some_ne (x : Addr) (l c : Nat) (W : World) : (binOp .eql 25 (.slice (some x) l c) (.slice none 0 0)).run Try.prog W = .ok (.bool false) W := rfl
theorem own1 (w : World) : (w.alloc (.cells #[] 26)).ownsRow w.heap.size 26 1 (.slice (some ⟨w.heap.size, 0, none⟩) 0 0) 0 [] :=
  ⟨rfl, Or.inr ⟨w.heap.size, 0, #[], rfl, Nat.le_refl _, at0 w _, Nat.le_refl _, by unfold maxLen; omega, rfl, rfl⟩⟩
theorem wpList_appendU {w : World} {ops : Array Oper} {rest : List Oper} {o : Oper} {a : Act} {Q : Exit → Act → World → Prop} (hgd : o.guard = none) (s x : Operand)
    (ho : o.op = .call { callee := .builtin .append, args := #[s, x], argTypes := #[25, 25] }) (base : Nat) (v : Value) (n : Nat) (xs : List Value) (ad : Addr) (c : Nat) (y : Int) (hs : a.eval s = v) (hown : w.ownsRow base 26 1 v n xs)
    (hx : a.eval x = .slice (some ad) 1 c) (hc : w.cell? ad = some (.int .u32 y)) (h63 : n ≤ 1000000) (hbase : base ≤ w.heap.size)
    (h : ∀ v' w', w'.ownsRow base 26 1 v' (n + 1) (xs ++ [.int .u32 y]) → w.grownBy w' v.ownBlock → wpList Try.prog ops Q rest (a.put o.dst v') w') : wpList Try.prog ops Q (o :: rest) a w := by
  obtain ⟨i0, hi, hz0, hz1, hz2⟩ := info_u
  exact wpList_append_own_at w hgd s x 25 ho base 26 i0 (.int .u32 0) 1 4 Try.underlying25 hi hz0 hz1 hz2 rfl (by decide) v n xs hs hown ad 1 c [.int .u32 y] hx rfl (fun j u hj => by
    match j, hj with
    | 0, hj => simp at hj; subst hj; rw [show ad.add 0 = ad from by unfold Addr.add; cases ad; simp]; exact hc) (fun u hu => by simp at hu; subst hu; rfl) (by unfold maxLen; omega) (by omega) hbase (fun v' w' h2 h3 _ h5 => h v' w' h2 h3)
def cuq (Q : List Nat) : List Value := Q.map (fun (x : Nat) => Value.int .u32 (x : Int))
theorem cuq_get {Q : List Nat} {i : Nat} {u : Value} (h : (cuq Q)[i]? = some u) : ∃ q, Q[i]? = some q ∧ u = .int .u32 (q : Int) := by
  simp only [cuq, List.getElem?_map, Option.map_eq_some_iff] at h
  obtain ⟨q, h1, h2⟩ := h
  exact ⟨q, h1, h2.symm⟩
theorem addq (g i : Nat) : (⟨g, 0, none⟩ : Addr).add i = ⟨g, i, none⟩ := by
  unfold Addr.add
  split
  · next h => rw [h]
  · simp
theorem wpList_appendQ {w : World} {ops : Array Oper} {rest : List Oper} {o : Oper} {a : Act} {R : Exit → Act → World → Prop} (hgd : o.guard = none) (s x : Operand)
    (ho : o.op = .call { callee := .builtin .append, args := #[s, x], argTypes := #[25, 25] }) (base : Nat) (v : Value) (qb c : Nat) (Q : List Nat) (hs : a.eval s = v) (hown : w.ownsRow base 26 1 v 0 [])
    (hx : a.eval x = .slice (some ⟨qb, 0, none⟩) Q.length c) (hc : Sq w qb Q) (h63 : Q.length ≤ 1000000) (hbase : base ≤ w.heap.size)
    (h : ∀ v' w', w'.ownsRow base 26 1 v' Q.length (cuq Q) → w.grownBy w' v.ownBlock → wpList Try.prog ops R rest (a.put o.dst v') w') : wpList Try.prog ops R (o :: rest) a w := by
  obtain ⟨i0, hi, hz0, hz1, hz2⟩ := info_u
  exact wpList_append_own_at w hgd s x 25 ho base 26 i0 (.int .u32 0) 1 4 Try.underlying25 hi hz0 hz1 hz2 rfl (by decide) v 0 [] hs hown ⟨qb, 0, none⟩ Q.length c (cuq Q) hx (by simp [cuq]) (fun j u hj => by
    obtain ⟨q, h1, rfl⟩ := cuq_get hj
    rw [addq]; exact hc.2 j q h1) (fun u hu => by
      simp only [cuq, List.mem_map] at hu
      obtain ⟨q, _, rfl⟩ := hu; rfl) (by unfold maxLen; omega) (by omega) hbase (fun v' w' h2 h3 _ h5 => h v' w' (by simpa using h2) h3)
/-- A list of ours. -/
def Onq (Q : List Nat) (w : World) (e : Value) (w' : World) : Prop := ∃ g c, e = .slice (some ⟨g, 0, none⟩) Q.length c ∧ w.heap.size ≤ g ∧ Sq w' g Q ∧ Below w.heap.size w w'
set_option maxHeartbeats 1000000 in
theorem clone_q (qb c : Nat) (Q : List Nat) (h0 : 0 < Q.length) (h64 : Q.length ≤ 64) (w : World) (hc : Sq w qb Q) : Calls Try.prog 23 #[.slice (some ⟨qb, 0, none⟩) Q.length c] w fun e w' => ∃ v, e = .returned v ∧ Onq Q w v w' := by
  have hn := some_ne ⟨qb, 0, none⟩ Q.length c
  have HO := hide (own1 w)
  have hs : Hid (Sq (w.alloc (.cells #[] 26)) qb Q) := hc.on (b1 w 26 #[]) hc.1
  clear hc
  go_enter Try.func23, Try.ntmps23
  go_wp2_with (refine wpList_appendQ rfl _ _ rfl w.heap.size _ qb c Q rfl HO.out rfl hs.out (by omega) (by simp) ?_)
  rintro v' w' h1 h2
  have hB : Below w.heap.size w w' := (b1 w 26 #[]).grown h2 (by simp) (fun j hj => (World.ownsRow.lt HO.out j hj).1)
  have hv : Onq Q w v' w' := by
    have h1' := h1
    rcases h1.2 with ⟨_, h9⟩ | ⟨g, cap, cur, rfl, h3, h4, h5⟩
    · omega
    · exact ⟨g, cap, rfl, h3, ⟨(Array.getElem?_eq_some_iff.1 h4).1, fun i q hq => by
        have := World.ownsRow.cells h1' (g := g) rfl i (.int .u32 (q : Int)) (by simp [cuq, hq])
        rwa [addq] at this⟩, hB⟩
  have HV := hide hv
  clear h1 h2 HO hs hn hB hv
  go_wp2
  go_ret
  exact ⟨_, rfl, HV.out⟩
theorem size91 : (Try.prog.info? 57).map (·.size) = some 2 := by kernel_rfl
set_option maxHeartbeats 2000000 in
theorem levels_q (n : Int) (qb c : Nat) (Q : List Nat) (h0 : 0 < Q.length) (h64 : Q.length ≤ 64) (h1 : 1 ≤ n) (h2 : n ≤ 2147483647) (hs : ∀ q ∈ Q, (q : Int) < n) (w : World) (hc : Sq w qb Q) : Calls Try.prog 14 #[.int .u32 n, .slice (some ⟨qb, 0, none⟩) Q.length c] w fun e w' => ∃ g c', e = .returned (.tuple #[.agg (bv n g Q.length c'), .int .i64 0]) ∧ w.heap.size ≤ g ∧ Sq w' g Q ∧ Below w.heap.size w w' := by
  have HZ := hide (isSize_any n h1 h2)
  have HX : Hid (Below w.heap.size w (w.alloc (.cells #[.int .u32 0, .slice none 0 0] 57))) := b1 _ _ _
  have HX0 : Hid ((w.alloc (.cells #[.int .u32 0, .slice none 0 0] 57)).heap[w.heap.size]? = some (.cells #[.int .u32 0, .slice none 0 0] 57 (0, 0))) := at0 _ _
  have hc0 := hc.on HX.out hc.1
  have HM := hide (max_any qb c Q _ hc0 h0 (by omega))
  have HC := hide (clone_q qb c Q h0 h64 _ hc0)
  have HMs : Hid (∀ m, Mx Q Q.length m → decide (n ≤ (m : Int)) = false) := fun m hm => by
    obtain ⟨⟨i, _, h1⟩, _⟩ := hm
    have := hs m (List.mem_of_getElem? h1)
    simp; omega
  clear hc hc0 hs
  obtain ⟨ql, hql⟩ : ∃ ql, Q.length = ql := ⟨_, rfl⟩
  rw [hql] at h0 h64 HM HC
  have HQl := hide hql
  have hl1 : ((ql : Int) == 0) = false := by simp; omega
  have hl2 : decide (64 < (ql : Int)) = false := by simp; omega
  rw [hql]
  clear hql
  go_enter Try.func14, Try.ntmps14
  go_wp2_with (fail)
  refine (HZ.out _).mono ?_
  rintro e1 w1 ⟨rfl, hw1⟩
  subst w1
  go_wp2_with (fail)
  refine HM.out.mono ?_
  rintro e2 w2 ⟨⟨m, rfl, hm⟩, hw2⟩
  subst w2
  have hlt := HMs.out m hm
  clear hm HMs
  go_wp2_with (fail)
  refine HC.out.mono ?_
  rintro e3 w3 ⟨v3, rfl, g, c', rfl, hg, hcell, hB⟩
  rw [HQl.out]
  have HG := hide hg
  have HCe := hide hcell
  have HB := hide hB
  have HQ : Hid (w3.heap[w.heap.size]? = some (.cells #[.int .u32 0, .slice none 0 0] 57 (0, 0))) := (hB.block _ (by simp)).trans HX0.out
  have hk : w3.cell? ⟨w.heap.size, 0, none⟩ = some (.int .u32 0) ∧ w3.cell? ⟨w.heap.size, 1, none⟩ = some (.slice none 0 0) := by
    refine ⟨?_, ?_⟩ <;> exact (cell_of_row w3 w.heap.size _ _ 57 (0, 0) HQ.out).trans rfl
  have hf : w3.frozen? ⟨w.heap.size, 0, none⟩ = false ∧ w3.frozen? ⟨w.heap.size, 1, none⟩ = false := by
    refine ⟨?_, ?_⟩ <;> exact frozen_of_row w3 w.heap.size _ _ 57 HQ.out
  clear hg hcell hB HM HC HZ
  go_wp2
  have E2 : (w3.setCell ⟨w.heap.size, 0, none⟩ (.int .u32 n)).setCell ⟨w.heap.size, 1, none⟩ (.slice (some ⟨g, 0, none⟩) ql c') = w3.setRow w.heap.size (bv n g ql c') := by
    rw [setCell_eq_setRow w3 w.heap.size 0 _ 57 (0, 0) _ HQ.out]
    have q1 := setRow_heap w3 w.heap.size _ (#[Value.int .u32 0, Value.slice none 0 0].setIfInBounds 0 (.int .u32 n)) 57 (0, 0) HQ.out
    rw [setCell_eq_setRow _ w.heap.size 1 _ 57 (0, 0) _ q1, setRow_setRow]
    rfl
  rw [E2]
  have HRf := hide (setRow_heap w3 w.heap.size _ (bv n g ql c') 57 (0, 0) HQ.out)
  have hge : w.heap.size < g := by have := HG.out; simp at this; omega
  refine bodyPost_ret (v := .tuple #[.agg (bv n g ql c'), .int .i64 0]) ?_ rfl ⟨g, c', rfl, Nat.le_of_lt hge, ⟨by simp; exact HCe.out.1, fun i q hq => (cell_setRow_other w3 _ _ _ (Nat.ne_of_gt hge)).trans (HCe.out.2 i q hq)⟩, below_setRow (HX.out.trans (HB.out.mono HX.out.size)) (Nat.le_refl _) _⟩
  simp only [results, Try.results14, asAddr]
  simp [run_loadVar_row _ _ 57 57 _ (0, 0) _ HRf.out Try.underlying57 rfl size91]
set_option maxHeartbeats 2000000 in
theorem reach_any (n : Int) (qb c : Nat) (Q : List Nat) (h0 : 0 < Q.length) (h64 : Q.length ≤ 64) (h1 : 1 ≤ n) (h2 : n ≤ 2147483647) (hs : ∀ q ∈ Q, (q : Int) < n) (w : World) (hc : Sq w qb Q) : Calls Try.prog 6 #[.int .u32 n, .slice (some ⟨qb, 0, none⟩) Q.length c] w fun e w' => ∃ fb qb q, e = .returned (.tuple #[.pointer (some ⟨fb, 0, none⟩), .int .i64 0]) ∧ w.heap.size ≤ fb ∧ w.heap.size ≤ qb ∧ FB n Q qb q fb w' ∧ Below w.heap.size w w' := by
  have HL := hide (levels_q n qb c Q h0 h64 h1 h2 hs w hc)
  have H64 := hide h64
  clear h0 h64 hs hc
  obtain ⟨ql, hql⟩ : ∃ ql, Q.length = ql := ⟨_, rfl⟩
  rw [hql] at HL
  have HQl := hide hql
  rw [hql]
  clear hql
  go_enter Try.func6, Try.ntmps6
  go_wp2_with (fail)
  refine HL.out.mono ?_
  rintro e1 w1 ⟨g, c', rfl, hgl, hg, hB⟩
  have HGl := hide hgl
  have HG := hide hg
  have HB := hide hB
  have HY : Hid (Below w1.heap.size w1 ((w1.alloc (.cells (bv n g ql c') 57)).alloc (.cells #[.iface 61 (.agg (bv n g ql c'))] 65))) := by repeat first | exact Below.refl _ _ | refine bA ?_ (by first | exact Nat.le_refl _ | (simp only [World.size_alloc]; omega)) _
  have HR : Hid (((w1.alloc (.cells (bv n g ql c') 57)).alloc (.cells #[.iface 61 (.agg (bv n g ql c'))] 65)).heap[w1.heap.size + 1]? = some (.cells #[.iface 61 (.agg (bv n g ql c'))] 65 (0, 0))) := by
    have := at0 (w1.alloc (.cells (bv n g ql c') 57)) (.cells #[.iface 61 (.agg (bv n g ql c'))] 65)
    rw [World.size_alloc] at this; exact this
  clear hg hB HL hgl
  go_wp2
  all_goals go_ret2
  all_goals exact ⟨w1.heap.size + 1, g, c', rfl, Nat.le_succ_of_le HB.out.size, HGl.out, ⟨by simp, by rw [HQl.out]; exact HR.out, Nat.lt_of_lt_of_le HG.out.1 HY.out.size, HG.out.on HY.out HG.out.1, H64.out⟩, HB.out.trans (HY.out.mono HB.out.size)⟩
end Wp
end Go.Proofs.Ytlhpnhjfibkgpab
