import Derived.Test.YtlhpnhjfibkgpaaWtC
import Derived.Test.YtlhpnhjfibkgpaaWrA
import Derived.Laws.AppendOwnNone
import Derived.Maps.AppendAt
namespace Go.Proofs.Ytlhpnhjfibkgpaa
namespace Wp
open Go.RowKit
set_option linter.unusedVariables false
set_option maxRecDepth 8000
theorem infoU : (Try.prog.info? 25).map (fun i => (i.zero, i.size, i.bytes)) = some (some (.int .u32 0), 1, 4) := by kernel_rfl
theorem info_u : ∃ i0, Try.prog.info? 25 = some i0 ∧ i0.zero = some (.int .u32 0) ∧ i0.size = 1 ∧ i0.bytes = 4 := by
  have h := infoU
  cases hh : Try.prog.info? 25 with
  | none => rw [hh] at h; cases h
  | some i => rw [hh] at h; simp at h; exact ⟨i, rfl, h.1, h.2.1, h.2.2⟩
set_option maxHeartbeats 1000000 in
theorem max_one (qb c : Nat) (s : Int) (w : World) (hc : w.cell? ⟨qb, 0, none⟩ = some (.int .u32 s)) : Calls Try.prog 51 #[.slice (some ⟨qb, 0, none⟩) 1 c] w fun e w' => e = .returned (.int .u32 s) ∧ w' = w := by
  go_enter Try.func51, Try.ntmps51
  go_wp2
  go_loop [3, 4] (fun z t => z = .int .u32 s ∧ t = .int .i64 1) (fun _ t => 1)
  case atStart => exact ⟨rfl, rfl⟩
  case round =>
    obtain ⟨rfl, rfl⟩ := hrel
    go_wp2
    all_goals go_ret
    all_goals exact ⟨rfl, rfl⟩
theorem some_ne (x : Addr) (l c : Nat) (W : World) : (binOp .eql 89 (.slice (some x) l c) (.slice none 0 0)).run Try.prog W = .ok (.bool false) W := rfl
theorem own1 (w : World) : (w.alloc (.cells #[] 25)).ownsRow w.heap.size 25 1 (.slice (some ⟨w.heap.size, 0, none⟩) 0 0) 0 [] :=
  ⟨rfl, Or.inr ⟨w.heap.size, 0, #[], rfl, Nat.le_refl _, at0 w _, Nat.le_refl _, by unfold maxLen; omega, rfl, rfl⟩⟩
theorem wpList_appendU {w : World} {ops : Array Oper} {rest : List Oper} {o : Oper} {a : Act} {Q : Exit → Act → World → Prop} (hgd : o.guard = none) (s x : Operand)
    (ho : o.op = .call { callee := .builtin .append, args := #[s, x], argTypes := #[89, 89] }) (base : Nat) (v : Value) (n : Nat) (xs : List Value) (ad : Addr) (c : Nat) (y : Int) (hs : a.eval s = v) (hown : w.ownsRow base 25 1 v n xs)
    (hx : a.eval x = .slice (some ad) 1 c) (hc : w.cell? ad = some (.int .u32 y)) (h63 : n ≤ 1000000) (hbase : base ≤ w.heap.size)
    (h : ∀ v' w', w'.ownsRow base 25 1 v' (n + 1) (xs ++ [.int .u32 y]) → w.grownBy w' v.ownBlock → wpList Try.prog ops Q rest (a.put o.dst v') w') : wpList Try.prog ops Q (o :: rest) a w := by
  obtain ⟨i0, hi, hz0, hz1, hz2⟩ := info_u
  exact wpList_append_own_at w hgd s x 89 ho base 25 i0 (.int .u32 0) 1 4 Try.underlying89 hi hz0 hz1 hz2 rfl (by decide) v n xs hs hown ad 1 c [.int .u32 y] hx rfl (fun j u hj => by
    match j, hj with
    | 0, hj => simp at hj; subst hj; rw [show ad.add 0 = ad from by unfold Addr.add; cases ad; simp]; exact hc) (fun u hu => by simp at hu; subst hu; rfl) (by unfold maxLen; omega) (by omega) hbase (fun v' w' h2 h3 _ h5 => h v' w' h2 h3)
/-- A list of one number. -/
def One (s : Int) (w : World) (e : Value) (w' : World) : Prop := ∃ g c, e = .slice (some ⟨g, 0, none⟩) 1 c ∧ (w.heap.size ≤ g ∧ g < w'.heap.size) ∧ w'.cell? ⟨g, 0, none⟩ = some (.int .u32 s) ∧ Below w.heap.size w w'
set_option maxHeartbeats 1000000 in
theorem clone_one (qb c : Nat) (s : Int) (w : World) (hc : w.cell? ⟨qb, 0, none⟩ = some (.int .u32 s)) (hq : qb < w.heap.size) : Calls Try.prog 52 #[.slice (some ⟨qb, 0, none⟩) 1 c] w fun e w' => ∃ v, e = .returned v ∧ One s w v w' := by
  have hn := some_ne ⟨qb, 0, none⟩ 1 c
  have HO := hide (own1 w)
  have hs : Hid ((w.alloc (.cells #[] 25)).cell? ⟨qb, 0, none⟩ = some (.int .u32 s)) := ((b1 w 25 #[]).cell hq).trans hc
  clear hc hq
  go_enter Try.func52, Try.ntmps52
  go_wp2_with (refine wpList_appendU rfl _ _ rfl w.heap.size _ 0 [] _ c s rfl HO.out rfl hs.out (by omega) (by simp) ?_)
  rintro v' w' h1 h2
  have hB : Below w.heap.size w w' := (b1 w 25 #[]).grown h2 (by simp) (fun j hj => (World.ownsRow.lt HO.out j hj).1)
  have hv : One s w v' w' := by
    have h1' := h1
    rcases h1.2 with ⟨_, h0⟩ | ⟨g, cap, cur, rfl, h3, h4, h5⟩
    · omega
    · exact ⟨g, cap, rfl, ⟨h3, (Array.getElem?_eq_some_iff.1 h4).1⟩, World.ownsRow.cells h1' (g := g) rfl 0 _ rfl, hB⟩
  have HV := hide hv
  clear h1 h2 HO hs hn hB hv
  go_wp2
  go_ret
  exact ⟨_, rfl, HV.out⟩
theorem size91 : (Try.prog.info? 91).map (·.size) = some 2 := by kernel_rfl
set_option maxHeartbeats 2000000 in
theorem levels_one (n : Int) (qb c : Nat) (s : Int) (h1 : 1 ≤ n) (h2 : n ≤ 2147483647) (hs : s < n) (w : World) (hc : w.cell? ⟨qb, 0, none⟩ = some (.int .u32 s)) (hq : qb < w.heap.size) : Calls Try.prog 36 #[.int .u32 n, .slice (some ⟨qb, 0, none⟩) 1 c] w fun e w' => ∃ g c', e = .returned (.tuple #[.agg (bv n g c'), .int .i64 0]) ∧ g < w'.heap.size ∧ w'.cell? ⟨g, 0, none⟩ = some (.int .u32 s) ∧ Below w.heap.size w w' := by
  have HZ := hide (isSize_any n h1 h2)
  have HX : Hid (Below w.heap.size w (w.alloc (.cells #[.int .u32 0, .slice none 0 0] 91))) := b1 _ _ _
  have HX0 : Hid ((w.alloc (.cells #[.int .u32 0, .slice none 0 0] 91)).heap[w.heap.size]? = some (.cells #[.int .u32 0, .slice none 0 0] 91 (0, 0))) := at0 _ _
  have hc0 := (HX.out.cell hq).trans hc
  have HM := hide (max_one qb c s _ hc0)
  have HC := hide (clone_one qb c s _ hc0 (Nat.lt_of_lt_of_le hq HX.out.size))
  have hlt : decide (n ≤ s) = false := by simp; omega
  clear hc hc0 hq
  go_enter Try.func36, Try.ntmps36
  go_wp2_with (fail)
  refine (HZ.out _).mono ?_
  rintro e1 w1 ⟨rfl, hw1⟩
  subst w1
  go_wp2_with (fail)
  refine HM.out.mono ?_
  rintro e2 w2 ⟨rfl, hw2⟩
  subst w2
  go_wp2_with (fail)
  refine HC.out.mono ?_
  rintro e3 w3 ⟨v3, rfl, g, c', rfl, hg, hcell, hB⟩
  have HG := hide hg
  have HCe := hide hcell
  have HB := hide hB
  have HQ : Hid (w3.heap[w.heap.size]? = some (.cells #[.int .u32 0, .slice none 0 0] 91 (0, 0))) := (hB.block _ (by simp)).trans HX0.out
  have hk : w3.cell? ⟨w.heap.size, 0, none⟩ = some (.int .u32 0) ∧ w3.cell? ⟨w.heap.size, 1, none⟩ = some (.slice none 0 0) := by
    refine ⟨?_, ?_⟩ <;> exact (cell_of_row w3 w.heap.size _ _ 91 (0, 0) HQ.out).trans rfl
  have hf : w3.frozen? ⟨w.heap.size, 0, none⟩ = false ∧ w3.frozen? ⟨w.heap.size, 1, none⟩ = false := by
    refine ⟨?_, ?_⟩ <;> exact frozen_of_row w3 w.heap.size _ _ 91 HQ.out
  clear hg hcell hB HM HC HZ
  go_wp2
  have E2 : (w3.setCell ⟨w.heap.size, 0, none⟩ (.int .u32 n)).setCell ⟨w.heap.size, 1, none⟩ (.slice (some ⟨g, 0, none⟩) 1 c') = w3.setRow w.heap.size (bv n g c') := by
    rw [setCell_eq_setRow w3 w.heap.size 0 _ 91 (0, 0) _ HQ.out]
    have q1 := setRow_heap w3 w.heap.size _ (#[Value.int .u32 0, Value.slice none 0 0].setIfInBounds 0 (.int .u32 n)) 91 (0, 0) HQ.out
    rw [setCell_eq_setRow _ w.heap.size 1 _ 91 (0, 0) _ q1, setRow_setRow]
    rfl
  rw [E2]
  have HRf := hide (setRow_heap w3 w.heap.size _ (bv n g c') 91 (0, 0) HQ.out)
  have hge : w.heap.size < g := by have := HG.out.1; simp at this; omega
  refine bodyPost_ret (v := .tuple #[.agg (bv n g c'), .int .i64 0]) ?_ rfl ⟨g, c', rfl, by simp; exact HG.out.2, (cell_setRow_other w3 _ _ _ (Nat.ne_of_gt hge)).trans HCe.out, below_setRow (HX.out.trans (HB.out.mono HX.out.size)) (Nat.le_refl _) _⟩
  simp only [results, Try.results36, asAddr]
  simp [run_loadVar_row _ _ 91 91 _ (0, 0) _ HRf.out Try.underlying91 rfl size91]
set_option maxHeartbeats 2000000 in
theorem bfs_any (n s : Int) (h1 : 1 ≤ n) (h2 : n ≤ 2147483647) (hs : s < n) (w : World) : Calls Try.prog 26 #[.int .u32 n, .int .u32 s] w fun e w' => ∃ fb qb q, e = .returned (.tuple #[.pointer (some ⟨fb, 0, none⟩), .int .i64 0]) ∧ w.heap.size ≤ fb ∧ FB n s qb q fb w' ∧ Below w.heap.size w w' := by
  have HX : Hid (Below w.heap.size w (w.alloc (.cells #[.int .u32 s] 25))) := b1 _ _ _
  have HL := hide (levels_one n w.heap.size 1 s h1 h2 hs (w.alloc (.cells #[.int .u32 s] 25)) ((cell_of_row _ w.heap.size 0 _ 25 (0, 0) (at0 w _)).trans rfl) (by simp))
  go_enter Try.func26, Try.ntmps26
  go_wp2_with (fail)
  refine HL.out.mono ?_
  rintro e1 w1 ⟨g, c', rfl, hg, hc, hB⟩
  have HG := hide hg
  have HC := hide hc
  have HB : Hid (Below w.heap.size w w1) := HX.out.trans (hB.mono HX.out.size)
  have HY : Hid (Below w1.heap.size w1 ((w1.alloc (.cells (bv n g c') 91)).alloc (.cells #[.iface 95 (.agg (bv n g c'))] 79))) := by repeat first | exact Below.refl _ _ | refine bA ?_ (by first | exact Nat.le_refl _ | (simp only [World.size_alloc]; omega)) _
  have HR : Hid (((w1.alloc (.cells (bv n g c') 91)).alloc (.cells #[.iface 95 (.agg (bv n g c'))] 79)).heap[w1.heap.size + 1]? = some (.cells #[.iface 95 (.agg (bv n g c'))] 79 (0, 0))) := by
    have := at0 (w1.alloc (.cells (bv n g c') 91)) (.cells #[.iface 95 (.agg (bv n g c'))] 79)
    rw [World.size_alloc] at this; exact this
  clear hg hc hB HL HX
  go_wp2
  all_goals go_ret2
  all_goals exact ⟨w1.heap.size + 1, g, c', rfl, Nat.le_succ_of_le HB.out.size, ⟨by simp, HR.out, Nat.lt_of_lt_of_le HG.out HY.out.size, (HY.out.cell HG.out).trans HC.out⟩, HB.out.trans (HY.out.mono HB.out.size)⟩
end Wp
end Go.Proofs.Ytlhpnhjfibkgpaa
