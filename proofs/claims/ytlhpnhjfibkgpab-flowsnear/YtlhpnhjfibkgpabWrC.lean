import Derived.Test.YtlhpnhjfibkgpabWrB
namespace Go.Proofs.Ytlhpnhjfibkgpab
namespace Wp
open Go.RowKit
set_option linter.unusedVariables false
set_option maxRecDepth 8000
theorem below1 {w w1 : World} (gb : Nat) (h : Below w.heap.size w w1) (hb : gb < w.heap.size) {c : Array Value} {t : TypeId} (hg : w.heap[gb]? = some (.cells c t (0, 0))) : w1.heap[gb]? = some (.cells c t (0, 0)) := (h.block _ hb).trans hg
theorem K3.set0 {w : World} {b : Nat} {x y z v : Int} (h : w.heap[b]? = some (.cells (ev x y z) 53 (0, 0))) : w.setCell ⟨b, 0, none⟩ (.int .u32 v) = w.setRow b (ev v y z) := by rw [setCell_eq_setRow w b 0 _ 53 (0, 0) _ h]; rfl
theorem K3.set1 {w : World} {b : Nat} {x y z v : Int} (h : w.heap[b]? = some (.cells (ev x y z) 53 (0, 0))) : w.setCell ⟨b, 1, none⟩ (.int .u32 v) = w.setRow b (ev x v z) := by rw [setCell_eq_setRow w b 1 _ 53 (0, 0) _ h]; rfl
theorem K3.set2 {w : World} {b : Nat} {x y z v : Int} (h : w.heap[b]? = some (.cells (ev x y z) 53 (0, 0))) : w.setCell ⟨b, 2, none⟩ (.int .u32 v) = w.setRow b (ev x y v) := by rw [setCell_eq_setRow w b 2 _ 53 (0, 0) _ h]; rfl
theorem f3 {w : World} {b : Nat} {c : Array Value} {t : TypeId} (h : w.heap[b]? = some (.cells c t (0, 0))) : w.frozen? ⟨b, 0, none⟩ = false ∧ w.frozen? ⟨b, 1, none⟩ = false ∧ w.frozen? ⟨b, 2, none⟩ = false := by
  refine ⟨?_, ?_, ?_⟩ <;> exact frozen_of_row w b _ _ t h
theorem kg {w : World} {b : Nat} {N : Int} {s : Value} {t : TypeId} (h : w.heap[b]? = some (.cells #[.int .i64 N, s] t (0, 0))) : w.cell? ⟨b, 0, none⟩ = some (.int .i64 N) ∧ w.cell? ⟨b, 1, none⟩ = some s := by
  refine ⟨?_, ?_⟩ <;> exact (cell_of_row w b _ _ t (0, 0) h).trans rfl
/-- What lies where in list's body: the graph in block gb, the edge in block bx. -/
def Q1 (N : Int) (s : Value) (gb bx : Nat) (x y z : Int) (wr w' : World) : Prop := w'.heap[bx]? = some (.cells (ev x y z) 53 (0, 0)) ∧ w'.heap[gb]? = some (.cells #[.int .i64 N, s] 24 (0, 0)) ∧ Below bx wr w'
theorem Q1.mk {N : Int} {s : Value} {gb bx : Nat} {x y z : Int} {wr w' : World} (h1 : w'.heap[bx]? = some (.cells (ev x y z) 53 (0, 0))) (h2 : w'.heap[gb]? = some (.cells #[.int .i64 N, s] 24 (0, 0))) (h3 : Below bx wr w') : Q1 N s gb bx x y z wr w' := ⟨h1, h2, h3⟩
set_option maxHeartbeats 4000000 in
theorem list_any (N : Int) (a : Option Addr) (m c : Nat) (E : Nat → Int × Int × Int) (hm : m ≤ 11728124029610) (w : World) (hr : IRow w a m E) (hE : ∀ i, i < m → 0 ≤ (E i).1 ∧ 0 ≤ (E i).2.1) :
    Calls Try.prog 5 #[.agg #[.int .i64 N, .slice a m c], .int .i64 1] w fun e w' => ∃ a' c', e = .returned (.slice a' m c') ∧ ERow w' a' m (le1 N E) ∧ Below w.heap.size w w' := by
  have HR : Hid (∀ W, Below w.heap.size w W → IRow W a m E) := fun W h => hr.on h
  have HE := hide hE
  have HX : Hid (Below w.heap.size w (w.alloc (.cells #[.int .i64 N, .slice a m c] 24))) := b1 _ _ _
  have HX0 : Hid ((w.alloc (.cells #[.int .i64 N, .slice a m c] 24)).heap[w.heap.size]? = some (.cells #[.int .i64 N, .slice a m c] 24 (0, 0))) := at0 _ _
  clear hr hE
  go_enter Try.func5, Try.ntmps5
  go_wp2_with (fail)
  go_loopw [5, 6] (fun v k wr => ∃ j : Nat, j ≤ m ∧ k = .int .i64 j ∧ Hid (wr.ownsRow (w.heap.size + 1) 53 3 v j (ce (le1 N E) j)) ∧ Hid (Below w.heap.size w wr) ∧ Hid (wr.heap[w.heap.size]? = some (.cells #[.int .i64 N, .slice a m c] 24 (0, 0)))) (fun _ k _ => m - (intOf k).toNat)
  case atStart => exact ⟨0, Nat.zero_le _, rfl, World.ownsRow_nil _ _ _ _, HX, HX0⟩
  case round =>
    clear HX HX0
    obtain ⟨j, hj, rfl, HO, HB, HG⟩ := hrel
    have hg := kg HG.out
    by_cases cc : j < m
    · obtain ⟨x, rfl, hx, hc⟩ := HR.out wr HB.out (by omega)
      obtain ⟨c1, c2, c3⟩ := hc j cc
      have he := HE.out j cc
      have HZ : Hid (w.heap.size < wr.heap.size) := (Array.getElem?_eq_some_iff.1 HG.out).1
      obtain ⟨e1, he1⟩ : ∃ e1, (E j).1 = e1 := ⟨_, rfl⟩
      obtain ⟨e2, he2⟩ : ∃ e2, (E j).2.1 = e2 := ⟨_, rfl⟩
      obtain ⟨e3, he3⟩ : ∃ e3, (E j).2.2 = e3 := ⟨_, rfl⟩
      rw [he1] at c1 he
      rw [he2] at c2 he
      rw [he3] at c3
      have HLe : Hid (le1 N E j = (e1 % (gz N : Int), e2 % (gz N : Int), 0)) := by show _ = _; unfold le1; rw [he1, he2]
      clear hc he1 he2 he3
      have hq1 := (gz_b N).1
      have hq2 := (gz_b N).2
      have hq0 : ¬ gz N = 0 := by omega
      have HSz := hide (size_any N (.slice (some x) m c))
      have ht1 : e1.tmod (gz N : Int) = e1 % (gz N : Int) := Int.tmod_eq_emod_of_nonneg he.1
      have ht2 : e2.tmod (gz N : Int) = e2 % (gz N : Int) := Int.tmod_eq_emod_of_nonneg he.2
      generalize gz N = q at *
      go_wp2_with (fail)
      have H2x := hide (at0 wr (.cells (ev e1 e2 e3) 53))
      have H2g : Hid ((wr.alloc (.cells (ev e1 e2 e3) 53)).heap[w.heap.size]? = some (.cells #[.int .i64 N, .slice (some x) m c] 24 (0, 0))) := keep _ HG.out
      have H2b : Hid (Below wr.heap.size wr (wr.alloc (.cells (ev e1 e2 e3) 53))) := b1 _ _ _
      have H2z : Hid (wr.heap.size < (wr.alloc (.cells (ev e1 e2 e3) 53)).heap.size) := by show _ < _; simp
      generalize wr.alloc (.cells (ev e1 e2 e3) 53) = w2 at *
      generalize hbx : wr.heap.size = bx at *
      have k2x : K3 bx e1 e2 e3 w2.drew := k3 (t := 53) H2x.out
      have k2g := kg (w := w2.drew) H2g.out
      have f2x := f3 (w := w2.drew) H2x.out
      clear c1 c2 c3 hg hx
      apply wp_cut (fun w' => Q1 N (.slice (some x) m c) w.heap.size bx (e1 % (q : Int)) e2 e3 wr w')
      case h =>
        go_region_with ((first | (go_at_call 4; refine (HSz.out _).mono ?_; rintro e4 w4 ⟨rfl, hw4⟩; have H4x : Hid (w4.heap[bx]? = some (.cells (ev e1 e2 e3) 53 (0, 0))) := (by show _ = _; rw [hw4]; exact keep _ H2x.out); have H4g : Hid (w4.heap[w.heap.size]? = some (.cells #[.int .i64 N, .slice (some x) m c] 24 (0, 0))) := (by show _ = _; rw [hw4]; exact keep _ H2g.out); have H4b : Hid (Below bx wr w4) := (by show Below _ _ _; rw [hw4]; exact bA (belowD H2b.out) (Nat.le_of_lt H2z.out) _); clear hw4; have k4x := k3 (t := 53) H4x.out; have f4x := f3 H4x.out)))
        all_goals rw [K3.set0 H4x.out]
        all_goals exact ⟨rfl, Q1.mk (setRow_heap _ _ _ _ 53 (0, 0) H4x.out) ((setRow_other _ _ _ _ (Nat.ne_of_lt HZ.out)).trans H4g.out) (below_setRow H4b.out (Nat.le_refl _) _)⟩
      case hq =>
        clear k2x k2g f2x H2x H2g H2b H2z
        rintro w3 ⟨h3x, h3g, h3b⟩
        have H3x := hide h3x
        have H3g := hide h3g
        have H3b := hide h3b
        have H3z : Hid (bx < w3.heap.size) := (Array.getElem?_eq_some_iff.1 h3x).1
        have k3x : K3 bx (e1 % (q : Int)) e2 e3 w3.drew := k3 (t := 53) h3x
        have k3g := kg (w := w3.drew) h3g
        have f3x := f3 (w := w3.drew) h3x
        clear h3x h3g h3b
        go_wp2_with (fail)
        apply wp_cut (fun w' => Q1 N (.slice (some x) m c) w.heap.size bx (e1 % (q : Int)) (e2 % (q : Int)) e3 wr w')
        case h =>
          go_region_with ((first | (go_at_call 4; refine (HSz.out _).mono ?_; rintro e4 w4 ⟨rfl, hw4⟩; have H4x : Hid (w4.heap[bx]? = some (.cells (ev (e1 % (q : Int)) e2 e3) 53 (0, 0))) := (by show _ = _; rw [hw4]; exact keep _ H3x.out); have H4g : Hid (w4.heap[w.heap.size]? = some (.cells #[.int .i64 N, .slice (some x) m c] 24 (0, 0))) := (by show _ = _; rw [hw4]; exact keep _ H3g.out); have H4b : Hid (Below bx wr w4) := (by show Below _ _ _; rw [hw4]; exact bA (belowD H3b.out) (Nat.le_of_lt H3z.out) _); clear hw4; have k4x := k3 (t := 53) H4x.out; have f4x := f3 H4x.out)))
          all_goals rw [K3.set1 H4x.out]
          all_goals exact ⟨rfl, Q1.mk (setRow_heap _ _ _ _ 53 (0, 0) H4x.out) ((setRow_other _ _ _ _ (Nat.ne_of_lt HZ.out)).trans H4g.out) (below_setRow H4b.out (Nat.le_refl _) _)⟩
        case hq =>
          clear k3x k3g f3x H3x H3g H3b H3z
          rintro w5 ⟨h5x, h5g, h5b⟩
          have H5x := hide h5x
          have H5g := hide h5g
          have H5b := hide h5b
          have k5x := k3 (t := 53) h5x
          have f5x := f3 h5x
          clear h5x h5g h5b
          have E5 := K3.set2 (v := 0) H5x.out
          have H6x : Hid ((w5.setRow bx (ev (e1 % (q : Int)) (e2 % (q : Int)) 0)).heap[bx]? = some (.cells (ev (e1 % (q : Int)) (e2 % (q : Int)) 0) 53 (0, 0))) := setRow_heap _ _ _ _ 53 (0, 0) H5x.out
          have H6g : Hid ((w5.setRow bx (ev (e1 % (q : Int)) (e2 % (q : Int)) 0)).heap[w.heap.size]? = some (.cells #[.int .i64 N, .slice (some x) m c] 24 (0, 0))) := (setRow_other _ _ _ _ (Nat.ne_of_lt HZ.out)).trans H5g.out
          have H6b : Hid (Below bx wr (w5.setRow bx (ev (e1 % (q : Int)) (e2 % (q : Int)) 0))) := below_setRow H5b.out (Nat.le_refl _) _
          generalize w5.setRow bx (ev (e1 % (q : Int)) (e2 % (q : Int)) 0) = w6 at *
          have k6x := k3 (t := 53) H6x.out
          have HO6 : Hid (w6.ownsRow (w.heap.size + 1) 53 3 u5 j (ce (le1 N E) j)) := own_below HO.out (by rw [hbx]; exact H6b.out)
          have HZ6 : Hid (w.heap.size + 1 ≤ w6.heap.size) := Nat.le_trans HZ.out (by have := H6b.out.size; omega)
          go_wp2_with (first | (refine wpList_append3 tp3 rfl _ _ rfl (w.heap.size + 1) u5 j (ce (le1 N E) j) ⟨w6.heap.size, 0, none⟩ 1 (ev (e1 % (q : Int)) (e2 % (q : Int)) 0).toList rfl (HO6.out.alloc _) rfl rfl (fun i u hu => by rw [add0]; exact cell_new w6 _ _ 53 i u rfl (by simpa using hu)) (by intro u hu; simp at hu; rcases hu with rfl | rfl | rfl <;> rfl) (by omega) (by rw [World.size_alloc]; exact Nat.le_succ_of_le HZ6.out) ?_; intro v7 w7 hown7 hgr7) | fail)
          have HN5 : Hid (some w.heap.size ≠ u5.ownBlock) := fun e => by have := (World.ownsRow.lt HO6.out _ e.symm).1; omega
          have HB6 : Hid (Below w.heap.size w (w6.alloc (.cells (ev (e1 % (q : Int)) (e2 % (q : Int)) 0) 53))) := bA (HB.out.trans (H6b.out.mono (Nat.le_of_lt HZ.out))) (Nat.le_of_succ_le HZ6.out) _
          have HB7 : Hid (Below w.heap.size w w7) := HB6.out.grown hgr7 HB6.out.size (fun k hk => by have := (World.ownsRow.lt HO6.out k hk).1; omega)
          refine ⟨⟨j + 1, cc, by go_num, ?_, HB7, ?_⟩, by simp [intOf]; omega⟩
          · show World.ownsRow _ _ _ _ _ _ _
            rw [show ce (le1 N E) (j + 1) = ce (le1 N E) j ++ (ev (le1 N E j).1 (le1 N E j).2.1 (le1 N E j).2.2).toList from rfl, HLe.out]
            exact hown7
          · exact (hgr7.block _ (by rw [World.size_alloc]; have := HZ6.out; omega) HN5.out).trans (keep _ H6g.out)
    · have hjm : j = m := by omega
      subst hjm
      obtain ⟨a', c', rfl, hE7, _⟩ := own_er HO.out
      have HE7 := hide hE7
      clear cc hj hE7
      go_wp2
      all_goals go_ret
      all_goals exact ⟨a', c', rfl, HE7.out, HB.out⟩
end Wp
end Go.Proofs.Ytlhpnhjfibkgpab
