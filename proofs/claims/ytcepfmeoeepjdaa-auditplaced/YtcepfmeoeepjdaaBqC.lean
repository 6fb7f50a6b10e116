import Derived.Test.YtcepfmeoeepjdaaBqB
namespace Go.Proofs.Ytcepfmeoeepjdaa
namespace Au
open Go.RowKit
set_option linter.unusedVariables false
set_option maxRecDepth 8000
/-- Behind k edges. -/
structure Gr (w wr : World) (c : Cs) (n : Nat) (v : Value) (L : List T3) : Prop where
  o : LR .u32 73 wr (w.heap.size + 1) v (gr n L)
  b : Below w.heap.size w wr
  c : Cb wr w.heap.size c
theorem src_new3 (w : World) (x y z : Nat) (t : TypeId) (c : Nat) : Src3 (w.alloc (.cells #[.int .u32 x, .int .u32 y, .int .u32 z] t)) (.slice (some ⟨w.heap.size, 0, none⟩) 1 c) 1 [.int .u32 x, .int .u32 y, .int .u32 z] := by
  refine Or.inr ⟨_, _, rfl, rfl, ?_, ?_⟩
  · intro j u hj
    rw [add0]
    exact cell_new w _ _ t j u rfl (by simpa using hj)
  · intro u hu
    simp at hu
    rcases hu with rfl | rfl | rfl <;> rfl
theorem own_bel {B : Nat} {e : TypeId} {k : Nat} {v : Value} {n : Nat} {xs : List Value} {w w' : World} (h : w.ownsRow B e k v n xs) (hb : Below w.heap.size w w') : w'.ownsRow B e k v n xs :=
  h.kept (row := none) ⟨hb.os, hb.tape, hb.output, hb.size, fun j hj _ => hb.block j hj⟩ (by cases hv : v.ownBlock <;> simp)
theorem LR.row {t : TypeId} {w : World} {B : Nat} {v : Value} {L : List T3} (h : LR .u32 t w B v L) : ∃ ea ec, v = .slice ea L.length ec ∧ Row3 .u32 w ea L ∧ (ea = none → ec = 0) := by
  have h' := h
  obtain ⟨_, h2⟩ := h
  rcases h2 with ⟨rfl, h0⟩ | ⟨g, cap, cur, rfl, _⟩
  · exact ⟨none, 0, by rw [h0], fun hp => by omega, fun _ => rfl⟩
  · exact ⟨_, cap, rfl, fun _ => ⟨_, rfl, LR.cells h'⟩, fun h => by cases h⟩
theorem ed_set {wr W : World} {eb : Nat} {p q r : Value} (h : Below wr.heap.size wr W) (he : W.heap[eb]? = some (.cells #[p, q, r] 73 (0, 0))) (hb : wr.heap.size ≤ eb) (u : Value) :
    (Below wr.heap.size wr (W.setCell ⟨eb, 0, none⟩ u) ∧ (W.setCell ⟨eb, 0, none⟩ u).heap[eb]? = some (.cells #[u, q, r] 73 (0, 0))) ∧ (Below wr.heap.size wr (W.setCell ⟨eb, 1, none⟩ u) ∧ (W.setCell ⟨eb, 1, none⟩ u).heap[eb]? = some (.cells #[p, u, r] 73 (0, 0))) ∧ (Below wr.heap.size wr (W.setCell ⟨eb, 2, none⟩ u) ∧ (W.setCell ⟨eb, 2, none⟩ u).heap[eb]? = some (.cells #[p, q, u] 73 (0, 0))) := by
  refine ⟨?_, ?_, ?_⟩ <;> (rw [setCell_eq_setRow W eb _ _ 73 (0, 0) _ he]; exact ⟨below_setRow h hb _, setRow_heap _ _ _ _ _ _ he⟩)
theorem ed_cells {W : World} {eb : Nat} {p q r : Value} (he : W.heap[eb]? = some (.cells #[p, q, r] 73 (0, 0))) : W.cell? ⟨eb, 0, none⟩ = some p ∧ W.cell? ⟨eb, 1, none⟩ = some q ∧ W.cell? ⟨eb, 2, none⟩ = some r ∧ W.frozen? ⟨eb, 0, none⟩ = false ∧ W.frozen? ⟨eb, 1, none⟩ = false ∧ W.frozen? ⟨eb, 2, none⟩ = false :=
  ⟨(cell_of_row _ _ _ _ _ _ he).trans rfl, (cell_of_row _ _ _ _ _ _ he).trans rfl, (cell_of_row _ _ _ _ _ _ he).trans rfl, frozen_of_row _ _ _ _ _ he, frozen_of_row _ _ _ _ _ he, frozen_of_row _ _ _ _ _ he⟩
theorem rem_u (x n : Nat) (hx : x < 4294967296) (hn : 0 < n) : IntKind.u32.wrap ((x : Int).tmod (n : Int)) = ((x % n : Nat) : Int) := by
  have h : (x : Int).tmod (n : Int) = ((x % n : Nat) : Int) := (Int.ofNat_tmod x n).symm
  have h2 : x % n ≤ x := Nat.mod_le _ _
  rw [h]
  simp only [IntKind.wrap, IntKind.signed, IntKind.bits]; simp; omega
set_option maxHeartbeats 8000000 in
theorem graph_any (c : Cs) (L : List T3) (hN : c.N < 4294967296) (hL : c.en = L.length) (hl12 : L.length * 12 ≤ 140737488351232) (heb : ∀ e ∈ L, e.1 < 4294967296 ∧ e.2.1 < 4294967296) (w : World) (hE : Row3 .u32 w c.ea L) :
    Calls Try.prog 34 #[.agg (cb c), .int .i64 1] w fun e w' => ∃ ea m ec, e = .returned (.slice ea m ec) ∧ m = (L.take 500).length ∧ Row3 .u32 w' ea (gr (zn c.N) (L.take 500)) ∧ (ea = none → ec = 0) ∧ Below w.heap.size w w' := by
  obtain ⟨n, hn⟩ : ∃ n, zn c.N = n := ⟨_, rfl⟩
  have hnb := zn_b c.N
  rw [hn] at hnb ⊢
  obtain ⟨M, hM⟩ : ∃ M, L.take 500 = M := ⟨_, rfl⟩
  rw [hM]
  have HM := hide hM
  clear hM
  have HE : Hid (∀ k, k < L.length → ∃ eb x y z, c.ea = some eb ∧ L[k]? = some (x, y, z) ∧ ∀ W, Below w.heap.size w W → W.cell? (eb.add (k * 3)) = some (.int .u32 (x : Int)) ∧ W.cell? ⟨(eb.add (k * 3)).block, (eb.add (k * 3)).off + 1, none⟩ = some (.int .u32 (y : Int)) ∧ W.cell? ⟨(eb.add (k * 3)).block, (eb.add (k * 3)).off + 2, none⟩ = some (.int .u32 (z : Int))) := fun k hk => by
    obtain ⟨eb, he, heb, hce⟩ := hE (by omega)
    obtain ⟨⟨x, y, z⟩, hxyz⟩ : ∃ e, L[k]? = some e := ⟨L[k]'(by omega), List.getElem?_eq_getElem (by omega)⟩
    obtain ⟨c1, c2, c3⟩ := cells3 (hce k _ hxyz)
    simp only at c1 c2 c3
    exact ⟨eb, x, y, z, he, hxyz, fun W hW => ⟨(hW.cell (p := eb.add (k * 3)) (by rw [add_block]; exact heb)).trans c1, (hW.cell (p := ⟨(eb.add (k * 3)).block, (eb.add (k * 3)).off + 1, none⟩) (by rw [show (⟨(eb.add (k * 3)).block, (eb.add (k * 3)).off + 1, none⟩ : Addr).block = eb.block from add_block _ _]; exact heb)).trans c2, (hW.cell (p := ⟨(eb.add (k * 3)).block, (eb.add (k * 3)).off + 2, none⟩) (by rw [show (⟨(eb.add (k * 3)).block, (eb.add (k * 3)).off + 2, none⟩ : Addr).block = eb.block from add_block _ _]; exact heb)).trans c3⟩⟩
  have HEB := hide heb
  have HSz : Hid (∀ W : World, Calls Try.prog 33 #[.agg (cb c)] W fun e w' => e = .returned (.int .u32 (n : Int)) ∧ w' = W.alloc (.cells (cb c) 30)) := fun W => by
    have h := size_any c hN W
    rw [hn] at h; exact h
  obtain ⟨w0, hw0⟩ : ∃ w0, w.alloc (.cells (cb c) 30) = w0 := ⟨_, rfl⟩
  have HG0 : Hid (Gr w w0 c n (.slice none 0 0) (L.take 0)) := by
    refine ⟨own_nil _ _ _ _, ?_, ?_⟩
    · rw [← hw0]; exact b1 _ _ _
    · rw [← hw0]; exact at0 _ _
  have HW0 := hide hw0
  have HLn := hide hL
  clear hE heb hw0 hn hL
  go_enter Try.func34, Try.ntmps34
  go_wp2_with (fail)
  rw [HW0.out]
  clear HW0
  go_loopw [5, 6] (fun v t wr => ∃ k : Nat, k ≤ 500 ∧ k ≤ L.length ∧ t = .int .i64 k ∧ Hid (Gr w wr c n v (L.take k))) (fun _ t _ => 500 - (intOf t).toNat)
  case atStart => exact ⟨0, by omega, Nat.zero_le _, rfl, HG0⟩
  case round =>
    clear HG0
    obtain ⟨k, hk5, hkl, rfl, HG⟩ := hrel
    obtain ⟨v, hv5⟩ : ∃ v, v = u5 := ⟨_, rfl⟩
    subst hv5
    obtain ⟨_, _, q2, _⟩ := HG.out.c.k
    by_cases c1 : k < L.length
    · have hc1 : (k : Int) < (c.en : Int) := by have := HLn.out; omega
      by_cases c2 : k < 500
      · have hc2 : (k : Int) < 500 := by omega
        obtain ⟨ex, x, y, z, hea, hxyz, hrd⟩ := HE.out k c1
        obtain ⟨d1, d2, d3⟩ := hrd wr HG.out.b
        obtain ⟨hxb, hyb⟩ := HEB.out _ (List.mem_of_getElem? hxyz)
        simp only at hxb hyb
        rw [hea] at q2
        obtain ⟨X, hX⟩ : ∃ X : Int, ((x % n : Nat) : Int) = X := ⟨_, rfl⟩
        obtain ⟨Y, hY⟩ : ∃ Y : Int, ((y % n : Nat) : Int) = Y := ⟨_, rfl⟩
        have hrx : (x : Int) % (n : Int) = X := by rw [← hX]; omega
        have hry : (y : Int) % (n : Int) = Y := by rw [← hY]; omega
        have HRx := hide hrx
        have HRy := hide hry
        clear hrx hry
        have hn0 : ((n : Int) == 0) = false := by simp; omega
        obtain ⟨eb, heb⟩ : ∃ eb, eb = wr.heap.size := ⟨_, rfl⟩
        obtain ⟨w1, hw1⟩ : ∃ w1, wr.alloc (.cells #[.int .u32 (x : Int), .int .u32 (y : Int), .int .u32 (z : Int)] 73) = w1 := ⟨_, rfl⟩
        have hB1 : Below wr.heap.size wr w1 := by rw [← hw1]; exact b1 _ _ _
        have he1 : w1.heap[eb]? = some (.cells #[.int .u32 (x : Int), .int .u32 (y : Int), .int .u32 (z : Int)] 73 (0, 0)) := by rw [← hw1, heb]; exact at0 _ _
        have HEd : Hid (∀ W, Below wr.heap.size wr W → Gr w W c n v (L.take k)) := fun W h => ⟨own_bel HG.out.o h, HG.out.b.trans (h.mono HG.out.b.size), (h.block _ HG.out.c.lt).trans HG.out.c⟩
        have HLe : Hid (wr.heap.size ≤ eb) := by show _ ≤ _; omega
        have HTk : Hid (gr n (L.take (k + 1)) = gr n (L.take k) ++ [(x % n, y % n, 0)] ∧ (gr n (L.take k)).length = k) := ⟨by rw [List.take_add_one, hxyz]; exact gr_app _ _ _, by rw [gr_len, List.length_take]; omega⟩
        have HW1 := hide hw1
        have Heb := hide heb
        have HXY := hide (And.intro hX hY)
        -- a field of the edge taken modulo n
        have HA : Hid (∀ W p q r, Below wr.heap.size wr W → W.heap[eb]? = some (.cells #[p, q, r] 73 (0, 0)) → Below wr.heap.size wr (W.alloc (.cells (cb c) 30)) ∧ (W.alloc (.cells (cb c) 30)).heap[eb]? = some (.cells #[p, q, r] 73 (0, 0))) := fun W p q r h he => ⟨bA2 h _, keep _ he⟩
        have HB1 := hide hB1
        have HE1 := hide he1
        clear hrd hxyz hxb hyb hX hY heb hw1 hB1 he1 HG hea
        go_wp2_with (fail)
        rw [HW1.out, ← Heb.out]
        clear d1 d2 d3 q2
        obtain ⟨e0, _, _, _⟩ : _ := ed_cells (W := w1.drew) HE1.out
        have hk := ((HEd.out w1 HB1.out).c).k
        obtain ⟨a1, a2⟩ := HA.out w1 _ _ _ HB1.out HE1.out
        obtain ⟨g0, _, _, f0, _, _⟩ := ed_cells (W := (w1.alloc (.cells (cb c) 30)).drew) a2
        have HS6 := hide (ed_set (W := w1.alloc (.cells (cb c) 30)) a1 a2 HLe.out (.int .u32 X)).1
        obtain ⟨k0, k1, k2, k3, k4, k5, k6, k7, k8, k9, k10, k11, k12, k13⟩ : K14 w.heap.size c w1.drew := hk
        clear a1 a2
        apply wp_cut (fun w' => Below wr.heap.size wr w' ∧ w'.heap[eb]? = some (.cells #[.int .u32 X, .int .u32 (y : Int), .int .u32 (z : Int)] 73 (0, 0)))
        case h =>
          go_region_with (go_at_call 33; refine (HSz.out _).mono ?_; rintro e1 w2 ⟨rfl, rfl⟩)
          all_goals exact ⟨rfl, by rw [HRx.out]; exact ⟨belowD HS6.out.1, HS6.out.2⟩⟩
        case hq =>
          rintro w2 ⟨hB2, he2⟩
          have HB2 := hide hB2
          have HE2 := hide he2
          clear hB2 he2 HS6 e0 g0 f0 k0 k1 k2 k3 k4 k5 k6 k7 k8 k9 k10 k11 k12 k13 HB1 HE1 HW1
          obtain ⟨_, e1, _, _, _, _⟩ := ed_cells (W := w2.drew) HE2.out
          have hk := ((HEd.out w2 HB2.out).c).k
          obtain ⟨a1, a2⟩ := HA.out w2 _ _ _ HB2.out HE2.out
          obtain ⟨_, g1, _, _, f1, _⟩ := ed_cells (W := (w2.alloc (.cells (cb c) 30)).drew) a2
          have HS7 := hide (ed_set (W := w2.alloc (.cells (cb c) 30)) a1 a2 HLe.out (.int .u32 Y)).2.1
          obtain ⟨k0, k1, k2, k3, k4, k5, k6, k7, k8, k9, k10, k11, k12, k13⟩ : K14 w.heap.size c w2.drew := hk
          clear a1 a2
          go_wp2_with (fail)
          apply wp_cut (fun w' => Below wr.heap.size wr w' ∧ w'.heap[eb]? = some (.cells #[.int .u32 X, .int .u32 Y, .int .u32 (z : Int)] 73 (0, 0)))
          case h =>
            go_region_with (go_at_call 33; refine (HSz.out _).mono ?_; rintro e1 w2 ⟨rfl, rfl⟩)
            all_goals exact ⟨rfl, by rw [HRy.out]; exact ⟨belowD HS7.out.1, HS7.out.2⟩⟩
          case hq =>
            rintro w3 ⟨hB3, he3⟩
            clear HS7 e1 g1 f1 k0 k1 k2 k3 k4 k5 k6 k7 k8 k9 k10 k11 k12 k13 HB2 HE2
            obtain ⟨_, _, g2, _, _, f2⟩ := ed_cells he3
            obtain ⟨hB4, he4⟩ := (ed_set hB3 he3 HLe.out (.int .u32 0)).2.2
            obtain ⟨h0, h1, h2, _, _, _⟩ := ed_cells he4
            obtain ⟨w4, hw4⟩ : ∃ w4, w3.setCell ⟨eb, 2, none⟩ (.int .u32 0) = w4 := ⟨_, rfl⟩
            have HG4 := hide (HEd.out _ hB4)
            have HO1 : Hid (((w3.setCell ⟨eb, 2, none⟩ (.int .u32 0)).alloc (.cells #[.int .u32 X, .int .u32 Y, .int .u32 0] 73)).ownsRow (w.heap.size + 1) 73 3 v k (cl .u32 (gr n (L.take k)))) := by
              have h := HG4.out.o.alloc (.cells #[.int .u32 X, .int .u32 Y, .int .u32 0] 73)
              rw [HTk.out.2] at h; exact h
            have HSz4 : Hid ((w3.setCell ⟨eb, 2, none⟩ (.int .u32 0)).heap.size = w3.heap.size) := by show _ = _; simp
            have HS : Hid (∀ cp, Src3 ((w3.setCell ⟨eb, 2, none⟩ (.int .u32 0)).alloc (.cells #[.int .u32 X, .int .u32 Y, .int .u32 0] 73)) (.slice (some ⟨w3.heap.size, 0, none⟩) 1 cp) 1 [.int .u32 X, .int .u32 Y, .int .u32 0]) := fun cp => by
              have h := src_new3 (w3.setCell ⟨eb, 2, none⟩ (.int .u32 0)) (x % n) (y % n) 0 73 cp
              rw [HSz4.out, HXY.out.1, HXY.out.2] at h
              exact h
            have HX : Hid (∀ v' w', w'.ownsRow (w.heap.size + 1) 73 3 v' (k + 1) (cl .u32 (gr n (L.take k)) ++ [.int .u32 X, .int .u32 Y, .int .u32 0]) → ((w3.setCell ⟨eb, 2, none⟩ (.int .u32 0)).alloc (.cells #[.int .u32 X, .int .u32 Y, .int .u32 0] 73)).grownBy w' v.ownBlock → Gr w w' c n v' (L.take (k + 1))) := fun v' w' h1 h2 => by
              have hb : Below w.heap.size w ((w3.setCell ⟨eb, 2, none⟩ (.int .u32 0)).alloc (.cells #[.int .u32 X, .int .u32 Y, .int .u32 0] 73)) := bA2 HG4.out.b _
              have hc4 : Cb ((w3.setCell ⟨eb, 2, none⟩ (.int .u32 0)).alloc (.cells #[.int .u32 X, .int .u32 Y, .int .u32 0] 73)) w.heap.size c := keep _ HG4.out.c
              obtain ⟨g1', g2', g3', g4', g5⟩ := h2
              have h2 : ((w3.setCell ⟨eb, 2, none⟩ (.int .u32 0)).alloc (.cells #[.int .u32 X, .int .u32 Y, .int .u32 0] 73)).grownBy w' v.ownBlock := ⟨g1', g2', g3', g4', g5⟩
              refine ⟨?_, hb.grown h2 hb.size (fun j hj => by have := (HO1.out.lt j hj).1; omega), (g5 _ hc4.lt (fun hq => ?_)).trans hc4⟩
              · show w'.ownsRow _ _ _ _ _ _
                rw [HTk.out.1, cl_app, List.length_append, HTk.out.2]
                have h3 : cl .u32 [(x % n, y % n, 0)] = [Value.int .u32 X, .int .u32 Y, .int .u32 0] := by
                  rw [← HXY.out.1, ← HXY.out.2]; rfl
                rw [h3]; exact h1
              · have := (HO1.out.lt _ hq.symm).1; omega
            have hbase : w.heap.size + 1 ≤ ((w3.setCell ⟨eb, 2, none⟩ (.int .u32 0)).alloc (.cells #[.int .u32 X, .int .u32 Y, .int .u32 0] 73)).heap.size := by
              have := HG4.out.c.lt
              rw [World.size_alloc]; omega
            have HBs := hide hbase
            clear hB3 he3 hB4 he4 HEd HA HTk HXY hw4 hbase
            go_wp2_with (at_builtin; refine wpList_append3 tpE rfl _ _ rfl (w.heap.size + 1) _ _ k 1 _ _ rfl HO1.out rfl (HS.out _) (by omega) (by decide) HBs.out ?_)
            intro v1 w5 hown1 hgr1 _
            have HE9 := hide (HX.out v1 w5 hown1 hgr1)
            clear hown1 hgr1 HX HO1 HS HBs HSz4 HG4 g2 f2 h0 h1 h2
            go_wp2
            all_goals exact ⟨⟨k + 1, by omega, by omega, by go_num, HE9⟩, by simp [intOf]; omega⟩
      · have hc2 : ¬ (k : Int) < 500 := by omega
        have hk : k = 500 := by omega
        subst hk
        have HEnd : Hid (∃ ea m ec, v = .slice ea m ec ∧ m = M.length ∧ Row3 .u32 wr ea (gr n M) ∧ (ea = none → ec = 0) ∧ Below w.heap.size w wr) := by
          rw [← HM.out]
          obtain ⟨ea, ec, q1, q2, q3⟩ := LR.row HG.out.o
          rw [gr_len] at q1
          exact ⟨ea, _, ec, q1, rfl, q2, q3, HG.out.b⟩
        clear HG
        obtain ⟨ea, m, ec, rfl, e2⟩ := HEnd.out
        have HE2 := hide e2
        clear e2 HEnd
        go_wp2
        all_goals go_ret
        all_goals exact ⟨ea, m, ec, rfl, HE2.out⟩
    · have hc1 : ¬ (k : Int) < (c.en : Int) := by have := HLn.out; omega
      have hk : L.take k = L.take 500 := by rw [List.take_of_length_le (by omega), List.take_of_length_le (by omega)]
      have HEnd : Hid (∃ ea m ec, v = .slice ea m ec ∧ m = M.length ∧ Row3 .u32 wr ea (gr n M) ∧ (ea = none → ec = 0) ∧ Below w.heap.size w wr) := by
        rw [← HM.out]
        obtain ⟨ea, ec, q1, q2, q3⟩ := LR.row HG.out.o
        rw [gr_len, hk] at q1
        rw [hk] at q2
        exact ⟨ea, _, ec, q1, rfl, q2, q3, HG.out.b⟩
      clear HG hk
      obtain ⟨ea, m, ec, rfl, e2⟩ := HEnd.out
      have HE2 := hide e2
      clear e2 HEnd
      go_wp2
      all_goals go_ret
      all_goals exact ⟨ea, m, ec, rfl, HE2.out⟩
end Au
end Go.Proofs.Ytcepfmeoeepjdaa
