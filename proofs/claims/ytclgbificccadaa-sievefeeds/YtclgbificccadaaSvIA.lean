import Derived.Test.YtclgbificccadaaSvI0
namespace Go.Proofs.Ytclgbificccadaa
namespace Sv
open Go.RowKit Go.Shelf
set_option linter.unusedVariables false
attribute [local go_sem] Oper.semAt_some
set_option maxRecDepth 100000 in
set_option maxHeartbeats 4000000 in
theorem feeds_A (a : Option Addr) (c : Nat) (L : List T3) (behind stop : Int) (h1 : behind < 0) (w : World) (hl : L.length * 12 ≤ 140737488351232) (hn : a = none → c = 0) (hr : Row3 .u32 w a L) :
    Calls Try.prog 3 #[.slice a L.length c, .int .i64 behind, .int .i64 stop] w fun e w' => e = .returned (.bool true) ∧ Below w.heap.size w w' := by
  have HS : Hid (∀ W, Below w.heap.size w W → Src W (.slice a L.length c) L.length (cl .u32 L)) := fun W hW => (hr.on hW (Nat.le_refl _)).src c hn
  have HR : Hid (∀ W, Below w.heap.size w W → Row3 .u32 W a L) := fun W hW => hr.on hW (Nat.le_refl _)
  clear hr hn
  have HST := ST.new w a c L 0 stop
  have HO : Hid ((((((w.alloc (.cells #[.slice a L.length c] 22)).alloc (.cells #[.int .i64 stop] 3)).alloc (.cells #[.bool false] 4)).alloc (.cells #[.int .i64 0] 23)).alloc (.cells #[] 29)).ownsRow (w.heap.size + 4) 29 3 (.slice (some ⟨w.heap.size + 1 + 1 + 1 + 1, 0, none⟩) 0 0) 0 []) := by
    have h := own_empty ((((w.alloc (.cells #[.slice a L.length c] 22)).alloc (.cells #[.int .i64 stop] 3)).alloc (.cells #[.bool false] 4)).alloc (.cells #[.int .i64 0] 23)) 29 (w.heap.size + 4) (by simp)
    simp only [World.size_alloc] at h
    exact h
  refine (callsIn_wide (n := 20)).1 ?_
  refine callsIn_of_wp_marks Try.func3 rfl trivial ?_ rfl
  simp only [Try.ntmps3, List.size_toArray, List.length_cons, List.length_nil, Nat.reduceAdd, Nat.reduceSub, Array.replicate_succ, Array.replicate_zero, List.push_toArray, List.append_toArray, List.nil_append, List.cons_append]
  gi_wp2_with (gi_at_builtin; refine wpListIn_append3 tpE rfl _ _ rfl (w.heap.size + 4) _ _ 0 L.length [] (cl .u32 L) rfl HO.out rfl (HS.out _ (b5 w _ _ _ _ _)) (by omega) (by decide) (by simp only [World.size_alloc]; omega) ?_)
  intro v1 w1 hown1 hgr1 hat1
  have hB1 : Below (w.heap.size + 4) ((((w.alloc (.cells #[.slice a L.length c] 22)).alloc (.cells #[.int .i64 stop] 3)).alloc (.cells #[.bool false] 4)).alloc (.cells #[.int .i64 0] 23)) w1 :=
    ((Below.refl _ _).alloc (by simp) _).grown hgr1 (by simp only [World.size_alloc]; omega) (fun j hj => by simp [Value.ownBlock] at hj; omega)
  have hBw : Below w.heap.size w w1 := (b5 w _ _ _ _ (.cells #[] 29)).grown hgr1 (by simp only [World.size_alloc]; omega) (fun j hj => by simp [Value.ownBlock] at hj; omega)
  replace HST := HST.on hB1 (by omega)
  replace hown1 : w1.ownsRow (w.heap.size + 4) 29 3 v1 L.length (cl .u32 L) := by simpa using hown1
  have hs1 := hgr1.size
  simp only [World.size_alloc] at hs1
  obtain ⟨gm, cm, rfl⟩ := own_some hown1 (by rcases hat1 with h | h <;> rw [h] <;> simp [Value.ownBlock])
  have hgm := hown1.lt gm rfl
  have hcm : L.length ≤ cm := by
    rcases hown1.2 with ⟨e, _⟩ | ⟨g', cap', cur, e, h3, h4, h5, _⟩
    · cases e
    · cases e; exact h5
  have HM : Hid (Row3 .u32 w1 (some ⟨gm, 0, none⟩) L) := fun _ => ⟨_, rfl, LR.cells hown1⟩
  have HF : Hid (Fr w1 gm (L.length * 3)) := by
    rcases hown1.2 with ⟨e, _⟩ | ⟨g', cap', cur, e, h3, h4, h5, h6, h7, h8⟩
    · cases e
    · cases e
      intro j hj
      refine ⟨by simp [World.frozen?, h4], cur[j]'(by have := Nat.mul_le_mul_right 3 h5; omega), ?_⟩
      have : cur[j]? = some (cur[j]'(by have := Nat.mul_le_mul_right 3 h5; omega)) := Array.getElem?_eq_getElem _
      simp [World.cell?, h4, this]
  clear hB1 hgr1 hat1 hown1 HS
  obtain ⟨s, Hs⟩ : ∃ s, Hid (s = w.heap.size) := ⟨_, rfl⟩
  have cE := HST.2.2.2.cell
  gi_wp2
  refine ⟨trivial, ?_⟩
  refine (callsIn_wide.2 (feed_any ⟨gm, 0, none⟩ cm L 0 w1 hl HM.out)).mono ?_
  rintro e2 w2 ⟨g, ct, Bt, rfl, hL, bT, bF, hBt, hB2⟩
  have hs2 := hB2.size
  replace HST := HST.on hB2 (by omega)
  have hcells := LR.cells hL
  have hgl := hL.lt g rfl
  have hct : L.length ≤ ct := by
    rcases hL.2 with ⟨e, _⟩ | ⟨g', cap', cur, e, h3, h4, h5, _⟩
    · cases e
    · cases e; exact h5
  replace hBw := hBw.trans (hB2.mono hBw.size)
  have HF2 : Hid (Fr w2 gm (L.length * 3)) := fun j hj => by
    obtain ⟨x, v, y⟩ := HF.out j hj
    exact ⟨(by rw [← x]; simp only [World.frozen?, hB2.block gm hgm.2]), v, (hB2.cell (p := ⟨gm, j, none⟩) hgm.2).trans y⟩
  clear HF HM hL hB2 cE
  have hq : ∀ (fv : Array Value) (W : World), Sem.run Try.prog (binOp BinOp.eql 25 (Value.func (Fn.func 30) #[] fv) Value.nilFunc) W = .ok (.bool false) W := fun _ _ => rfl
  have HS2 : Hid (ST w.heap.size a c L 0 stop w2) := HST
  have HC2 : Hid (At3 .u32 w2 ⟨g, 0, none⟩ L) := hcells
  have HB2 : Hid (Boxed w2 Bt 22 (.slice (some ⟨g, 0, none⟩) L.length ct) ∧ Boxed w2 w1.heap.size 23 (.int .i64 0)) := ⟨bT, bF⟩
  have hBtl := bT.lt
  clear HST hcells bT bF
  generalize w1.heap.size = Bf at *
  gi_wp2
  clear hq
  gi_loopw [10] (fun i wr => ∃ k : Nat, k ≤ L.length ∧ i = .int .i64 k ∧ But gm w2 wr ∧ Fr wr gm (L.length * 3)) (fun i _ => L.length - (intOf i).toNat)
  case atStart => exact ⟨0, Nat.zero_le _, rfl, But.refl _ _, HF2.out⟩
  case round =>
    obtain ⟨k, hk, rfl, hBu, hFr⟩ := hrel
    by_cases hlt : k < L.length
    · have hcl : (k : Int) < (cm : Int) := by omega
      obtain ⟨f0, x0, y0⟩ := hFr (k * 3) (by omega)
      obtain ⟨f1, x1, y1⟩ := hFr (k * 3 + 1) (by omega)
      obtain ⟨f2, x2, y2⟩ := hFr (k * 3 + 2) (by omega)
      have HB' : Hid (But gm w2 (((wr.setCell ⟨gm, k * 3, none⟩ (.int .u32 2147483648)).setCell ⟨gm, k * 3 + 1, none⟩ (.int .u32 0)).setCell ⟨gm, k * 3 + 2, none⟩ (.int .u32 0))) := ((hBu.set _ _).set _ _).set _ _
      have HF' : Hid (Fr (((wr.setCell ⟨gm, k * 3, none⟩ (.int .u32 2147483648)).setCell ⟨gm, k * 3 + 1, none⟩ (.int .u32 0)).setCell ⟨gm, k * 3 + 2, none⟩ (.int .u32 0)) gm (L.length * 3)) := ((hFr.set _ (by omega) _).set _ (by omega) _).set _ (by omega) _
      clear hBu hFr
      gi_wp2
      exact ⟨⟨k + 1, by omega, by go_num, HB'.out, HF'.out⟩, by simp [intOf]; omega⟩
    · obtain rfl : k = L.length := by omega
      have hne : ∀ i, i ≠ gm → wr.heap[i]? = w2.heap[i]? := hBu.2.2.2.2
      have HST : Hid (ST w.heap.size a c L 0 stop wr) := HS2.out.of (fun k hk => hne k (by omega))
      have HC : Hid (At3 .u32 wr ⟨g, 0, none⟩ L) := by
        have h := HC2.out
        have hg : wr.heap[g]? = w2.heap[g]? := hne g (by omega)
        refine ⟨same_lt hg h.1, fun i e he => ?_⟩
        obtain ⟨c0, c1, c2⟩ := h.2 i e he
        exact ⟨(World.cell?_of_block (by rw [add_block]; exact hg)).trans c0, (World.cell?_of_block (by rw [add_block]; exact hg)).trans c1, (World.cell?_of_block (by rw [add_block]; exact hg)).trans c2⟩
      have HB : Hid (Boxed wr Bt 22 (.slice (some ⟨g, 0, none⟩) L.length ct) ∧ Boxed wr Bf 23 (.int .i64 0)) := ⟨(hne Bt (by omega)).trans HB2.out.1, (hne Bf (by omega)).trans HB2.out.2⟩
      have hBr : Below w.heap.size w wr := hBw.trans (hBu.below (by omega) hBw.size)
      have hszr : wr.heap.size = w2.heap.size := hBu.2.2.2.1
      clear hBu hFr HF2 HS2 HC2 HB2 hne hBw
      have hszl : w2.heap.size ≤ wr.heap.size := by omega
      clear hszr
      gi_wp2
      refine wpIn_loop_rounds 4 (rounds_of (RF w.heap.size Bt Bf wr) ?step ?zero 4 _ _ ?start)
      case zero =>
        rintro a9 W ⟨j, T, Ds, Br, hm, hj, _⟩
        omega
      case start =>
        exact ⟨0, _, [], wr.heap.size, rfl, Nat.zero_le _, rfl, rfl, rfl, ⟨rfl, rfl, rfl, rfl, rfl, rfl⟩, Boxed.new wr 3 _, Nat.le_refl _, b1 _ _ _, (fun D hD => absurd hD (by simp)), List.nodup_nil⟩
      case step =>
        rintro m a9 W ⟨j, T, Ds, Br, hmj, hj, rfl, hDl, hT, ⟨t3, t5, t6, t7, t9, t11⟩, bR, hBr1, hBW, hDs, hnd⟩
        obtain ⟨u, rfl⟩ := lit102 T hT
        simp at t3 t5 t6 t7 t9 t11
        simp only [t3, t5, t6, t7, t9, t11]
        have hST := HST.out.on hBW (by omega)
        have cR := bR.cell
        by_cases hj3 : j = 3
        · subst hj3
          obtain ⟨D1, D2, D3, rfl⟩ : ∃ D1 D2 D3, Ds = [D1, D2, D3] := by
            match Ds, hDl with
            | [x, y, z], _ => exact ⟨x, y, z, rfl⟩
          have cT : W.cell? ⟨w.heap.size + 1 + 1, 0, none⟩ = some (.bool false) := hST.2.2.1.cell
          have fT : W.frozen? ⟨w.heap.size + 1 + 1, 0, none⟩ = false := hST.2.2.1.frozen
          obtain ⟨q1, q2, q3⟩ : (W.heap[D1]? = some (.deferred (some [])) ∧ wr.heap.size ≤ D1) ∧ (W.heap[D2]? = some (.deferred (some [])) ∧ wr.heap.size ≤ D2) ∧ (W.heap[D3]? = some (.deferred (some [])) ∧ wr.heap.size ≤ D3) := ⟨hDs _ (by simp), hDs _ (by simp), hDs _ (by simp)⟩
          obtain ⟨n1, n2, n3⟩ : D1 ≠ D2 ∧ D1 ≠ D3 ∧ D2 ≠ D3 := by
            simp at hnd; omega
          have hR1 : (W.setCell ⟨w.heap.size + 1 + 1, 0, none⟩ (.bool true)).heap[D1]? = some (.deferred (some [])) := (Below.heap_setCell _ _ _ D1 (by show D1 ≠ w.heap.size + 1 + 1; omega)).trans q1.1
          have hR2 : ((W.setCell ⟨w.heap.size + 1 + 1, 0, none⟩ (.bool true)).putObj D1 (.deferred none)).heap[D2]? = some (.deferred (some [])) := (World.putObj_heap_other (by omega)).trans ((Below.heap_setCell _ _ _ D2 (by show D2 ≠ w.heap.size + 1 + 1; omega)).trans q2.1)
          have hR3 : (((W.setCell ⟨w.heap.size + 1 + 1, 0, none⟩ (.bool true)).putObj D1 (.deferred none)).putObj D2 (.deferred none)).heap[D3]? = some (.deferred (some [])) := (World.putObj_heap_other (by omega)).trans ((World.putObj_heap_other (by omega)).trans ((Below.heap_setCell _ _ _ D3 (by show D3 ≠ w.heap.size + 1 + 1; omega)).trans q3.1))
          have bF : Boxed ((((W.setCell ⟨w.heap.size + 1 + 1, 0, none⟩ (.bool true)).putObj D1 (.deferred none)).putObj D2 (.deferred none)).putObj D3 (.deferred none)) (w.heap.size + 1 + 1) 4 (.bool true) :=
            (((Boxed.set (.bool true) hST.2.2.1).kept (grownBy_putObj' _ D1 _) (fun h => by cases h; omega)).kept (grownBy_putObj' _ D2 _) (fun h => by cases h; omega)).kept (grownBy_putObj' _ D3 _) (fun h => by cases h; omega)
          have cF := bF.cell
          have hBe := hBr.trans (hBW.mono hBr.size)
          have HF : Hid (Below w.heap.size w ((((W.setCell ⟨w.heap.size + 1 + 1, 0, none⟩ (.bool true)).putObj D1 (.deferred none)).putObj D2 (.deferred none)).putObj D3 (.deferred none))) :=
            (((hBe.setCell (p := ⟨w.heap.size + 1 + 1, 0, none⟩) (by show w.heap.size ≤ w.heap.size + 1 + 1; omega) _).trans (belowK_b (w := w) (Nat.le_refl _) _ D1 _ _ (by omega) hR1 rfl rfl)).trans (belowK_b (w := w) (Nat.le_refl _) _ D2 _ _ (by omega) hR2 rfl rfl)).trans (belowK_b (w := w) (Nat.le_refl _) _ D3 _ _ (by omega) hR3 rfl rfl)
          clear hST bR hBe hnd hDs q1 q2 q3 HB HC
          gi_wp2
          refine ⟨by simp, .inl ⟨_, _, rfl, run_takeDeferred hR1, ?_⟩⟩
          refine ⟨by simp, .inl ⟨_, _, rfl, run_takeDeferred hR2, ?_⟩⟩
          refine ⟨by simp, .inl ⟨_, _, rfl, run_takeDeferred hR3, ?_⟩⟩
          exact ⟨.bool true, by simp [results, Try.f3, go_sem, cF], rfl, HF.out⟩
        · have hj2 : (j : Int) < 3 := by omega
          have hsW := hBW.size
          have bN := (Boxed.new W 3 (.int .i64 0)).alloc (.cells #[.bool false] 4)
          have bD := boxed_of (Boxed.new (W.alloc (.cells #[.int .i64 0] 3)) 4 (.bool false)) (show _ = W.heap.size + 1 by simp)
          have hBn : Below W.heap.size W ((W.alloc (.cells #[.int .i64 0] 3)).alloc (.cells #[.bool false] 4)) := b2 W _ _ _ _
          have hBo : Below wr.heap.size wr ((W.alloc (.cells #[.int .i64 0] 3)).alloc (.cells #[.bool false] 4)) := hBW.trans (hBn.mono hsW)
          have hgw : g < wr.heap.size := HC.out.1
          have hfw : Bf < wr.heap.size := HB.out.2.lt
          have htw : Bt < wr.heap.size := HB.out.1.lt
          gi_wp2
          rename_i Kc hKc
          have after : ∀ (pre : List Tl) (D : Nat) (W' : World), ((W.alloc (.cells #[.int .i64 0] 3)).alloc (.cells #[.bool false] 4)).heap.size ≤ D → (pre = Ms L (0) ∨ j = 1) → Boxed W' W.heap.size 3 (.int .i64 (pre.length : Int)) → Boxed W' (W.heap.size + 1) 4 (.bool (decide (L.length < pre.length))) → Below W.heap.size W W' → W'.heap[D]? = some (.deferred (some [])) →
              Kc { tmps := #[u 0, u 1, u 2, .pointer (some ⟨w.heap.size, 0, none⟩), u 4, .pointer (some ⟨w.heap.size + 1, 0, none⟩), .pointer (some ⟨w.heap.size + 1 + 1, 0, none⟩), .pointer (some ⟨w.heap.size + 1 + 1 + 1, 0, none⟩), u 8, .func (.func 30) #[] #[.pointer (some ⟨Bt, 0, none⟩), .pointer (some ⟨Bf, 0, none⟩)], u 10, .pointer (some ⟨Br, 0, none⟩), .pointer (some ⟨W.heap.size, 0, none⟩), .pointer (some ⟨W.heap.size + 1, 0, none⟩), u 14, u 15, u 16, u 17, u 18, u 19, u 20, u 21, u 22, u 23, u 24, u 25, u 26, u 27, u 28, u 29, u 30, u 31, u 32, u 33, u 34, u 35, u 36, .int .i64 (j : Int), .bool true, u 39, u 40, .func (.func 30) #[] #[.pointer (some ⟨Bt, 0, none⟩), .pointer (some ⟨Bf, 0, none⟩)], u 42, u 43, u 44, u 45, u 46, u 47, u 48, u 49, u 50, u 51, u 52, u 53, u 54, u 55, u 56, u 57, u 58, u 59, u 60, u 61, u 62, u 63, u 64, u 65, u 66, u 67, u 68, u 69, u 70, u 71, u 72, u 73, u 74, u 75, u 76, u 77, u 78, u 79, u 80, u 81, u 82, u 83, u 84, u 85, u 86, u 87, u 88, u 89, u 90, u 91, u 92, u 93, u 94, u 95, u 96, u 97, u 98, u 99, u 100, u 101], defers := { target := .collected D, args := #[] } :: Ds.map (fun D => { target := .collected D, args := #[] }) } W' := by
            intro pre D W' hD hor bN1 bD1 hBb hK
            refine hKc _ _ ?_
            have hBrl := bR.lt
            have hsb := hBb.size
            have hBbw := hBW.trans (hBb.mono hsW)
            have hSb := HST.out.on hBbw (by omega)
            have cEd := hSb.1.cell
            have cEr : W'.cell? ⟨w.heap.size + 1 + 1 + 1, 0, none⟩ = some (.int .i64 (0)) := hSb.2.2.2.cell
            have cRo := (boxed_on bR hBb hBrl).cell
            have hMl := Ms_len L (0)
            have HEND : Hid (RF w.heap.size Bt Bf wr m { tmps := #[], defers := [] } W' → True) := fun _ => trivial
            have HRD : Hid (∀ T : Array Value, T.size = 102 → (T[3]? = some (.pointer (some ⟨w.heap.size, 0, none⟩)) ∧ T[5]? = some (.pointer (some ⟨w.heap.size + 1, 0, none⟩)) ∧ T[6]? = some (.pointer (some ⟨w.heap.size + 1 + 1, 0, none⟩)) ∧ T[7]? = some (.pointer (some ⟨w.heap.size + 1 + 1 + 1, 0, none⟩)) ∧
                T[9]? = some (.func (.func 30) #[] #[.pointer (some ⟨Bt, 0, none⟩), .pointer (some ⟨Bf, 0, none⟩)]) ∧ T[11]? = some (.pointer (some ⟨W'.heap.size, 0, none⟩))) →
                RF w.heap.size Bt Bf wr m { tmps := T, defers := { target := .collected D, args := #[] } :: Ds.map (fun D => { target := .collected D, args := #[] }) } (W'.alloc (.cells #[.int .i64 ((j : Int) + 1)] 3))) := by
              intro T hTs hTt
              have hKl := (Array.getElem?_eq_some_iff.1 hK).1
              simp only [World.size_alloc] at hD
              refine ⟨j + 1, T, D :: Ds, W'.heap.size, by omega, by omega, rfl, by simp [hDl], hTs, hTt, Boxed.new W' 3 _, by omega, hBbw.alloc (by omega) _, ?_, ?_⟩
              · intro D' hD'
                rcases List.mem_cons.1 hD' with rfl | h
                · exact ⟨(Below.heap_alloc _ _ _ hKl).trans hK, by omega⟩
                · obtain ⟨q1, q2⟩ := hDs D' h
                  have hl' := (Array.getElem?_eq_some_iff.1 q1).1
                  exact ⟨(Below.heap_alloc _ _ _ (by omega)).trans ((hBb.block D' hl').trans q1), q2⟩
              · refine List.nodup_cons.2 ⟨fun h => ?_, hnd⟩
                have hl' := (Array.getElem?_eq_some_iff.1 (hDs D h).1).1
                omega
            clear HEND hSb bN bD hBn hBo HB HC hST hBbw hK hKc
            have cN := bN1.cell
            have cD := bD1.cell
            by_cases hj1 : j = 1
            · have hj1' : ((j : Int) != 1) = false := by rw [hj1]; rfl
              clear cN cD bN1 bD1 hj1 hor
              gi_wp2
              exact HRD.out _ rfl ⟨rfl, rfl, rfl, rfl, rfl, rfl⟩
            · have hj1' : ((j : Int) != 1) = true := by simp; omega
              obtain rfl := hor.resolve_right hj1
              rw [hMl] at cN cD
              by_cases hE0 : (0 : Int) = 0
              · first
                  | (exfalso; omega)
                  | (rw [if_pos hE0] at cN cD
                     rw [show decide (L.length < L.length + 0) = false by simp] at cD
                     rw [Nat.add_zero] at cN
                     clear bN1 bD1 hMl
                     gi_wp2
                     exact HRD.out _ rfl ⟨rfl, rfl, rfl, rfl, rfl, rfl⟩)
              · first
                  | (exfalso; omega)
                  | (rw [if_neg hE0] at cN cD
                     rw [show decide (L.length < L.length + 1) = true by simp] at cD
                     have hlt9 : ¬ ((L.length + 1 : Nat) : Int) < (L.length : Int) := by omega
                     have hE1 : ((0 : Int) != 0) = true := bne_iff_ne.2 hE0
                     clear bN1 bD1 hMl
                     gi_wp2
                     exact HRD.out _ rfl ⟨rfl, rfl, rfl, rfl, rfl, rfl⟩)
          refine wpIn_rangeFunc_ownH rfl (by decide) (gf := 30) (lb := #[.pointer (some ⟨Bt, 0, none⟩), .pointer (some ⟨Bf, 0, none⟩)]) rfl trivial (enters_of Try.func30 (by kernel_rfl) rfl)
            (feed_stops Fence.wide 19 trivial rfl (by decide) Bt Bf 0 g ct L 0 (by omega) hct _ (boxed_on HB.out.1 hBo htw) (boxed_on HB.out.2 hBo hfw) (HC.out.on hBo (Nat.le_refl _))) Kk.t (Kk.b (by simp; omega) (by simp; omega)) (Below.refl _ _) (fun _ => rfl)
            (fun pre W' => (pre <+: Ms L 0 ∧ Boxed W' W.heap.size 3 (.int .i64 (pre.length : Int))) ∧ (Boxed W' (W.heap.size + 1) 4 (.bool (decide (L.length < pre.length))) ∧ Below W.heap.size W W'))
            (fun cd pre W' => (cd = .ret ∧ ¬ pre <+: Ms L 0) ∨ (((cd = .exit 4 ∧ j = 1) ∧ Boxed W' W.heap.size 3 (.int .i64 (pre.length : Int))) ∧ (Boxed W' (W.heap.size + 1) 4 (.bool (decide (L.length < pre.length))) ∧ Below W.heap.size W W')))
            (OwnFrom.and (OwnFrom.and (ownFrom_pure _ _) (Own.from (boxed_own _ _ _) _)) (OwnFrom.and (Own.from (boxed_own _ _ _) _) (ownFrom_below (Nat.le_refl _) (by simp; omega))))
            (fun cd => OwnFrom.or (ownFrom_pure _ _) (OwnFrom.and (OwnFrom.and (ownFrom_pure _ _) (Own.from (boxed_own _ _ _) _)) (OwnFrom.and (Own.from (boxed_own _ _ _) _) (ownFrom_below (Nat.le_refl _) (by simp; omega)))))
            ⟨⟨List.nil_prefix, bN⟩, by simpa using bD, hBn⟩
            (fun z a' W' => ∃ Bx, a' = { tmps := #[u 0, u 1, u 2, .pointer (some ⟨w.heap.size, 0, none⟩), u 4, .pointer (some ⟨w.heap.size + 1, 0, none⟩), .pointer (some ⟨w.heap.size + 1 + 1, 0, none⟩), .pointer (some ⟨w.heap.size + 1 + 1 + 1, 0, none⟩), u 8, .func (.func 30) #[] #[.pointer (some ⟨Bt, 0, none⟩), .pointer (some ⟨Bf, 0, none⟩)], u 10, .pointer (some ⟨Br, 0, none⟩), .pointer (some ⟨W.heap.size, 0, none⟩), .pointer (some ⟨W.heap.size + 1, 0, none⟩), .pointer (some ⟨Bx, 0, none⟩), .int .i64 z.2, u 16, u 17, u 18, u 19, u 20, u 21, u 22, u 23, u 24, u 25, u 26, u 27, u 28, u 29, u 30, u 31, u 32, u 33, u 34, u 35, u 36, .int .i64 (j : Int), .bool true, u 39, u 40, .func (.func 30) #[] #[.pointer (some ⟨Bt, 0, none⟩), .pointer (some ⟨Bf, 0, none⟩)], eV z.1.1 z.1.2.1 z.1.2.2, .int .i64 z.2, u 44, u 45, u 46, u 47, u 48, u 49, u 50, u 51, u 52, u 53, u 54, u 55, u 56, u 57, u 58, u 59, u 60, u 61, u 62, u 63, u 64, u 65, u 66, u 67, u 68, u 69, u 70, u 71, u 72, u 73, u 74, u 75, u 76, u 77, u 78, u 79, u 80, u 81, u 82, u 83, u 84, u 85, u 86, u 87, u 88, u 89, u 90, u 91, u 92, u 93, u 94, u 95, u 96, u 97, u 98, u 99, u 100, u 101], defers := [] } ∧ W'.heap[Bx]? = some (.cells #[.int .u32 z.1.1, .int .u32 z.1.2.1, .int .u32 z.1.2.2] 29) ∧ W.heap.size + 1 < Bx)
            (fun z a' _ X Y row hs hg hr => by
              obtain ⟨Bx, h1, h2, h3⟩ := hs
              refine ⟨Bx, h1, (hg.block Bx (Array.getElem?_eq_some_iff.1 h2).1 (fun e => ?_)).trans h2, h3⟩
              obtain ⟨_, o, ho, hc⟩ := hr Bx e.symm
              rw [h2] at ho; cases ho; cases hc)
            ?assign ?body ?done ?stop
          case assign =>
            rintro l2 pre z Wa K ⟨⟨hp, bN1⟩, bD1, hBa⟩ hK2
            have hsa := hBa.size
            have hda := bD1.lt
            gi_wp2
            exact hK2 _ _ (keepsFrom_below (b1 _ _ _)) (Kk.below (b1 _ _ _) (by omega) (by omega)) ⟨⟨hp, bN1.alloc _⟩, bD1.alloc _, hBa.alloc hsa _⟩ ⟨Wa.heap.size, rfl, World.alloc_heap_new _ _, hda⟩
          case body =>
            rintro l2 pre z a' Wb hl2 ⟨rc, hrc⟩ ⟨⟨hp, bN1⟩, bD1, hBb⟩ ⟨Bx, rfl, hBx, hBx1⟩ hlt
            have hsb := hBb.size
            have hBrl := bR.lt
            have hBbw := hBW.trans (hBb.mono hsW)
            have hSb := HST.out.on hBbw (by omega)
            have cEd := hSb.1.cell
            have cSt : Wb.cell? ⟨w.heap.size + 1, 0, none⟩ = some (.int .i64 stop) := hSb.2.1.cell
            have cRe : Wb.cell? ⟨w.heap.size + 1 + 1, 0, none⟩ = some (.bool false) := hSb.2.2.1.cell
            have fRe : Wb.frozen? ⟨w.heap.size + 1 + 1, 0, none⟩ = false := hSb.2.2.1.frozen
            have cEr : Wb.cell? ⟨w.heap.size + 1 + 1 + 1, 0, none⟩ = some (.int .i64 (0)) := hSb.2.2.2.cell
            have hRow := HR.out Wb (hBr.trans (hBbw.mono hBr.size))
            have cRo := (boxed_on bR hBb hBrl).cell
            have cN := bN1.cell
            have fN := bN1.frozen
            have hMl := Ms_len L (0)
            have hle : pre.length ≤ L.length := by split at hMl <;> omega
            have hdf : decide (L.length < pre.length) = false := by simp; omega
            rw [hdf] at bD1
            have cD := bD1.cell
            have fD := bD1.frozen
            have cX0 : Wb.cell? ⟨Bx, 0, none⟩ = some (.int .u32 z.1.1) := by simp [World.cell?, hBx]
            have cX1 : Wb.cell? ⟨Bx, 1, none⟩ = some (.int .u32 z.1.2.1) := by simp [World.cell?, hBx]
            have cX2 : Wb.cell? ⟨Bx, 2, none⟩ = some (.int .u32 z.1.2.2) := by simp [World.cell?, hBx]
            have HI : Hid (Boxed Wb W.heap.size 3 (.int .i64 (pre.length : Int)) ∧ Boxed Wb (W.heap.size + 1) 4 (.bool false) ∧ Below W.heap.size W Wb) := ⟨bN1, bD1, hBb⟩
            have hlb : (pre.length : Int) ≤ 140737488351232 := by omega
            clear hSb bN1 bD1 hBb hBbw hdf hBx hrc bN bD hBn hBo HB HC hST
            by_cases heq : pre.length = L.length
            · exfalso
              have h9 : (Ms L 0).length = L.length := by simp [Ms_len]
              omega
            · have hlt2 : pre.length < L.length := by omega
              obtain ⟨e, he⟩ : ∃ e, L[pre.length]? = some e := ⟨L[pre.length], List.getElem?_eq_getElem hlt2⟩
              have hnx : (Ms L (0))[pre.length]? = some (e, 0) := by
                unfold Ms
                rw [List.getElem?_append_left (by simpa using hlt2), List.getElem?_map, he]
                rfl
              have bdy : z = (e, 0) → pre ++ [z] <+: Ms L (0) := fun h => by subst h; exact snoc_prefix hp hnx
              have bdn : z ≠ (e, 0) → ¬ pre ++ [z] <+: Ms L (0) := fun h h' => h (snoc_of_prefix hnx h')
              obtain ⟨x, rfl, hx⟩ := hRow (by omega)
              obtain ⟨x0, x1, x2⟩ := cells3 (hx.2 _ e he)
              have hgt : ¬ (L.length : Int) < (pre.length : Int) := by omega
              have hne : ((pre.length : Int) == (L.length : Int)) = false := by simp; omega
              have hlt3 : (pre.length : Int) < (L.length : Int) := by omega
              clear hx hnx hp hRow
              by_cases hze : z.1 = e
              case neg =>
                have HY : Hid (¬ pre ++ [z] <+: Ms L (0)) := bdn (fun h => hze (by rw [h]))
                have hq : ∀ W9 : World, Sem.run Try.prog (binOp BinOp.neq 29 (eV z.1.1 z.1.2.1 z.1.2.2) (eV e.1 e.2.1 e.2.2)) W9 = .ok (.bool true) W9 := neqE z.1 e hze
                clear bdy bdn
                gi_wp2
                refine thenIn_cut (fun a' w' => (∃ v74 v75 v76 : Value, a' = { tmps := #[u 0, u 1, u 2, .pointer (some ⟨w.heap.size, 0, none⟩), u 4, .pointer (some ⟨w.heap.size + 1, 0, none⟩), .pointer (some ⟨w.heap.size + 1 + 1, 0, none⟩), .pointer (some ⟨w.heap.size + 1 + 1 + 1, 0, none⟩), u 8, .func (.func 30) #[] #[.pointer (some ⟨Bt, 0, none⟩), .pointer (some ⟨Bf, 0, none⟩)], u 10, .pointer (some ⟨Br, 0, none⟩), .pointer (some ⟨W.heap.size, 0, none⟩), .pointer (some ⟨W.heap.size + 1, 0, none⟩), .pointer (some ⟨Bx, 0, none⟩), .int .i64 z.2, u 16, u 17, u 18, u 19, u 20, u 21, u 22, u 23, u 24, u 25, u 26, u 27, u 28, u 29, u 30, u 31, u 32, u 33, u 34, u 35, u 36, .int .i64 (j : Int), .bool true, u 39, u 40, .func (.func 30) #[] #[.pointer (some ⟨Bt, 0, none⟩), .pointer (some ⟨Bf, 0, none⟩)], eV z.1.1 z.1.2.1 z.1.2.2, .int .i64 z.2, .int .i64 (pre.length : Int), .slice (some x) L.length c, .int .i64 (L.length : Int), .bool false, .bool false, .bool false, .bool false, .int .i64 (pre.length : Int), .slice (some x) L.length c, .int .i64 (L.length : Int), .bool false, u 55, u 56, u 57, u 58, u 59, u 60, u 61, u 62, u 63, u 64, u 65, u 66, eV z.1.1 z.1.2.1 z.1.2.2, .slice (some x) L.length c, .int .i64 (pre.length : Int), .pointer (some (x.add (pre.length * 3))), eV e.1 e.2.1 e.2.2, .bool true, .bool true, v74, v75, v76, .bool true, u 78, u 79, u 80, u 81, u 82, u 83, u 84, u 85, u 86, u 87, u 88, u 89, u 90, u 91, u 92, u 93, u 94, u 95, u 96, u 97, u 98, u 99, u 100, u 101], defers := [] }) ∧ w' = Wb.drew) ?_ ?_
                · gi_region_with (first | (refine ⟨trivial, ?_⟩; gi_at_call 9; refine (CallsIn.inRound l2 (callsIn_wide.2 (num_any _ _))).mono ?_; rintro e5 w5 ⟨rfl, rfl⟩) | (refine ⟨trivial, ?_⟩))
                  all_goals exact ⟨⟨_, _, _, rfl⟩, rfl⟩
                · rintro a9 W9 ⟨⟨v74, v75, v76, rfl⟩, rfl⟩
                  gi_wp2
                  exact ⟨((KeepsOthers.setCell _ _ _).trans (KeepsOthers.drew _)).from _, .inl ⟨rfl, HY.out⟩⟩
              have e1 : z.1.1 = e.1 := by rw [hze]
              have e2 : z.1.2.1 = e.2.1 := by rw [hze]
              have e3 : z.1.2.2 = e.2.2 := by rw [hze]
              rw [← e1] at x0
              rw [← e2] at x1
              rw [← e3] at x2
              by_cases hz0 : z.2 = 0
              case neg =>
                have HY : Hid (¬ pre ++ [z] <+: Ms L (0)) := bdn (fun h => hz0 (by rw [h]))
                clear bdy bdn e1 e2 e3 hze
                gi_wp2
                refine thenIn_cut (fun a' w' => a' = { tmps := #[u 0, u 1, u 2, .pointer (some ⟨w.heap.size, 0, none⟩), u 4, .pointer (some ⟨w.heap.size + 1, 0, none⟩), .pointer (some ⟨w.heap.size + 1 + 1, 0, none⟩), .pointer (some ⟨w.heap.size + 1 + 1 + 1, 0, none⟩), u 8, .func (.func 30) #[] #[.pointer (some ⟨Bt, 0, none⟩), .pointer (some ⟨Bf, 0, none⟩)], u 10, .pointer (some ⟨Br, 0, none⟩), .pointer (some ⟨W.heap.size, 0, none⟩), .pointer (some ⟨W.heap.size + 1, 0, none⟩), .pointer (some ⟨Bx, 0, none⟩), .int .i64 z.2, u 16, u 17, u 18, u 19, u 20, u 21, u 22, u 23, u 24, u 25, u 26, u 27, u 28, u 29, u 30, u 31, u 32, u 33, u 34, u 35, u 36, .int .i64 (j : Int), .bool true, u 39, u 40, .func (.func 30) #[] #[.pointer (some ⟨Bt, 0, none⟩), .pointer (some ⟨Bf, 0, none⟩)], eV z.1.1 z.1.2.1 z.1.2.2, .int .i64 z.2, .int .i64 (pre.length : Int), .slice (some x) L.length c, .int .i64 (L.length : Int), .bool false, .bool false, .bool false, .bool false, .int .i64 (pre.length : Int), .slice (some x) L.length c, .int .i64 (L.length : Int), .bool false, u 55, u 56, u 57, u 58, u 59, u 60, u 61, u 62, u 63, u 64, u 65, u 66, eV z.1.1 z.1.2.1 z.1.2.2, .slice (some x) L.length c, .int .i64 (pre.length : Int), .pointer (some (x.add (pre.length * 3))), eV z.1.1 z.1.2.1 z.1.2.2, .bool false, .bool false, .int .i64 z.2, .int .i64 z.2, .bool true, .bool true, u 78, u 79, u 80, u 81, u 82, u 83, u 84, u 85, u 86, u 87, u 88, u 89, u 90, u 91, u 92, u 93, u 94, u 95, u 96, u 97, u 98, u 99, u 100, u 101], defers := [] } ∧ w' = Wb.drew) ?_ ?_
                · gi_region_with (refine ⟨trivial, ?_⟩; gi_at_call 9; refine (CallsIn.inRound l2 (callsIn_wide.2 (num_any _ _))).mono ?_; rintro e5 w5 ⟨rfl, rfl⟩)
                  all_goals exact ⟨by simp [hz0], rfl⟩
                · rintro a9 W9 ⟨rfl, rfl⟩
                  gi_wp2
                  exact ⟨((KeepsOthers.setCell _ _ _).trans (KeepsOthers.drew _)).from _, .inl ⟨rfl, HY.out⟩⟩
              have HY : Hid (pre ++ [z] <+: Ms L (0)) := bdy (Prod.ext hze hz0)
              clear bdy bdn e1 e2 e3 hze
              gi_wp2
              refine thenIn_cut (fun a' w' => a' = { tmps := #[u 0, u 1, u 2, .pointer (some ⟨w.heap.size, 0, none⟩), u 4, .pointer (some ⟨w.heap.size + 1, 0, none⟩), .pointer (some ⟨w.heap.size + 1 + 1, 0, none⟩), .pointer (some ⟨w.heap.size + 1 + 1 + 1, 0, none⟩), u 8, .func (.func 30) #[] #[.pointer (some ⟨Bt, 0, none⟩), .pointer (some ⟨Bf, 0, none⟩)], u 10, .pointer (some ⟨Br, 0, none⟩), .pointer (some ⟨W.heap.size, 0, none⟩), .pointer (some ⟨W.heap.size + 1, 0, none⟩), .pointer (some ⟨Bx, 0, none⟩), .int .i64 0, u 16, u 17, u 18, u 19, u 20, u 21, u 22, u 23, u 24, u 25, u 26, u 27, u 28, u 29, u 30, u 31, u 32, u 33, u 34, u 35, u 36, .int .i64 (j : Int), .bool true, u 39, u 40, .func (.func 30) #[] #[.pointer (some ⟨Bt, 0, none⟩), .pointer (some ⟨Bf, 0, none⟩)], eV z.1.1 z.1.2.1 z.1.2.2, .int .i64 0, .int .i64 (pre.length : Int), .slice (some x) L.length c, .int .i64 (L.length : Int), .bool false, .bool false, .bool false, .bool false, .int .i64 (pre.length : Int), .slice (some x) L.length c, .int .i64 (L.length : Int), .bool false, u 55, u 56, u 57, u 58, u 59, u 60, u 61, u 62, u 63, u 64, u 65, u 66, eV z.1.1 z.1.2.1 z.1.2.2, .slice (some x) L.length c, .int .i64 (pre.length : Int), .pointer (some (x.add (pre.length * 3))), eV z.1.1 z.1.2.1 z.1.2.2, .bool false, .bool false, .int .i64 0, .int .i64 0, .bool false, .bool false, u 78, u 79, u 80, u 81, u 82, u 83, u 84, u 85, u 86, u 87, u 88, u 89, u 90, u 91, u 92, u 93, u 94, u 95, u 96, u 97, u 98, u 99, u 100, u 101], defers := [] } ∧ w' = Wb.drew) ?_ ?_
              · gi_region_with (refine ⟨trivial, ?_⟩; gi_at_call 9; refine (CallsIn.inRound l2 (callsIn_wide.2 (num_any _ _))).mono ?_; rintro e5 w5 ⟨rfl, rfl⟩)
                all_goals exact ⟨rfl, rfl⟩
              · rintro a9 W9 ⟨rfl, rfl⟩
                have HK : Hid (Kk g Bf Wb (Wb.setCell ⟨W.heap.size, 0, none⟩ (.int .i64 ((pre.length : Int) + 1))).drew) := ⟨Below.heap_setCell _ _ _ _ (by show g ≠ W.heap.size; omega), Below.heap_setCell _ _ _ _ (by show Bf ≠ W.heap.size; omega)⟩
                have HP : Hid (Boxed (Wb.setCell ⟨W.heap.size, 0, none⟩ (.int .i64 ((pre.length : Int) + 1))).drew W.heap.size 3 (.int .i64 ((pre ++ [z]).length : Int)) ∧ (Boxed (Wb.setCell ⟨W.heap.size, 0, none⟩ (.int .i64 ((pre.length : Int) + 1))).drew (W.heap.size + 1) 4 (.bool (decide (L.length < (pre ++ [z]).length))) ∧ Below W.heap.size W (Wb.setCell ⟨W.heap.size, 0, none⟩ (.int .i64 ((pre.length : Int) + 1))).drew)) := by
                  have h0 : Boxed (Wb.setCell ⟨W.heap.size, 0, none⟩ (.int .i64 ((pre.length : Int) + 1))) W.heap.size 3 (.int .i64 ((pre.length : Int) + 1)) := Boxed.set _ HI.out.1
                  have h1 : Boxed (Wb.setCell ⟨W.heap.size, 0, none⟩ (.int .i64 ((pre.length : Int) + 1))) (W.heap.size + 1) 4 (.bool false) := Boxed.other HI.out.2.1 (by omega) _
                  rw [List.length_append, show decide (L.length < pre.length + [z].length) = false by simp; omega]
                  exact ⟨h0, h1, (HI.out.2.2.setCell (p := ⟨W.heap.size, 0, none⟩) (Nat.le_refl _) _).drew⟩
                have HKO : Hid (KeepsOthers Wb (Wb.setCell ⟨W.heap.size, 0, none⟩ (.int .i64 ((pre.length : Int) + 1))).drew) := (KeepsOthers.setCell _ _ _).trans (KeepsOthers.drew _)
                clear cD fD cX0 cX1 cX2 x0 x1 x2 cEd
                by_cases hj1 : j = 1
                · subst hj1
                  by_cases hsp : (pre.length : Int) + 1 = stop
                  · subst hsp
                    gi_wp2
                    exact ⟨HKO.out.from _, .inr (by first | exact ⟨⟨⟨rfl, rfl⟩, HP.out.1⟩, HP.out.2⟩ | exact ⟨⟨rfl, HP.out.1⟩, HP.out.2⟩)⟩
                  · gi_wp2
                    exact ⟨HKO.out.from _, HK.out, ⟨HY.out, HP.out.1⟩, HP.out.2⟩
                · have hj1' : ((j : Int) == 1) = false := by simp; omega
                  gi_wp2
                  exact ⟨HKO.out.from _, HK.out, ⟨HY.out, HP.out.1⟩, HP.out.2⟩
          case done =>
            rintro D ys W' hDn rfl ⟨⟨_, bN1⟩, bD1, hBb⟩ hK
            have key := after (Ms L (0)) D W' hDn (.inl rfl) bN1 bD1 hBb hK
            exact key
          case stop =>
            rintro D cd pre W' hDn hpre (⟨rfl, hnp⟩ | ⟨⟨⟨rfl, hj1⟩, bN1⟩, bD1, hBb⟩) hK
            · exact absurd hpre hnp
            · have key := after pre D W' hDn (.inr hj1) bN1 bD1 hBb hK
              clear hKc after hj1
              first
                | exact key
                | (gi_wp2; exact key)
end Sv
end Go.Proofs.Ytclgbificccadaa
