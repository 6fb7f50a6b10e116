import Derived.Test.YtbnmjmlcedkoaaaDoorTyLawQ
namespace Go.Proofs.YtbnmjmlcedkoaaaDoor
namespace Ty
open Go.RowKit
set_option linter.unusedVariables false
set_option maxHeartbeats 1600000 in
set_option maxRecDepth 20000 in
theorem adds_walk (A : Int) (a : Option Addr) (len cap : Nat) (zs : List Int) (w : World) (ht : Cl.TabAt w) (hr : URow w a len zs) (hs : len ≤ 35184372087808) :
    Calls Tryd.prog 5 #[.agg (sm A), .slice a len cap] w fun e w' => e = .returned (.bool true) ∧ Below w.heap.size w w' := by
  obtain ⟨i0, hi, hz0, hz1, hz2⟩ : ∃ i0, Tryd.prog.info? 42 = some i0 ∧ i0.zero = some (.float .f32 0) ∧ i0.size = 1 ∧ i0.bytes = 4 := by
    have h := infoF
    cases hh : Tryd.prog.info? 42 with
    | none => rw [hh] at h; cases h
    | some i => rw [hh] at h; simp at h; exact ⟨i, rfl, h.1, h.2.1, h.2.2⟩
  obtain ⟨v0, hv0, hv0b, hv0s, hv00⟩ : ∃ v0, w.alloc (.cells (sm A) 24) = v0 ∧ Below w.heap.size w v0 ∧ v0.heap.size = w.heap.size + 1 ∧ v0.heap[w.heap.size]? = some (.cells (sm A) 24 (0, 0)) := ⟨_, rfl, (Below.refl _ _).alloc (Nat.le_refl _) _, by simp, heap_alloc_last w _⟩
  have HR : Hid (URow w a len zs) := hr
  have HT : Hid (Cl.TabAt w) := ht
  have hl1 := hr.1.1
  clear hr ht
  have HCA : Hid True := trivial
  generalize hca : sm A = ca at *
  have HCA : Hid (sm A = ca) := hca
  clear hca
  go_enter Tryd.func5, Tryd.ntmps5
  go_wp2_with (fail)
  clear hv0
  refine (floats_any a len cap zs _ (HR.out.on hv0b) (by omega)).mono ?_
  rintro e1 w1 ⟨v1, rfl, hown1, hw1⟩
  have hsz1 := hw1.size
  go_wp2_with (at_builtin; refine wpList_append_own _ rfl _ _ 40 rfl v0.heap.size 42 i0 (.float .f32 0) 1 4 Tryd.underlying40 hi hz0 hz1 hz2 rfl (by decide) _ _ _ rfl (hown1.alloc _) ⟨w1.heap.size, 0, none⟩ 2 2 [.float .f32 1088421888, .float .f32 1091567616] rfl rfl ?c1 ?c2 ?c3 ?c4 ?c5 ?_)
  case c1 => exact cell_two _ _ _ _
  case c2 => intro u hu; simp at hu; rcases hu with rfl | rfl <;> rfl
  case c3 => unfold maxLen; omega
  case c4 => omega
  case c5 => simp; omega
  · intro v' w2 hown2 hgrow2 _
    have b2 : Below v0.heap.size v0 w2 := own_step hsz1 hown1 hw1 hgrow2
    clear hgrow2 hown1 hw1 hsz1
    obtain ⟨g, cap1, rfl, hg0, hcap, hcm, hFB⟩ := fb_own hl1 hown2
    clear hown2
    unfold maxLen at hcm
    have s2 := b2.size
    have hW2 := (b2.block w.heap.size (by omega)).trans hv00
    have bw2 := below_chain hv0b b2 (Nat.le_refl _)
    have hz : (len ≤ zs.length ∧ len ≤ 9223372036854775807) ∧ ∀ i, i < len → 0 ≤ zs.getD i 0 ∧ zs.getD i 0 < 4294967296 := ⟨HR.out.1, HR.out.2.2⟩
    have HZ : Hid ((len ≤ zs.length ∧ len ≤ 9223372036854775807) ∧ ∀ i, i < len → 0 ≤ zs.getD i 0 ∧ zs.getD i 0 < 4294967296) := hz
    have HFB : Hid (FB w2 g len zs) := hFB
    clear b2 hv0b hv00 hz hFB
    go_wp2_with (fail)
    refine (of_any _ len _ zs _ (tab_on HT.out bw2) (HFB.out.row HZ.out)).mono ?_
    rintro e3 w3 ⟨rfl, hw3⟩
    have bw3 := below_chain bw2 hw3 (Nat.le_refl _)
    have s3 := hw3.size
    have hW3 := (hw3.block _ (by omega)).trans hW2
    have HFB3 : Hid (FB w3 g len zs) := HFB.out.on hw3
    have hg3 : g < w3.heap.size := HFB3.out.1
    clear hw3 bw2 hW2 HFB
    have hone := sm_one (addV 0 zs len)
    have hal3 := heap_alloc_last w3 (.cells #[.int .u64 0, .int .u64 0, .int .u64 0, .int .u64 0, .int .u64 0, .int .u64 0] 26)
    obtain ⟨w4, hw4, b34, s4, qa4⟩ := new_sum (W := w3) 26 (addV 0 zs len)
    have bw4 := below_chain bw3 b34 (Nat.le_refl _)
    have HFB4 : Hid (FB w4 g len zs) := HFB3.out.on b34
    have hW4 := (b34.block _ (by omega)).trans hW3
    clear b34 HFB3 bw3 hW3
    go_wp2_with (refine wpList_store6 26 sizeSum rfl _ _ rfl w3.heap.size (sm (addV 0 zs len)) _ rfl rfl rfl rfl hone hal3 ?_; rw [hw4])
    rw [zeros_sm]
    refine (radd_any 0 a len cap zs _ (HR.out.on bw4)).mono ?_
    rintro e5 w5 ⟨rfl, hw5⟩
    have bw5 := below_chain bw4 hw5 (Nat.le_refl _)
    have s5 := hw5.size
    have hW5 := (hw5.block _ (by omega)).trans hW4
    have qa5 := (hw5.block _ (by omega)).trans qa4
    have HFB5 : Hid (FB w5 g len zs) := HFB4.out.on hw5
    clear hw5 bw4 hW4 HFB4 qa4 hw4 hal3
    have hal5 := heap_alloc_last w5 (.cells #[.int .u64 0, .int .u64 0, .int .u64 0, .int .u64 0, .int .u64 0, .int .u64 0] 27)
    obtain ⟨w6, hw6, b56, s6, qb6⟩ := new_sum (W := w5) 27 (addV 0 zs len)
    have bw6 := below_chain bw5 b56 (Nat.le_refl _)
    have HFB6 : Hid (FB w6 g len zs) := HFB5.out.on b56
    have hW6 := (b56.block _ (by omega)).trans hW5
    have qa6 := (b56.block _ (by omega)).trans qa5
    clear b56 HFB5 bw5 hW5 qa5
    have hEq := eq_sm 23 Tryd.underlying23 (addV 0 zs len) (addV 0 zs len)
    rw [same_refl] at hEq
    go_wp2_with (first
      | (refine wpList_store6 27 sizeRSum rfl _ _ rfl w5.heap.size (sm (addV 0 zs len)) _ rfl rfl rfl rfl hone hal5 ?_; rw [hw6])
      | (refine wpList_load6 26 _ Tryd.underlying26 sizeSum rfl _ rfl w3.heap.size (sm (addV 0 zs len)) rfl rfl qa6 ?_)
      | (refine wpList_load6 27 _ Tryd.underlying27 sizeRSum rfl _ rfl w5.heap.size (sm (addV 0 zs len)) rfl rfl qb6 ?_)
      | (go_at_call 13; refine (Cl.num_any _ _).mono ?_; rintro e9 w9 ⟨rfl, hw9⟩; subst w9))
    clear hw6 hal5 hEq
    have ra6 := row_sm qa6
    have rW6 : w6.rowIs w.heap.size 24 6 (fun i => .int .u64 (wd A i)) := by rw [← HCA.out] at hW6; exact row_sm hW6
    have l3 := ra6.lt
    obtain ⟨⟨c0, c1, c2, c3, c4, c5⟩, f0, f1, f2, f3, f4, f5⟩ := cells6 ra6
    obtain ⟨⟨x0, x1, x2, x3, x4, x5⟩, -⟩ := cells6 rW6
    have HX : Hid (w6.rowIs w.heap.size 24 6 (fun i => .int .u64 (wd A i))) := rW6
    have HA6 : Hid (w6.rowIs w3.heap.size 26 6 (fun i => .int .u64 (wd (addV 0 zs len) i))) := ra6
    have HB6 : Hid (w6.rowIs w5.heap.size 27 6 (fun i => .int .u64 (wd (addV 0 zs len) i))) := row_sm qb6
    clear ra6 rW6 qa6 qb6 hW6
    go_region_with ((go_at_call 14; refine (add_any A _ len _ zs _ (tab_on HT.out bw6.drew) ((HFB6.out.on (Below.refl _ _).drew).row HZ.out)).mono ?_; rintro e7 w7 ⟨he9, hb7⟩; have he9' : e7 = .returned (.tuple #[.agg #[.int .u64 (wd (addV A zs len) 0), .int .u64 (wd (addV A zs len) 1), .int .u64 (wd (addV A zs len) 2), .int .u64 (wd (addV A zs len) 3), .int .u64 (wd (addV A zs len) 4), .int .u64 (wd (addV A zs len) 5)], .int .i64 (addE zs len)]) := he9; subst he9'; have k0 := (hb7.cell (p := ⟨w3.heap.size, 0, none⟩) l3).trans c0; have k1 := (hb7.cell (p := ⟨w3.heap.size, 1, none⟩) l3).trans c1; have k2 := (hb7.cell (p := ⟨w3.heap.size, 2, none⟩) l3).trans c2; have k3 := (hb7.cell (p := ⟨w3.heap.size, 3, none⟩) l3).trans c3; have k4 := (hb7.cell (p := ⟨w3.heap.size, 4, none⟩) l3).trans c4; have k5 := (hb7.cell (p := ⟨w3.heap.size, 5, none⟩) l3).trans c5; have j0 := (hb7.frozen (p := ⟨w3.heap.size, 0, none⟩) l3).trans f0; have j1 := (hb7.frozen (p := ⟨w3.heap.size, 1, none⟩) l3).trans f1; have j2 := (hb7.frozen (p := ⟨w3.heap.size, 2, none⟩) l3).trans f2; have j3 := (hb7.frozen (p := ⟨w3.heap.size, 3, none⟩) l3).trans f3; have j4 := (hb7.frozen (p := ⟨w3.heap.size, 4, none⟩) l3).trans f4; have j5 := (hb7.frozen (p := ⟨w3.heap.size, 5, none⟩) l3).trans f5; clear c0 c1 c2 c3 c4 c5 f0 f1 f2 f3 f4 f5 he9 x0 x1 x2 x3 x4 x5))
    all_goals
      have l5 := HB6.out.lt
      obtain ⟨wa, hwa, bwa, ra, rb, rW, HFa⟩ : ∃ wa, six w7 w3.heap.size (addV A zs len) = wa ∧ Below w.heap.size w wa ∧ wa.rowIs w3.heap.size 26 6 (fun i => .int .u64 (wd (addV A zs len) i)) ∧ wa.rowIs w5.heap.size 27 6 (fun i => .int .u64 (wd (addV 0 zs len) i)) ∧ wa.rowIs w.heap.size 24 6 (fun i => .int .u64 (wd A i)) ∧ Hid (FB wa g len zs) := by
        have hbb : Below w6.heap.size w6 w7 := ((Below.refl _ _).drew).trans hb7
        refine ⟨_, rfl, six_below _ (below_chain bw6 hbb (Nat.le_refl _)) (by omega), six_row _ (HA6.out.of_block (hbb.block _ l3)), six_other _ (HB6.out.of_block (hbb.block _ l5)) (by omega), six_other _ (HX.out.of_block (hbb.block _ (by omega))) (by omega), ?_⟩
        have h1 := HFB6.out.on hbb
        have h2 := six_below (B := w3.heap.size) (g := w3.heap.size) (addV A zs len) (Below.refl w3.heap.size w7) (Nat.le_refl _)
        exact h1.block (h2.block g hg3) h2.size
      have hwa' : ((((((w7.setCell ⟨w3.heap.size, 0, none⟩ (.int .u64 (wd (addV A zs len) 0))).setCell ⟨w3.heap.size, 1, none⟩ (.int .u64 (wd (addV A zs len) 1))).setCell ⟨w3.heap.size, 2, none⟩ (.int .u64 (wd (addV A zs len) 2))).setCell ⟨w3.heap.size, 3, none⟩ (.int .u64 (wd (addV A zs len) 3))).setCell ⟨w3.heap.size, 4, none⟩ (.int .u64 (wd (addV A zs len) 4))).setCell ⟨w3.heap.size, 5, none⟩ (.int .u64 (wd (addV A zs len) 5))) = wa := hwa
      simp only [hwa']
      clear k0 k1 k2 k3 k4 k5 j0 j1 j2 j3 j4 j5 hb7 hwa hwa' HA6 HB6 HX HFB6 bw6 l3 l5
      have la := ra.lt
      have lb := rb.lt
      have qa := sm_row ra
      have qb := sm_row rb
      have qW := sm_row rW
      clear ra rb rW
      go_wp2_with (refine wpList_load6 24 _ Tryd.underlying24 sizeWords rfl _ rfl w.heap.size (sm A) rfl rfl qW ?_)
      refine (radd_any A a len cap zs _ (HR.out.on bwa)).mono ?_
      rintro e8 w8 ⟨rfl, hw8⟩
      have bw8 := below_chain bwa hw8 (Nat.le_refl _)
      have s8 := hw8.size
      have qa8 := (hw8.block _ la).trans qa
      have qb8 := (hw8.block _ lb).trans qb
      have HF8 : Hid (FB w8 g len zs) := HFa.out.on hw8
      have lg : g < w8.heap.size := HF8.out.1
      obtain ⟨wb, hwb, bwb, sb, qab, qbb, HFb⟩ : ∃ wb, w8.setRow w5.heap.size (sm (addV A zs len)) = wb ∧ Below w.heap.size w wb ∧ wb.heap.size = w8.heap.size ∧ wb.heap[w3.heap.size]? = some (.cells (sm (addV A zs len)) 26 (0, 0)) ∧ wb.heap[w5.heap.size]? = some (.cells (sm (addV A zs len)) 27 (0, 0)) ∧ Hid (FB wb g len zs) := by
        refine ⟨_, rfl, below_setRow _ _ bw8 (by omega), by simp, ?_, setRow_heap _ w5.heap.size _ _ 27 (0, 0) qb8, HF8.out.block (setRow_other _ _ _ _ (by omega)) (by simp)⟩
        rw [setRow_other _ _ _ _ (by omega)]; exact qa8
      have hone2 := sm_one (addV A zs len)
      have hEq := eq_sm 23 Tryd.underlying23 (addV A zs len) (addV A zs len)
      rw [same_refl] at hEq
      obtain ⟨-, -, h7, h9, -⟩ := HFb.out
      clear hw8 bw8 qa8 HF8 bwa HFa qa qb qW
      have hn7 := neq7
      have hn9 := neq9
      go_wp2_with (first
        | (refine wpList_store6 27 sizeRSum rfl _ _ rfl w5.heap.size (sm (addV A zs len)) _ rfl rfl rfl rfl hone2 qb8 ?_; rw [hwb])
        | (refine wpList_load6 26 _ Tryd.underlying26 sizeSum rfl _ rfl w3.heap.size (sm (addV A zs len)) rfl rfl qab ?_)
        | (refine wpList_load6 27 _ Tryd.underlying27 sizeRSum rfl _ rfl w5.heap.size (sm (addV A zs len)) rfl rfl qbb ?_)
        | (go_at_call 13; refine (Cl.num_any _ _).mono ?_; rintro e9 w9 ⟨rfl, hw9⟩; subst w9)
        | (go_at_call 10; fail))
      clear hn7 hn9 hEq h7 h9 hwb qb8
      refine (floats_any a len cap zs _ (HR.out.on bwb) (by omega)).mono ?_
      rintro e10 w10 ⟨v10, rfl, hown, hw10⟩
      have b10 := below_chain bwb hw10 (Nat.le_refl _)
      have s10 := hw10.size
      have HF10 : Hid (FB w10 g len zs) := HFb.out.on hw10
      have qa10 := (hw10.block _ (by omega)).trans qab
      have qb10 := (hw10.block _ (by omega)).trans qbb
      obtain ⟨ag, cag, rfl, hcag, hFG⟩ := fg_own hl1 hown
      have HG10 : Hid (FG w10 wb.heap.size ag len zs) := hFG
      clear hw10 bwb HFb qab qbb hown hFG
      go_wp2_with (fail)
      go_loopw [12] (fun i wr => ∃ j : Nat, j ≤ len ∧ i = .int .i64 j ∧ ∃ m, wr = w10.drewN m) (fun i _ => len - (intOf i).toNat)
      case atStart => exact ⟨0, by omega, rfl, 0, rfl⟩
      case round =>
        obtain ⟨j, hj, rfl, m, rfl⟩ := hrel
        by_cases hjl : j < len
        · obtain ⟨g2, rfl, -, -, hc2⟩ := HG10.out (by omega)
          have d2 := hc2 j hjl
          have d1 := HF10.out.2.1 j hjl
          generalize (zs.getD j 0).toNat = b at *
          clear hc2
          go_wp2
          go_region_held (fun w' => w'.cell? ⟨g, j, none⟩ = some (.float .f32 b) ∧ w'.cell? ⟨g2, j, none⟩ = some (.float .f32 b)) (first | exact ⟨d1, d2⟩ | assumption)
            ((go_at_call 15; refine (Cl.bits_any b _).mono ?_; rintro e9 w9 ⟨rfl, hw9⟩; subst w9))
          all_goals (go_wp2; exact ⟨⟨j + 1, by omega, by go_num, m + 1, rfl⟩, by simp [intOf]; omega⟩)
        · obtain rfl : j = len := by omega
          have hjj : ¬ (j : Int) < (j : Int) := by omega
          go_wp2
          clear hjj
          have HL : Hid (L2 w (w10.drewN m) w10.heap.size g w3.heap.size w5.heap.size j 0 ag zs (.slice none 0 0) (addV A zs j)) := by
            refine ⟨⟨below_drewN b10 _, by omega, Nat.le_refl _, HF10.out.1, by omega, by omega, by omega⟩, fun i hi => ?_, HF10.out.2.2.2.2, fun h0 => ?_, qa10, qb10, by omega, by omega, by omega, by simpa [uvals] using World.ownsRow_nil _ _ _ _⟩
            · rw [if_neg (by omega)]; exact HF10.out.2.1 i hi
            · obtain ⟨g2, e, h1, h2, h3⟩ := HG10.out h0
              exact ⟨g2, e, h2, by omega, h3⟩
          clear HF10 HG10 b10
          obtain ⟨i1, hi1, hu0, hu1, hu2⟩ : ∃ i0, Tryd.prog.info? 29 = some i0 ∧ i0.zero = some (.int .u32 0) ∧ i0.size = 1 ∧ i0.bytes = 4 := by
            have h := infoU
            cases hh : Tryd.prog.info? 29 with
            | none => rw [hh] at h; cases h
            | some i => rw [hh] at h; simp at h; exact ⟨i, rfl, h.1, h.2.1, h.2.2⟩
          go_loopw [13, 14] (fun bv i wr => ∃ k : Nat, k ≤ j ∧ i = .int .i64 k ∧ L2 w wr w10.heap.size g w3.heap.size w5.heap.size j k ag zs bv (addV A zs j)) (fun _ i _ => j - (intOf i).toNat)
          case atStart => exact ⟨0, by omega, rfl, HL.out⟩
          case round =>
            clear HL
            rename Value => bv0
            obtain ⟨k, hk, rfl, hL⟩ := hrel
            by_cases hkj : k < j
            · have HL : Hid (∃ B, B = w10.heap.size ∧ L2 w wr B g w3.heap.size w5.heap.size j k ag zs u13 (addV A zs j)) := ⟨_, rfl, hL⟩
              obtain ⟨⟨b1, b2, b3, b4, b5, b6, b7⟩, c1, c2, c3, -, -, -, -, -, c6⟩ := hL
              obtain ⟨x, rfl, hx, hcell⟩ := HR.out.2.1 (by omega)
              obtain ⟨g2, rfl, hg2B, hg2g, hcg2⟩ := c3 (by omega)
              obtain ⟨n, hn⟩ : ∃ n : Nat, n = j - 1 - k := ⟨_, rfl⟩
              have hidx : (j : Int) - 1 - (k : Int) = (n : Int) := by omega
              have hnj : n < j := by omega
              have HZk : Hid ((rv zs j).getD k 0 = zs.getD n 0) := by show _ = _; rw [rv_get zs j k hl1 hkj, hn]
              have d1 := c1 k hkj
              have d2 := hcg2 n hnj
              have d3 := c2 k
              have d4 : wr.cell? (x.add n) = some (.int .u32 (zs.getD n 0)) := (b1.cell (p := x.add n) (by unfold Addr.add; split <;> exact hx)).trans (hcell n hnj)
              have d5 : (wr.setCell ⟨g, k, none⟩ (.float .f32 (zs.getD n 0).toNat)).cell? (x.add n) = some (.int .u32 (zs.getD n 0)) := by
                rw [World.cell?_setCell_far _ _ _ _ (by unfold Addr.add; split <;> (show g ≠ x.block; omega))]; exact d4
              have hown2 := c6.kept (grown_set wr g k (.float .f32 (zs.getD n 0).toNat)) (by
                cases e : u13.ownBlock with
                | none => exact Or.inl rfl
                | some q => exact Or.inr (fun e2 => by have := (c6.lt q e).1; have := Option.some.inj e2; omega))
              have hwsz : (wr.setCell ⟨g, k, none⟩ (.float .f32 (zs.getD n 0).toNat)).heap.size = wr.heap.size := by simp
              clear c1 c2 c3 hcg2 hcell c6 d4 hn
              generalize hzz : zs.getD n 0 = z at *
              clear hzz
              have hst : ∀ (p : Addr) (b : Nat) (w' : World), (store p (.float .f32 b)).run Tryd.prog w' = stored Tryd.prog w' p (.float .f32 b) .plain := fun p b w' => run_store _ _ _ _ _ rfl
              go_wp2_with (at_builtin; refine wpList_append_own _ rfl _ _ 25 rfl w10.heap.size 29 i1 (.int .u32 0) 1 4 Tryd.underlying25 hi1 hu0 hu1 hu2 rfl (by decide) _ _ _ rfl (hown2.alloc _) ⟨wr.heap.size, 0, none⟩ 1 1 [.int .u32 z] rfl rfl ?c1 ?c2 ?c3 ?c4 ?c5 ?_)
              case c1 => rw [← hwsz]; exact cell_one_new _ _ _
              case c2 => intro u hu; simp at hu; subst hu; rfl
              case c3 => unfold maxLen; omega
              case c4 => omega
              case c5 => simp; omega
              · intro v' w11 hown' hgrow _
                obtain ⟨B, hBe, hLL⟩ := HL.out
                rw [← hBe] at hown'
                have hLn := l2_step hLL hkj hl1 (by rw [HZk.out]; exact hgrow) (by rw [HZk.out]; exact hown')
                rw [hBe] at hLn
                have HLn : Hid (L2 w w11 w10.heap.size g w3.heap.size w5.heap.size j (k + 1) (some ⟨g2, 0, none⟩) zs v' (addV A zs j)) := hLn
                clear hgrow hown' hown2 hLn hLL hst d1 d2 d3 d5
                go_wp2
                go_roundw
                case rel => exact ⟨k + 1, by omega, by go_num, HLn.out⟩
                case measure => simp [intOf]; omega
            · obtain rfl : k = j := by omega
              have hkk : ¬ (k : Int) < (k : Int) := by omega
              by_cases hp : 0 < k
              · have hpI : (0 : Int) < (k : Int) := by omega
                obtain ⟨gq, capq, rfl, hcapq⟩ : ∃ gq capq, u13 = .slice (some ⟨gq, 0, none⟩) k capq ∧ k ≤ capq := by
                  obtain ⟨-, -, -, -, -, -, -, -, -, c6⟩ := hL
                  rcases c6.2 with ⟨_, h0⟩ | ⟨gq, capq, cur, rfl, hb, hh, hn, r⟩
                  · omega
                  · exact ⟨gq, capq, rfl, hn⟩
                have HE := fun m n => l2_fin hL hp hl1 HZ.out.1.2 HZ.out.2 m n
                have HE' : Hid (∀ m n, ∃ W, ((((wr.drewN m).setCell ⟨g, 0, none⟩ (.float .f32 (bits .xor .u32 ((rv zs k).getD 0 0) 2147483648).toNat)).drewN n).setCell ⟨gq, 0, none⟩ (.int .u32 (bits .xor .u32 ((rv zs k).getD 0 0) 2147483648))) = W ∧ Below w.heap.size w W ∧ FRow W (some ⟨g, 0, none⟩) k (ys zs k) ∧ URow W (some ⟨gq, 0, none⟩) k (ys zs k) ∧
                  W.heap[w3.heap.size]? = some (.cells (sm (addV A zs k)) 26 (0, 0)) ∧ W.heap[w5.heap.size]? = some (.cells (sm (addV A zs k)) 27 (0, 0)) ∧ w3.heap.size < W.heap.size ∧ w5.heap.size < W.heap.size) := HE
                clear HE
                obtain ⟨⟨b1, b2, b3, b4, b5, b6, b7⟩, c1, c2, -, -, -, -, -, -, c6⟩ := hL
                have hqB := (c6.lt gq rfl).1
                have d1 : wr.cell? ⟨gq, 0, none⟩ = some (.int .u32 ((rv zs k).getD 0 0)) := by
                  rw [c6.cellAt 0 (by omega)]; exact uvals_get _ _ _ (by rw [rv_len zs k hl1]; omega) hp
                have d2 := c6.frozenAt 0
                have d3 := c1 0 hp
                have d4 := c2 0
                have hgq : g ≠ gq := by omega
                have hub : 0 ≤ (rv zs k).getD 0 0 ∧ (rv zs k).getD 0 0 < 4294967296 := by rw [rv_get zs k 0 hl1 hp]; exact HZ.out.2 _ (by omega)
                clear c1 c2 c6
                generalize hr0 : (rv zs k).getD 0 0 = r at *
                generalize hx0 : bits .xor .u32 r 2147483648 = f at *
                have d5 : (wr.setCell ⟨g, 0, none⟩ (.float .f32 f.toNat)).cell? ⟨gq, 0, none⟩ = some (.int .u32 r) := by rw [World.cell?_setCell_far _ _ _ _ hgq]; exact d1
                have d6 : (wr.setCell ⟨g, 0, none⟩ (.float .f32 f.toNat)).frozen? ⟨gq, 0, none⟩ = false := by simpa using d2
                have hst : ∀ (p : Addr) (b : Nat) (w' : World), (store p (.float .f32 b)).run Tryd.prog w' = stored Tryd.prog w' p (.float .f32 b) .plain := fun p b w' => run_store _ _ _ _ _ rfl
                clear hr0
                go_wp2_with ((go_at_call 16; refine (Cl.float_any f _).mono ?_; rintro e9 w9 ⟨rfl, hw9⟩; subst w9))
                obtain ⟨W, hWW, bW, hFR, hUR, qaW, qbW, lW3, lW5⟩ := HE'.out 0 0
                have hWW' : (wr.setCell ⟨g, 0, none⟩ (.float .f32 f.toNat)).setCell ⟨gq, 0, none⟩ (.int .u32 f) = W := hWW
                rw [hWW']
                have hq3 : gq ≠ w3.heap.size := by omega
                clear hWW hWW' hst d1 d2 d3 d4 d5 d6 HE' b1
                refine (of_any _ k _ (ys zs k) _ (tab_on HT.out bW) hFR).mono ?_
                rintro e20 w20 ⟨rfl, hw20⟩
                have bw20 := below_chain bW hw20 (Nat.le_refl _)
                have s20 := hw20.size
                have qa20 := (hw20.block _ lW3).trans qaW
                have qb20 := (hw20.block _ lW5).trans qbW
                have hUR20 := hUR.on hw20
                obtain ⟨w21, hw21, bw21, s21, qa21, qb21, bk21⟩ : ∃ w21, w20.setRow w3.heap.size (sm (addV 0 (ys zs k) k)) = w21 ∧ Below w.heap.size w w21 ∧ w21.heap.size = w20.heap.size ∧ w21.heap[w3.heap.size]? = some (.cells (sm (addV 0 (ys zs k) k)) 26 (0, 0)) ∧ w21.heap[w5.heap.size]? = some (.cells (sm (addV A zs k)) 27 (0, 0)) ∧ ∀ b, b ≠ w3.heap.size → w21.heap[b]? = w20.heap[b]? := by
                  refine ⟨_, rfl, below_setRow _ _ bw20 (by omega), by simp, setRow_heap _ w3.heap.size _ _ 26 (0, 0) qa20, ?_, fun b hb => setRow_other _ _ _ _ hb⟩
                  rw [setRow_other _ _ _ _ (by omega)]; exact qb20
                have hUR21 : URow w21 (some ⟨gq, 0, none⟩) k (ys zs k) := hUR20.blocks (bk21 gq hq3) (by omega)
                have hone20 := sm_one (addV 0 (ys zs k) k)
                clear hw20 bw20 qb20 hUR20 bW hUR hFR qaW qbW bk21
                go_wp2_with (refine wpList_store6 26 sizeSum rfl _ _ rfl w3.heap.size (sm (addV 0 (ys zs k) k)) _ rfl rfl rfl rfl hone20 qa20 ?_; rw [hw21])
                rw [zeros_sm]
                refine (radd_any 0 _ k _ (ys zs k) _ hUR21).mono ?_
                rintro e22 w22 ⟨rfl, hw22⟩
                have bw22 := below_chain bw21 hw22 (Nat.le_refl _)
                have qa22 := (hw22.block _ (by omega)).trans qa21
                have qb22 := (hw22.block _ (by omega)).trans qb21
                obtain ⟨w23, hw23, bw23, qa23, qb23⟩ : ∃ w23, w22.setRow w5.heap.size (sm (addV 0 (ys zs k) k)) = w23 ∧ Below w.heap.size w w23 ∧ w23.heap[w3.heap.size]? = some (.cells (sm (addV 0 (ys zs k) k)) 26 (0, 0)) ∧ w23.heap[w5.heap.size]? = some (.cells (sm (addV 0 (ys zs k) k)) 27 (0, 0)) := by
                  refine ⟨_, rfl, below_setRow _ _ bw22 (by omega), ?_, setRow_heap _ w5.heap.size _ _ 27 (0, 0) qb22⟩
                  rw [setRow_other _ _ _ _ (by omega)]; exact qa22
                have hEq := eq_sm 23 Tryd.underlying23 (addV 0 (ys zs k) k) (addV 0 (ys zs k) k)
                rw [same_refl] at hEq
                clear hw22 bw22 qa22 hUR21 bw21 qa21 qb21 qa20 hw21
                go_wp2_with (first
                  | (refine wpList_store6 27 sizeRSum rfl _ _ rfl w5.heap.size (sm (addV 0 (ys zs k) k)) _ rfl rfl rfl rfl hone20 qb22 ?_; rw [hw23])
                  | (refine wpList_load6 26 _ Tryd.underlying26 sizeSum rfl _ rfl w3.heap.size (sm (addV 0 (ys zs k) k)) rfl rfl qa23 ?_)
                  | (refine wpList_load6 27 _ Tryd.underlying27 sizeRSum rfl _ rfl w5.heap.size (sm (addV 0 (ys zs k) k)) rfl rfl qb23 ?_)
                  | (go_at_call 13; refine (Cl.num_any _ _).mono ?_; rintro e9 w9 ⟨rfl, hw9⟩; subst w9))
                go_ret
                exact ⟨by simp, bw23⟩
              · obtain rfl : k = 0 := by omega
                obtain ⟨aq, capq, rfl⟩ : ∃ aq capq, u13 = .slice aq 0 capq := by
                  obtain ⟨-, -, -, -, -, -, -, -, -, c6⟩ := hL
                  rcases c6.2 with ⟨e, _⟩ | ⟨gq, capq, cur, e, hb, hh, hn, r⟩
                  · exact ⟨_, _, e⟩
                  · exact ⟨_, _, e⟩
                obtain ⟨⟨bW, b2, b3, b4, b5, b6, b7⟩, -, -, -, qaW, qbW, -, -, -, -⟩ := hL
                have lW3 : w3.heap.size < wr.heap.size := by omega
                have lW5 : w5.heap.size < wr.heap.size := by omega
                have hFR : FRow wr (some ⟨g, 0, none⟩) 0 [] := ⟨⟨by simp, by omega⟩, fun h => by omega, fun i h => by omega⟩
                have hUR : URow wr aq 0 [] := ⟨⟨by simp, by omega⟩, fun h => by omega, fun i h => by omega⟩
                go_wp2_with (fail)
                refine (of_any _ 0 _ [] _ (tab_on HT.out bW) hFR).mono ?_
                rintro e20 w20 ⟨rfl, hw20⟩
                have bw20 := below_chain bW hw20 (Nat.le_refl _)
                have s20 := hw20.size
                have qa20 := (hw20.block _ lW3).trans qaW
                have qb20 := (hw20.block _ lW5).trans qbW
                have hUR20 := hUR.on hw20
                obtain ⟨w21, hw21, bw21, s21, qa21, qb21, bk21⟩ : ∃ w21, w20.setRow w3.heap.size (sm (addV 0 [] 0)) = w21 ∧ Below w.heap.size w w21 ∧ w21.heap.size = w20.heap.size ∧ w21.heap[w3.heap.size]? = some (.cells (sm (addV 0 [] 0)) 26 (0, 0)) ∧ w21.heap[w5.heap.size]? = some (.cells (sm (addV A zs 0)) 27 (0, 0)) ∧ ∀ b, b ≠ w3.heap.size → w21.heap[b]? = w20.heap[b]? := by
                  refine ⟨_, rfl, below_setRow _ _ bw20 (by omega), by simp, setRow_heap _ w3.heap.size _ _ 26 (0, 0) qa20, ?_, fun b hb => setRow_other _ _ _ _ hb⟩
                  rw [setRow_other _ _ _ _ (by omega)]; exact qb20
                have hUR21 : URow w21 aq 0 [] := ⟨⟨by simp, by omega⟩, fun h => by omega, fun i h => by omega⟩
                have hone20 := sm_one (addV 0 [] 0)
                clear hw20 bw20 qb20 hUR20 bW hUR hFR qaW qbW bk21
                go_wp2_with (refine wpList_store6 26 sizeSum rfl _ _ rfl w3.heap.size (sm (addV 0 [] 0)) _ rfl rfl rfl rfl hone20 qa20 ?_; rw [hw21])
                rw [zeros_sm]
                refine (radd_any 0 _ 0 _ [] _ hUR21).mono ?_
                rintro e22 w22 ⟨rfl, hw22⟩
                have bw22 := below_chain bw21 hw22 (Nat.le_refl _)
                have qa22 := (hw22.block _ (by omega)).trans qa21
                have qb22 := (hw22.block _ (by omega)).trans qb21
                obtain ⟨w23, hw23, bw23, qa23, qb23⟩ : ∃ w23, w22.setRow w5.heap.size (sm (addV 0 [] 0)) = w23 ∧ Below w.heap.size w w23 ∧ w23.heap[w3.heap.size]? = some (.cells (sm (addV 0 [] 0)) 26 (0, 0)) ∧ w23.heap[w5.heap.size]? = some (.cells (sm (addV 0 [] 0)) 27 (0, 0)) := by
                  refine ⟨_, rfl, below_setRow _ _ bw22 (by omega), ?_, setRow_heap _ w5.heap.size _ _ 27 (0, 0) qb22⟩
                  rw [setRow_other _ _ _ _ (by omega)]; exact qa22
                have hEq := eq_sm 23 Tryd.underlying23 (addV 0 [] 0) (addV 0 [] 0)
                rw [same_refl] at hEq
                clear hw22 bw22 qa22 hUR21 bw21 qa21 qb21 qa20 hw21
                go_wp2_with (first
                  | (refine wpList_store6 27 sizeRSum rfl _ _ rfl w5.heap.size (sm (addV 0 [] 0)) _ rfl rfl rfl rfl hone20 qb22 ?_; rw [hw23])
                  | (refine wpList_load6 26 _ Tryd.underlying26 sizeSum rfl _ rfl w3.heap.size (sm (addV 0 [] 0)) rfl rfl qa23 ?_)
                  | (refine wpList_load6 27 _ Tryd.underlying27 sizeRSum rfl _ rfl w5.heap.size (sm (addV 0 [] 0)) rfl rfl qb23 ?_)
                  | (go_at_call 13; refine (Cl.num_any _ _).mono ?_; rintro e9 w9 ⟨rfl, hw9⟩; subst w9))
                go_ret
                exact ⟨by simp, bw23⟩
end Ty
end Go.Proofs.YtbnmjmlcedkoaaaDoor
