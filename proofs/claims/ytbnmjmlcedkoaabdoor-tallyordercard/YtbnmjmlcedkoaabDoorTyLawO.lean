import Derived.Test.YtbnmjmlcedkoaabDoorTyOq
namespace Go.Proofs.YtbnmjmlcedkoaabDoor
namespace Ty
open Go.RowKit
set_option linter.unusedVariables false
theorem drop_split (os : List Int) (l H : Nat) (h : l ≤ H) : sumU ((os.drop l).take (H - l)) + sumU (os.drop H) = sumU (os.drop l) := by
  rw [← sumU_append]
  congr 1
  have e : os.drop H = (os.drop l).drop (H - l) := by rw [List.drop_drop]; congr 1; omega
  rw [e, List.take_append_drop]
theorem sub_row {W : World} {g l H : Nat} {os : List Int} (hl : l ≤ H) (hH : H ≤ os.length) (hb : os.length ≤ 9223372036854775807) (hf : FinL os) (hg : g < W.heap.size) (hc : ∀ i, i < os.length → W.cell? ⟨g, i, none⟩ = some (.int .u32 (os.getD i 0))) :
    URow W (some ⟨g, l, none⟩) (H - l) ((os.drop l).take (H - l)) ∧ ((os.drop l).take (H - l)).length = H - l ∧ FinL ((os.drop l).take (H - l)) := by
  have hlen : ((os.drop l).take (H - l)).length = H - l := by rw [List.length_take, List.length_drop]; omega
  have hF : FinL ((os.drop l).take (H - l)) := fun x hx => hf x (List.drop_subset _ _ (List.take_subset _ _ hx))
  refine ⟨⟨⟨by omega, by omega⟩, fun _ => ⟨_, rfl, hg, fun i hi => ?_⟩, fun i hi => (hF.at i (by omega)).2⟩, hlen, hF⟩
  rw [addk, hc (l + i) (by omega)]
  congr 2
  rw [List.getD_eq_getElem?_getD, List.getD_eq_getElem?_getD, List.getElem?_take_of_lt hi, List.getElem?_drop]
set_option maxRecDepth 8000 in
set_option maxHeartbeats 1600000 in
theorem order_walk (a : Option Addr) (len cap : Nat) (zs : List Int) (pa : Option Addr) (pl pc : Nat) (ps : List Int) (ct : Int) (w : World) (ht : Cl.TabAt w) (hr : URow w a len zs) (hs : len ≤ 35184372087808) (hp : IRow w pa pl ps) (hc : -9223372036854775808 ≤ ct ∧ ct < 9223372036854775808) :
    Calls Tryd.prog 3 #[.slice a len cap, .slice pa pl pc, .int .i64 ct] w fun e w' => e = .returned (.bool true) ∧ Below w.heap.size w w' := by
  have HT : Hid (Cl.TabAt w) := ht
  have HP : Hid (IRow w pa pl ps) := hp
  have HF : Hid (Calls Tryd.prog 6 #[.slice a len cap] w fun e w' => ∃ v, e = .returned v ∧ UL w' w.heap.size v (fz zs len) ∧ Below w.heap.size w w') := finite_any a len cap zs w hr (by omega)
  have hfl : FinL (fz zs len) := fz_fin zs len hr.1.1 hr.2.2
  have hll : (fz zs len).length ≤ 35184372087808 := Nat.le_trans (fz_len zs len) hs
  clear ht hp hr
  generalize fz zs len = fs at *
  have HL : Hid (FinL fs) := hfl
  go_enter Tryd.func3, Tryd.ntmps3
  go_wp2_with (fail)
  refine HF.out.mono ?_
  rintro e1 w1 ⟨v1, rfl, hu1, b1⟩
  have HU1 : Hid (UL w1 w.heap.size v1 fs) := hu1
  obtain ⟨a1, c1, rfl, hcap1, hcm1, hrow1, hg1⟩ := hu1.row (fun x hx => (hfl x hx).2) (by omega)
  clear HF hu1 hg1
  go_wp2_with (fail)
  refine (floats_any a1 fs.length c1 fs w1 hrow1 (by omega)).mono ?_
  rintro e2 w2 ⟨v2, rfl, hown2, b2⟩
  have bw2 := below_chain b1 b2 (Nat.le_refl _)
  have ht2 := tab_on HT.out bw2
  go_wp2_with (fail)
  refine (of_list fs v2 _ w2 ht2 HL.out (by omega) hown2).mono ?_
  rintro e3 w3 ⟨rfl, b3⟩
  have bw3 := below_chain bw2 b3 (Nat.le_refl _)
  have b13 : Below w1.heap.size w1 w3 := below_chain b2 b3 (Nat.le_refl _)
  clear b2 b3 hown2 ht2 bw2
  obtain ⟨S, hS⟩ : ∃ S, sumU fs = S := ⟨_, rfl⟩
  rw [hS]
  have HS : Hid (sumU fs = S) := hS
  clear hS
  have hone := sm_one S
  have hal3 := heap_alloc_last w3 (.cells #[.int .u64 0, .int .u64 0, .int .u64 0, .int .u64 0, .int .u64 0, .int .u64 0] 27)
  obtain ⟨w4, hw4, b34, s4, qa4⟩ : ∃ V, (w3.alloc (.cells #[.int .u64 0, .int .u64 0, .int .u64 0, .int .u64 0, .int .u64 0, .int .u64 0] 27)).setRow w3.heap.size (sm S) = V ∧ Below w3.heap.size w3 V ∧ V.heap.size = w3.heap.size + 1 ∧ V.heap[w3.heap.size]? = some (.cells (sm S) 27 (0, 0)) :=
    ⟨_, rfl, below_setRow _ _ ((Below.refl _ _).alloc (Nat.le_refl _) _) (Nat.le_refl _), by simp, setRow_heap _ w3.heap.size _ _ 27 (0, 0) hal3⟩
  have bw4 := below_chain bw3 b34 (Nat.le_refl _)
  have b14 := below_chain b13 b34 (Nat.le_refl _)
  go_wp2_with (refine wpList_store6 27 sizeSum rfl _ _ rfl w3.heap.size (sm S) _ rfl rfl rfl rfl hone hal3 ?_; rw [hw4])
  clear hw4 hal3
  refine (awake_any w4 (tab_on HT.out bw4)).mono ?_
  rintro e5 w5 ⟨rfl, b45⟩
  have bw5 := below_chain bw4 b45 (Nat.le_refl _)
  have b15 := below_chain b14 b45 (Nat.le_refl _)
  have qa5 := (b45.block _ (by omega)).trans qa4
  have hla : w3.heap.size < w5.heap.size := (Array.getElem?_eq_some_iff.1 qa5).1
  have HU5 : Hid (UL w5 w.heap.size (.slice a1 fs.length c1) fs) := HU1.out.keep (fun j hj => b15.block j (World.ownsRow.lt HU1.out j hj).2)
  have HP5 : Hid (IRow w5 pa pl ps) := by
    obtain ⟨h1, h2, h3⟩ := HP.out
    refine ⟨h1, fun h0 => ?_, h3⟩
    obtain ⟨x, rfl, hx, hcl⟩ := h2 h0
    exact ⟨x, rfl, Nat.lt_of_lt_of_le hx bw5.size, fun i hi => (bw5.cell (p := x.add i) (by unfold Addr.add; split <;> exact hx)).trans (hcl i hi)⟩
  have HA3 : Hid (w1.heap.size ≤ w3.heap.size) := b13.size
  clear b45 bw4 b14 b13 b34 s4 qa4 bw3 b1 HU1 hrow1 HP
  go_wp2_with (go_at_call 10; refine (Cl.num_any _ _).mono ?_; rintro e9 w9 ⟨rfl, hw9⟩; subst w9)
  refine (order_any w.heap.size _ fs pa pl pc ps w5 HU5.out bw5.size (fun x hx => (hfl x hx).2) (by omega) HP5.out).mono ?_
  rintro e6 w6 ⟨v6, os, rfl, hu6, hperm, b56⟩
  have bw6 := below_chain bw5 b56 (Nat.le_refl _)
  have qa6 := (b56.block _ hla).trans qa5
  have hol : os.length = fs.length := hperm.length_eq
  have hof : FinL os := HL.out.perm hperm
  have HSO : Hid (sumU os = S) := (sumU_perm hperm).trans HS.out
  obtain ⟨a6, c6, rfl, hcap6, hcm6, hrow6, hg6⟩ := hu6.row (fun x hx => (hof x hx).2) (by omega)
  have HU6 : Hid (UL w6 w5.heap.size (.slice a6 os.length c6) os) := hu6
  clear hu6 HU5 HP5 b56 qa5 bw5 b15
  go_wp2_with (fail)
  have HM0 : Hid (Below w6.heap.size w6 (w6.alloc (.cells #[.int .u64 0, .int .u64 0, .int .u64 0, .int .u64 0, .int .u64 0, .int .u64 0] 27)) ∧ (w6.alloc (.cells #[.int .u64 0, .int .u64 0, .int .u64 0, .int .u64 0, .int .u64 0, .int .u64 0] 27)).rowIs w6.heap.size 27 6 (fun i => .int .u64 (wd (pts 0 os 0) i))) := by
    refine ⟨(Below.refl _ _).alloc (Nat.le_refl _) _, ?_⟩
    rw [zeros_sm]; exact row_sm (heap_alloc_last w6 _)
  have hn45 : os.length ≤ 35184372087808 := by omega
  rw [← hol]
  generalize hno : os.length = n at *
  have HB6 : Hid (Below w.heap.size w w6) := bw6
  have HG6 : Hid (0 < n → ∃ g, a6 = some ⟨g, 0, none⟩ ∧ g < w6.heap.size ∧ ∀ i, i < n → w6.cell? ⟨g, i, none⟩ = some (.int .u32 (os.getD i 0))) := hg6
  clear hg6 hrow6 bw6 hol hll hfl
  go_loopw [12] (fun i wr => ∃ k : Nat, k ≤ n ∧ i = .int .i64 k ∧ Below w6.heap.size w6 wr ∧ wr.rowIs w6.heap.size 27 6 (fun i => .int .u64 (wd (pts 0 os k) i))) (fun i _ => n - (intOf i).toNat)
  case atStart => exact ⟨0, by omega, rfl, HM0.out⟩
  case round =>
    clear HM0
    obtain ⟨k, hk, rfl, b1, r1⟩ := hrel
    by_cases hlt : k < n
    · have HPT : Hid (pts 0 os (k + 1) = pt (pts 0 os k) (os.getD k 0)) := rfl
      obtain ⟨g, rfl, hgl, hcell⟩ := HG6.out (by omega)
      have hub := (hof.at k (by omega)).2
      have hcx : wr.cell? ⟨g, k, none⟩ = some (.int .u32 (os.getD k 0)) := (b1.cell (p := ⟨g, k, none⟩) hgl).trans (hcell k hlt)
      generalize os.getD k 0 = u at *
      generalize pts 0 os k = N at *
      have htr : Cl.TabAt wr := tab_on HT.out (below_chain HB6.out b1 (Nat.le_refl _))
      have HL1 : Hid (Below w6.heap.size w6 wr ∧ wr.rowIs w6.heap.size 27 6 (fun i => .int .u64 (wd N i))) := ⟨b1, r1⟩
      have l1 := r1.lt
      obtain ⟨⟨c0, c1', c2, c3, c4, c5⟩, f0, f1, f2, f3, f4, f5⟩ := cells6 r1
      clear r1 b1 hcell
      go_wp2
      go_region_with ((go_at_call 12; refine (put_any N u hub.1 hub.2 _ (tab_on htr ((Below.refl _ _).drew))).mono ?_; rintro e9 w9 ⟨he9, hb9⟩; have he9' : e9 = .returned (.agg #[.int .u64 (wd (pt N u) 0), .int .u64 (wd (pt N u) 1), .int .u64 (wd (pt N u) 2), .int .u64 (wd (pt N u) 3), .int .u64 (wd (pt N u) 4), .int .u64 (wd (pt N u) 5)]) := he9; subst he9'; have k0 := (hb9.cell (p := ⟨w6.heap.size, 0, none⟩) l1).trans c0; have k1 := (hb9.cell (p := ⟨w6.heap.size, 1, none⟩) l1).trans c1'; have k2 := (hb9.cell (p := ⟨w6.heap.size, 2, none⟩) l1).trans c2; have k3 := (hb9.cell (p := ⟨w6.heap.size, 3, none⟩) l1).trans c3; have k4 := (hb9.cell (p := ⟨w6.heap.size, 4, none⟩) l1).trans c4; have k5 := (hb9.cell (p := ⟨w6.heap.size, 5, none⟩) l1).trans c5; have j0 := (hb9.frozen (p := ⟨w6.heap.size, 0, none⟩) l1).trans f0; have j1 := (hb9.frozen (p := ⟨w6.heap.size, 1, none⟩) l1).trans f1; have j2 := (hb9.frozen (p := ⟨w6.heap.size, 2, none⟩) l1).trans f2; have j3 := (hb9.frozen (p := ⟨w6.heap.size, 3, none⟩) l1).trans f3; have j4 := (hb9.frozen (p := ⟨w6.heap.size, 4, none⟩) l1).trans f4; have j5 := (hb9.frozen (p := ⟨w6.heap.size, 5, none⟩) l1).trans f5; clear he9 c0 c1' c2 c3 c4 c5 f0 f1 f2 f3 f4 f5))
      all_goals
        obtain ⟨b1, r1⟩ := HL1.out
        obtain ⟨wa, hwa, ba, ra⟩ : ∃ wa, six w9 w6.heap.size (pt N u) = wa ∧ Below w6.heap.size w6 wa ∧ wa.rowIs w6.heap.size 27 6 (fun i => .int .u64 (wd (pt N u) i)) := by
          have hbb : Below wr.heap.size wr w9 := ((Below.refl _ _).drew).trans hb9
          exact ⟨_, rfl, six_below _ (below_chain b1 hbb (Nat.le_refl _)) (Nat.le_refl _), six_row _ (r1.of_block (hbb.block _ l1))⟩
        have hwa' : ((((((w9.setCell ⟨w6.heap.size, 0, none⟩ (.int .u64 (wd (pt N u) 0))).setCell ⟨w6.heap.size, 1, none⟩ (.int .u64 (wd (pt N u) 1))).setCell ⟨w6.heap.size, 2, none⟩ (.int .u64 (wd (pt N u) 2))).setCell ⟨w6.heap.size, 3, none⟩ (.int .u64 (wd (pt N u) 3))).setCell ⟨w6.heap.size, 4, none⟩ (.int .u64 (wd (pt N u) 4))).setCell ⟨w6.heap.size, 5, none⟩ (.int .u64 (wd (pt N u) 5))) = wa := hwa
        rw [hwa']
        clear k0 k1 k2 k3 k4 k5 j0 j1 j2 j3 j4 j5 hb9 hwa hwa' b1 r1 hcx HL1 htr l1
        go_wp2
        exact ⟨⟨k + 1, by omega, by go_num, by rw [HPT.out]; exact ⟨ba, ra⟩⟩, by simp [intOf]; omega⟩
    · obtain rfl : k = n := by omega
      have hpS : pts 0 os k = S := by
        rw [pts_sum 0 os hof k (by omega), ← hno, List.take_length, Int.zero_add, HSO.out]
      rw [hpS] at r1
      have qb := sm_row r1
      obtain ⟨z, hz, hz1, hz7⟩ : ∃ z : Nat, 1 + wrap64 ((IntKind.u64.wrap ct).tmod 7) = (z : Int) ∧ 1 ≤ z ∧ z ≤ 7 := by
        have h0 : 0 ≤ IntKind.u64.wrap ct := wrap_u64_nonneg ct
        have h1 : (IntKind.u64.wrap ct).tmod 7 = IntKind.u64.wrap ct % 7 := Int.tmod_eq_emod_of_nonneg h0
        refine ⟨(1 + IntKind.u64.wrap ct % 7).toNat, ?_, by omega, by omega⟩
        rw [h1]
        unfold wrap64
        omega
      have hkl : ¬ (k : Int) < (k : Int) := by omega
      clear r1 hpS
      go_wp2_with (fail)
      have HC0 : Hid (Below wr.heap.size wr (wr.alloc (.cells #[.int .u64 0, .int .u64 0, .int .u64 0, .int .u64 0, .int .u64 0, .int .u64 0] 27)) ∧ (wr.alloc (.cells #[.int .u64 0, .int .u64 0, .int .u64 0, .int .u64 0, .int .u64 0, .int .u64 0] 27)).heap[wr.heap.size]? = some (.cells (sm (sumU (os.drop k))) 27 (0, 0))) := by
        refine ⟨(Below.refl _ _).alloc (Nat.le_refl _) _, ?_⟩
        rw [zeros_sm, ← hno, List.drop_length]; exact heap_alloc_last wr _
      have HB7 : Hid (Below w6.heap.size w6 wr) := b1
      have HQB : Hid (wr.heap[w6.heap.size]? = some (.cells (sm S) 27 (0, 0))) := qb
      clear qb b1 hz
      generalize hW7 : wr = W7 at *
      clear hW7
      go_loopw [15, 16, 17, 18] (fun i _ _ _ wr => ∃ h : Int, -7 ≤ h ∧ h ≤ k ∧ i = .int .i64 h ∧ Below W7.heap.size W7 wr ∧ wr.heap[W7.heap.size]? = some (.cells (sm (sumU (os.drop h.toNat))) 27 (0, 0))) (fun i _ _ _ _ => (intOf i).toNat)
      case atStart => exact ⟨k, by omega, by omega, rfl, HC0.out.1, by rw [Int.toNat_natCast]; exact HC0.out.2⟩
      case round =>
        clear HC0
        obtain ⟨h, hh0, hh1, rfl, b8, q8⟩ := hrel
        by_cases hpos : 0 < h
        · obtain ⟨H, rfl⟩ : ∃ H : Nat, h = (H : Int) := ⟨h.toNat, by omega⟩
          rw [Int.toNat_natCast] at q8
          obtain ⟨g, rfl, hgl, hcell⟩ := HG6.out (by omega)
          have hc8 : ∀ i, i < os.length → wr.cell? ⟨g, i, none⟩ = some (.int .u32 (os.getD i 0)) := fun i hi => (b8.cell (p := ⟨g, i, none⟩) (show g < W7.heap.size from Nat.lt_of_lt_of_le hgl HB7.out.size)).trans ((HB7.out.cell (p := ⟨g, i, none⟩) hgl).trans (hcell i (by omega)))
          have hs7 := HB7.out.size
          have hs8 := b8.size
          have lc : W7.heap.size < wr.heap.size := (Array.getElem?_eq_some_iff.1 q8).1
          clear hcell
          by_cases hzH : z < H
          · have hd1 : (0 : Int) < (H : Int) - (z : Int) := by omega
            have hd2 : ¬ c6 = H - z := by omega
            obtain ⟨hrow, hLl, hLf⟩ := sub_row (W := wr) (g := g) (l := H - z) (H := H) (os := os) (by omega) (by omega) (by omega) hof (by omega) hc8
            have hsum := drop_split os (H - z) H (by omega)
            generalize (os.drop (H - z)).take (H - (H - z)) = L at *
            clear hc8
            go_wp2_with (fail)
            refine (floats_any _ (H - (H - z)) _ L wr hrow (by omega)).mono ?_
            rintro e9 w9 ⟨v9, rfl, hown9, b9⟩
            have b89 := below_chain b8 b9 (Nat.le_refl _)
            have hq9 := (b9.block _ lc).trans q8
            have ht9 : Cl.TabAt w9 := tab_on HT.out (below_chain HB6.out (below_chain HB7.out b89 (Nat.le_refl _)) (Nat.le_refl _))
            have hown9' : w9.ownsRow wr.heap.size 43 1 v9 L.length (fvals L L.length) := by rw [hLl]; exact hown9
            have lc9 : W7.heap.size < w9.heap.size := (Array.getElem?_eq_some_iff.1 hq9).1
            clear hown9 b9 b8 q8 hrow
            go_wp2_with (fail)
            refine (of_list L v9 _ w9 ht9 hLf (by omega) hown9').mono ?_
            rintro e10 w10 ⟨rfl, b10⟩
            have b810 := below_chain b89 b10 (Nat.le_refl _)
            have hq10 := (b10.block _ lc9).trans hq9
            have lc10 : W7.heap.size < w10.heap.size := (Array.getElem?_eq_some_iff.1 hq10).1
            have hal10 := heap_alloc_last w10 (.cells #[.int .u64 0, .int .u64 0, .int .u64 0, .int .u64 0, .int .u64 0, .int .u64 0] 27)
            have honeP := sm_one (sumU L)
            obtain ⟨v, hv, hvb, hvs, hv0⟩ : ∃ V, (w10.alloc (.cells #[.int .u64 0, .int .u64 0, .int .u64 0, .int .u64 0, .int .u64 0, .int .u64 0] 27)).setRow w10.heap.size (sm (sumU L)) = V ∧ Below w10.heap.size w10 V ∧ V.heap.size = w10.heap.size + 1 ∧ V.heap[w10.heap.size]? = some (.cells (sm (sumU L)) 27 (0, 0)) :=
              ⟨_, rfl, below_setRow _ _ ((Below.refl _ _).alloc (Nat.le_refl _) _) (Nat.le_refl _), by simp, setRow_heap _ w10.heap.size _ _ 27 (0, 0) hal10⟩
            have b8v := below_chain b810 hvb (Nat.le_refl _)
            have hqv := (hvb.block _ lc10).trans hq10
            have HMG : Hid (∀ w, Calls Tryd.prog 13 #[.agg (sm (sumU L)), .agg (sm (sumU (os.drop H)))] w fun e w' => e = .returned (.agg (sm (sumU (os.drop (H - z))))) ∧ Below w.heap.size w w') := fun w => by
              rw [← hsum]; exact merge_any _ _ w
            clear b89 b10 b810 hq9 hq10 hown9' ht9 hLf hsum hLl
            generalize hcP : sm (sumU L) = cP at *
            have hcPs : cP.size = 6 := by rw [← hcP]; rfl
            generalize hcC : sm (sumU (os.drop H)) = cC at *
            have hcCs : cC.size = 6 := by rw [← hcC]; rfl
            clear hcP hcC
            go_wp2_with (first
              | (refine wpList_store6 27 sizeSum rfl _ _ rfl w10.heap.size cP _ rfl rfl hcPs rfl honeP hal10 ?_; rw [hv])
              | (refine wpList_load6 27 _ Tryd.underlying27 sizeSum rfl _ rfl w10.heap.size cP rfl hcPs hv0 ?_)
              | (refine wpList_load6 27 _ Tryd.underlying27 sizeSum rfl _ rfl W7.heap.size cC rfl hcCs hqv ?_)
              | (go_at_call 10; refine (Cl.num_any _ _).mono ?_; rintro e9 w9 ⟨rfl, hw9⟩; subst w9))
            clear hv hal10
            refine (HMG.out _).mono ?_
            rintro e11 w11 ⟨rfl, b11⟩
            have b8x := below_chain b8v b11 (Nat.le_refl _)
            have hq11 := (b11.block _ (by omega)).trans hqv
            have HFB : Hid (Below W7.heap.size W7 (w11.setRow W7.heap.size (sm (sumU (os.drop (H - z))))) ∧ (w11.setRow W7.heap.size (sm (sumU (os.drop (H - z))))).heap[W7.heap.size]? = some (.cells (sm (sumU (os.drop (H - z)))) 27 (0, 0))) :=
              ⟨below_setRow _ _ b8x (Nat.le_refl _), setRow_heap w11 W7.heap.size _ _ 27 (0, 0) hq11⟩
            have honeN := sm_one (sumU (os.drop (H - z)))
            have hNs : (sm (sumU (os.drop (H - z)))).size = 6 := rfl
            clear b8x b8v b11 hqv hv0 hvb hvs HMG
            generalize hcN : sm (sumU (os.drop (H - z))) = cN at *
            have HCN : Hid (sm (sumU (os.drop (H - z))) = cN) := hcN
            clear hcN
            go_wp2_with (refine wpList_store6 27 sizeSum rfl _ _ rfl W7.heap.size cN cC rfl rfl hNs hcCs honeN hq11 ?_)
            refine ⟨⟨(H : Int) - z, by omega, by omega, by go_num, HFB.out.1, ?_⟩, by simp [intOf]; omega⟩
            rw [show ((H : Int) - z).toNat = (H - z) from by omega, HCN.out]; exact HFB.out.2
          · have hd1 : (H : Int) - (z : Int) ≤ 0 := by omega
            obtain ⟨hrow, hLl, hLf⟩ := sub_row (W := wr) (g := g) (l := 0) (H := H) (os := os) (by omega) (by omega) (by omega) hof (by omega) hc8
            have hsum := drop_split os (0) H (by omega)
            rw [Nat.sub_zero] at hrow hLl hLf hsum
            generalize (os.drop (0)).take H = L at *
            clear hc8
            go_wp2_with (fail)
            refine (floats_any _ H _ L wr hrow (by omega)).mono ?_
            rintro e9 w9 ⟨v9, rfl, hown9, b9⟩
            have b89 := below_chain b8 b9 (Nat.le_refl _)
            have hq9 := (b9.block _ lc).trans q8
            have ht9 : Cl.TabAt w9 := tab_on HT.out (below_chain HB6.out (below_chain HB7.out b89 (Nat.le_refl _)) (Nat.le_refl _))
            have hown9' : w9.ownsRow wr.heap.size 43 1 v9 L.length (fvals L L.length) := by rw [hLl]; exact hown9
            have lc9 : W7.heap.size < w9.heap.size := (Array.getElem?_eq_some_iff.1 hq9).1
            clear hown9 b9 b8 q8 hrow
            go_wp2_with (fail)
            refine (of_list L v9 _ w9 ht9 hLf (by omega) hown9').mono ?_
            rintro e10 w10 ⟨rfl, b10⟩
            have b810 := below_chain b89 b10 (Nat.le_refl _)
            have hq10 := (b10.block _ lc9).trans hq9
            have lc10 : W7.heap.size < w10.heap.size := (Array.getElem?_eq_some_iff.1 hq10).1
            have hal10 := heap_alloc_last w10 (.cells #[.int .u64 0, .int .u64 0, .int .u64 0, .int .u64 0, .int .u64 0, .int .u64 0] 27)
            have honeP := sm_one (sumU L)
            obtain ⟨v, hv, hvb, hvs, hv0⟩ : ∃ V, (w10.alloc (.cells #[.int .u64 0, .int .u64 0, .int .u64 0, .int .u64 0, .int .u64 0, .int .u64 0] 27)).setRow w10.heap.size (sm (sumU L)) = V ∧ Below w10.heap.size w10 V ∧ V.heap.size = w10.heap.size + 1 ∧ V.heap[w10.heap.size]? = some (.cells (sm (sumU L)) 27 (0, 0)) :=
              ⟨_, rfl, below_setRow _ _ ((Below.refl _ _).alloc (Nat.le_refl _) _) (Nat.le_refl _), by simp, setRow_heap _ w10.heap.size _ _ 27 (0, 0) hal10⟩
            have b8v := below_chain b810 hvb (Nat.le_refl _)
            have hqv := (hvb.block _ lc10).trans hq10
            have HMG : Hid (∀ w, Calls Tryd.prog 13 #[.agg (sm (sumU L)), .agg (sm (sumU (os.drop H)))] w fun e w' => e = .returned (.agg (sm (sumU (os.drop 0)))) ∧ Below w.heap.size w w') := fun w => by
              rw [← hsum]; exact merge_any _ _ w
            clear b89 b10 b810 hq9 hq10 hown9' ht9 hLf hsum hLl
            generalize hcP : sm (sumU L) = cP at *
            have hcPs : cP.size = 6 := by rw [← hcP]; rfl
            generalize hcC : sm (sumU (os.drop H)) = cC at *
            have hcCs : cC.size = 6 := by rw [← hcC]; rfl
            clear hcP hcC
            go_wp2_with (first
              | (refine wpList_store6 27 sizeSum rfl _ _ rfl w10.heap.size cP _ rfl rfl hcPs rfl honeP hal10 ?_; rw [hv])
              | (refine wpList_load6 27 _ Tryd.underlying27 sizeSum rfl _ rfl w10.heap.size cP rfl hcPs hv0 ?_)
              | (refine wpList_load6 27 _ Tryd.underlying27 sizeSum rfl _ rfl W7.heap.size cC rfl hcCs hqv ?_)
              | (go_at_call 10; refine (Cl.num_any _ _).mono ?_; rintro e9 w9 ⟨rfl, hw9⟩; subst w9))
            clear hv hal10
            refine (HMG.out _).mono ?_
            rintro e11 w11 ⟨rfl, b11⟩
            have b8x := below_chain b8v b11 (Nat.le_refl _)
            have hq11 := (b11.block _ (by omega)).trans hqv
            have HFB : Hid (Below W7.heap.size W7 (w11.setRow W7.heap.size (sm (sumU (os.drop 0)))) ∧ (w11.setRow W7.heap.size (sm (sumU (os.drop 0)))).heap[W7.heap.size]? = some (.cells (sm (sumU (os.drop 0))) 27 (0, 0))) :=
              ⟨below_setRow _ _ b8x (Nat.le_refl _), setRow_heap w11 W7.heap.size _ _ 27 (0, 0) hq11⟩
            have honeN := sm_one (sumU (os.drop 0))
            have hNs : (sm (sumU (os.drop 0))).size = 6 := rfl
            clear b8x b8v b11 hqv hv0 hvb hvs HMG
            generalize hcN : sm (sumU (os.drop 0)) = cN at *
            have HCN : Hid (sm (sumU (os.drop 0)) = cN) := hcN
            clear hcN
            go_wp2_with (refine wpList_store6 27 sizeSum rfl _ _ rfl W7.heap.size cN cC rfl rfl hNs hcCs honeN hq11 ?_)
            refine ⟨⟨(H : Int) - z, by omega, by omega, by go_num, HFB.out.1, ?_⟩, by simp [intOf]; omega⟩
            rw [show ((H : Int) - z).toNat = 0 from by omega, HCN.out]; exact HFB.out.2
        · have ht0 : h.toNat = 0 := by omega
          rw [ht0, List.drop_zero, HSO.out] at q8
          have hs7 := HB7.out.size
          have la7 : w3.heap.size < w6.heap.size := (Array.getElem?_eq_some_iff.1 qa6).1
          have qa7 := (HB7.out.block _ la7).trans qa6
          have qa8 := (b8.block _ (by omega)).trans qa7
          have qb8 := (b8.block _ (Array.getElem?_eq_some_iff.1 HQB.out).1).trans HQB.out
          have hEq := eq_sm 27 Tryd.underlying27 S S
          rw [same_refl] at hEq
          have bfin : Below w.heap.size w wr := below_chain HB6.out (below_chain HB7.out b8 (Nat.le_refl _)) (Nat.le_refl _)
          obtain ⟨⟨x0, x1, x2, x3, x4, x5⟩, -⟩ := cells6 (row_sm qa8)
          obtain ⟨⟨y0, y1, y2, y3, y4, y5⟩, -⟩ := cells6 (row_sm qb8)
          obtain ⟨⟨z0, z1, z2, z3, z4, z5⟩, -⟩ := cells6 (row_sm q8)
          have hsq : sm S = #[.int .u64 (wd S 0), .int .u64 (wd S 1), .int .u64 (wd S 2), .int .u64 (wd S 3), .int .u64 (wd S 4), .int .u64 (wd S 5)] := rfl
          rw [hsq] at hEq
          clear qa7 qa6 HQB HG6 HB7 HB6 b8 ht0 hone hsq q8 qa8 qb8
          go_wp2
          go_ret
          exact ⟨rfl, bfin⟩
end Ty
end Go.Proofs.YtbnmjmlcedkoaabDoor
