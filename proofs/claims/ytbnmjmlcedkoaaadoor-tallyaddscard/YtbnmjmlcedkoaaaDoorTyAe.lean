import Derived.Test.YtbnmjmlcedkoaaaDoorTyAd
namespace Go.Proofs.YtbnmjmlcedkoaaaDoor
namespace Ty
open Go.RowKit
set_option linter.unusedVariables false
set_option maxHeartbeats 800000 in
theorem of_any (a : Option Addr) (len cap : Nat) (zs : List Int) (w : World) (ht : Cl.TabAt w) (hr : FRow w a len zs) :
    Calls Tryd.prog 11 #[.slice a len cap] w fun e w' => e = .returned (.tuple #[.agg (sm (addV 0 zs len)), .int .i64 (addE zs len)]) ∧ Below w.heap.size w w' := by
  obtain ⟨v, hv, hvb, hvs, hv0⟩ : ∃ v, w.alloc (.cells #[.int .u64 0, .int .u64 0, .int .u64 0, .int .u64 0, .int .u64 0, .int .u64 0] 26) = v ∧ Below w.heap.size w v ∧ v.heap.size = w.heap.size + 1 ∧ v.heap[w.heap.size]? = some (.cells (sm 0) 26 (0, 0)) := by
    refine ⟨_, rfl, (Below.refl _ _).alloc (Nat.le_refl _) _, by simp, ?_⟩
    rw [zeros_sm]; exact heap_alloc_last w _
  have HR : Hid (FRow v a len zs) := by
    obtain ⟨h1, h2, h3⟩ := hr
    refine ⟨h1, fun h0 => ?_, h3⟩
    obtain ⟨x, rfl, hx, hc⟩ := h2 h0
    exact ⟨x, rfl, by omega, fun i hi => (hvb.cell (p := x.add i) (by unfold Addr.add; split <;> exact hx)).trans (hc i hi)⟩
  have HT : Hid (Cl.TabAt v) := tab_on ht hvb
  clear hr ht
  go_enter Tryd.func11, Tryd.ntmps11
  go_wp2_with (fail)
  clear hv
  rw [zeros_sm]
  refine (add_any 0 a len cap zs _ HT.out HR.out).mono ?_
  rintro e1 w1 ⟨rfl, hw1⟩
  have b1 := below_chain hvb hw1 (Nat.le_refl _)
  have q0 := (hw1.block _ (by omega)).trans hv0
  have hone := sm_one (addV 0 zs len)
  have hbel := below_setRow w.heap.size (sm (addV 0 zs len)) b1 (Nat.le_refl _)
  have hld : (loadVar 26 ⟨w.heap.size, 0, none⟩).run Tryd.prog (w1.setRow w.heap.size (sm (addV 0 zs len))) = .ok (.agg (sm (addV 0 zs len))) (w1.setRow w.heap.size (sm (addV 0 zs len))) :=
    run_loadVar_row _ _ 26 26 _ (0, 0) _ (setRow_heap w1 w.heap.size _ _ 26 (0, 0) q0) Tryd.underlying26 rfl sizeSum
  clear hv0 hw1 b1 hvb HR HT
  go_wp2_with (refine wpList_store6 26 sizeSum rfl _ _ rfl w.heap.size (sm (addV 0 zs len)) _ rfl rfl rfl rfl hone q0 ?_)
  refine bodyPost_ret (v := .tuple #[.agg (sm (addV 0 zs len)), .int .i64 (addE zs len)]) ?_ rfl ⟨rfl, hbel⟩
  simp [results, Tryd.results11, asAddr, hld]
def RMid (w wr : World) (N : Int) : Prop := Below w.heap.size w wr ∧ wr.rowIs w.heap.size 27 6 (fun i => .int .u64 (wd N i)) ∧ wr.rowIs (w.heap.size + 1) 27 6 (fun i => .int .u64 (wd 0 i))
set_option maxHeartbeats 1600000 in
theorem radd_any (A : Int) (a : Option Addr) (len cap : Nat) (zs : List Int) (w : World) (hr : URow w a len zs) :
    Calls Tryd.prog 12 #[.agg (sm A), .slice a len cap] w fun e w' => e = .returned (.tuple #[.agg (sm (addV A zs len)), .int .i64 (addE zs len)]) ∧ Below w.heap.size w w' := by
  obtain ⟨v, hv, hvb, hvs, hv0, hv1⟩ := two_sums w 27 A
  have HR : Hid (URow w a len zs) := hr
  clear hr
  generalize hca : sm A = ca at *
  have HV : Hid (RMid w v A) := ⟨hvb, by rw [← hca] at hv0; exact row_sm hv0, row_sm hv1⟩
  clear hca hv0
  go_enter Tryd.func12, Tryd.ntmps12
  go_wp2_with (fail)
  clear hv
  go_loop [6] (fun i => ∃ k : Nat, k ≤ len ∧ i = .int .i64 k ∧ ∀ j, j < k → Fin (zs.getD j 0)) (fun i => len - (intOf i).toNat)
  case atStart => exact ⟨0, by omega, rfl, fun j hj => by omega⟩
  case round =>
    obtain ⟨k, hk, rfl, hfin⟩ := hrel
    have HF : Hid (∀ j, j < k → Fin (zs.getD j 0)) := hfin
    clear hfin
    have hl := HR.out.1.2
    by_cases hlt : k < len
    · obtain ⟨x, rfl, hx, hcell⟩ := HR.out.2.1 (by omega)
      have hub := HR.out.2.2 k hlt
      have hcx : v.cell? (x.add k) = some (.int .u32 (zs.getD k 0)) := (hvb.cell (p := x.add k) (by unfold Addr.add; split <;> exact hx)).trans (hcell k hlt)
      have HB : Hid (¬ Fin (zs.getD k 0) → addV A zs len = 0 ∧ addE zs len = 16) := fun h => add_bad hlt h
      have HFS : Hid (Fin (zs.getD k 0) → ∀ j, j < k + 1 → Fin (zs.getD j 0)) := fun h j hj => by
        by_cases e : j = k
        · rw [e]; exact h
        · exact HF.out j (by omega)
      generalize zs.getD k 0 = u at *
      clear hcell
      go_wp2_with (fail)
      refine (rfinite_any u hub.1 hub.2 _).mono ?_
      rintro e9 w9 ⟨rfl, hw9⟩
      subst w9
      by_cases hf : u % 2147483648 < 2139095040
      · rw [decide_eq_true hf]
        go_wp2
        go_round
        case rel => exact ⟨k + 1, by omega, by go_num, HFS.out hf⟩
        case measure => simp [intOf]; omega
      · rw [decide_eq_false hf]
        obtain ⟨g1, g2⟩ := HB.out hf
        have HG : Hid (addV A zs len = 0 ∧ addE zs len = 16) := ⟨g1, g2⟩
        clear g1 g2
        have hone := sm_one 0
        have hbel := below_setRow (w.heap.size + 1) (sm 0) hvb (by omega)
        have hld : (loadVar 27 ⟨w.heap.size + 1, 0, none⟩).run Tryd.prog (v.setRow (w.heap.size + 1) (sm 0)) = .ok (.agg (sm 0)) (v.setRow (w.heap.size + 1) (sm 0)) :=
          run_loadVar_row _ _ 27 27 _ (0, 0) _ (setRow_heap v (w.heap.size + 1) _ _ 27 (0, 0) hv1) Tryd.underlying27 rfl sizeRSum
        go_wp2_with (refine wpList_store6 27 sizeRSum rfl _ _ rfl (w.heap.size + 1) (sm 0) _ rfl (by rw [← zeros_sm]; rfl) rfl rfl hone hv1 ?_)
        refine bodyPost_ret (v := .tuple #[.agg (sm 0), .int .i64 16]) ?_ rfl ⟨by rw [HG.out.1, HG.out.2], hbel⟩
        simp [results, Tryd.results12, asAddr, hld]
    · obtain rfl : k = len := by omega
      obtain ⟨g1, g2⟩ := add_all (A := A) HF.out
      have HG : Hid (addV A zs k = pts A zs k ∧ addE zs k = 0) := ⟨g1, g2⟩
      clear g1 g2 hlt HF
      have hkl : ¬ (k : Int) < (k : Int) := by omega
      go_wp2
      clear hkl
      rename World => wold
      go_loopw [7] (fun i wr => ∃ j : Nat, j ≤ k ∧ i = .int .i64 j ∧ RMid w wr (pts A zs j)) (fun i _ => k - (intOf i).toNat)
      case atStart => exact ⟨0, by omega, rfl, HV.out⟩
      case round =>
        obtain ⟨j, hj, rfl, b1, r1, r2⟩ := hrel
        by_cases hlt : j < k
        · have HP : Hid (pts A zs (j + 1) = pt (pts A zs j) (zs.getD j 0)) := rfl
          obtain ⟨x, rfl, hx, hcell⟩ := HR.out.2.1 (by omega)
          have hub := HR.out.2.2 j hlt
          have hcx : wr.cell? (x.add j) = some (.int .u32 (zs.getD j 0)) := (b1.cell (p := x.add j) (by unfold Addr.add; split <;> exact hx)).trans (hcell j hlt)
          generalize zs.getD j 0 = u at *
          generalize pts A zs j = N at *
          have l1 := r1.lt
          have l2 := r2.lt
          have HL : Hid (RMid w wr N) := ⟨b1, r1, r2⟩
          obtain ⟨⟨c0, c1, c2, c3, c4, c5⟩, f0, f1, f2, f3, f4, f5⟩ := cells6 r1
          clear r1 r2 b1 hcell
          go_wp2
          go_region_with ((go_at_call 7; refine (rput_any N u hub.1 hub.2 _).mono ?_; rintro e9 w9 ⟨he9, hb9⟩; have he9' : e9 = .returned (.agg #[.int .u64 (wd (pt N u) 0), .int .u64 (wd (pt N u) 1), .int .u64 (wd (pt N u) 2), .int .u64 (wd (pt N u) 3), .int .u64 (wd (pt N u) 4), .int .u64 (wd (pt N u) 5)]) := he9; subst he9'; have k0 := (hb9.cell (p := ⟨w.heap.size, 0, none⟩) l1).trans c0; have k1 := (hb9.cell (p := ⟨w.heap.size, 1, none⟩) l1).trans c1; have k2 := (hb9.cell (p := ⟨w.heap.size, 2, none⟩) l1).trans c2; have k3 := (hb9.cell (p := ⟨w.heap.size, 3, none⟩) l1).trans c3; have k4 := (hb9.cell (p := ⟨w.heap.size, 4, none⟩) l1).trans c4; have k5 := (hb9.cell (p := ⟨w.heap.size, 5, none⟩) l1).trans c5; have j0 := (hb9.frozen (p := ⟨w.heap.size, 0, none⟩) l1).trans f0; have j1 := (hb9.frozen (p := ⟨w.heap.size, 1, none⟩) l1).trans f1; have j2 := (hb9.frozen (p := ⟨w.heap.size, 2, none⟩) l1).trans f2; have j3 := (hb9.frozen (p := ⟨w.heap.size, 3, none⟩) l1).trans f3; have j4 := (hb9.frozen (p := ⟨w.heap.size, 4, none⟩) l1).trans f4; have j5 := (hb9.frozen (p := ⟨w.heap.size, 5, none⟩) l1).trans f5; clear c0 c1 c2 c3 c4 c5 f0 f1 f2 f3 f4 f5 he9))
          all_goals
            obtain ⟨b1, r1, r2⟩ := HL.out
            have HF : Hid (RMid w (six w9 w.heap.size (pt N u)) (pt N u)) := by
              have hbb : Below wr.heap.size wr w9 := ((Below.refl _ _).drew).trans hb9
              exact ⟨six_below _ (below_chain b1 hbb (Nat.le_refl _)) (Nat.le_refl _), six_row _ (r1.of_block (hbb.block _ l1)), six_other _ (r2.of_block (hbb.block _ l2)) (by omega)⟩
            clear k0 k1 k2 k3 k4 k5 j0 j1 j2 j3 j4 j5 hb9 b1 r1 r2 HL l1 l2
            go_wp2
            go_roundw
            case rel => exact ⟨j + 1, by omega, by go_num, by rw [HP.out]; exact HF.out⟩
            case measure => simp [intOf]; omega
        · obtain rfl : j = k := by omega
          generalize pts A zs j = N at *
          have hone := sm_one N
          have q0 := sm_row r1
          have q1 := sm_row r2
          have hbel := below_setRow (w.heap.size + 1) (sm N) b1 (by omega)
          have hld : (loadVar 27 ⟨w.heap.size + 1, 0, none⟩).run Tryd.prog (wr.setRow (w.heap.size + 1) (sm N)) = .ok (.agg (sm N)) (wr.setRow (w.heap.size + 1) (sm N)) :=
            run_loadVar_row _ _ 27 27 _ (0, 0) _ (setRow_heap wr (w.heap.size + 1) _ _ 27 (0, 0) q1) Tryd.underlying27 rfl sizeRSum
          have hkl : ¬ (j : Int) < (j : Int) := by omega
          clear r1 r2
          go_wp2_with (first
            | (refine wpList_load6 27 _ Tryd.underlying27 sizeRSum rfl _ rfl w.heap.size (sm N) rfl rfl q0 ?_)
            | (refine wpList_store6 27 sizeRSum rfl _ _ rfl (w.heap.size + 1) (sm N) _ rfl rfl rfl rfl hone q1 ?_))
          refine bodyPost_ret (v := .tuple #[.agg (sm N), .int .i64 0]) ?_ rfl ⟨by rw [HG.out.1, HG.out.2], hbel⟩
          simp [results, Tryd.results12, asAddr, hld]
end Ty
end Go.Proofs.YtbnmjmlcedkoaaaDoor
