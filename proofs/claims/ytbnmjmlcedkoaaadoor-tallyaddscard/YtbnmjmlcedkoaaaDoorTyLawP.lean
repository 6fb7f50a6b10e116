import Derived.Test.YtbnmjmlcedkoaaaDoorTyPut
import Derived.Test.YtbnmjmlcedkoaaaDoorTyEq
namespace Go.Proofs.YtbnmjmlcedkoaaaDoor
namespace Ty
open Go.RowKit
set_option linter.unusedVariables false
/-- A list of uint32 that lies in memory. -/
def URow (w : World) (a : Option Addr) (len : Nat) (zs : List Int) : Prop :=
  (len ≤ zs.length ∧ len ≤ 9223372036854775807) ∧ (0 < len → ∃ x : Addr, a = some x ∧ x.block < w.heap.size ∧ ∀ i, i < len → w.cell? (x.add i) = some (.int .u32 (zs.getD i 0))) ∧ ∀ i, i < len → 0 ≤ zs.getD i 0 ∧ zs.getD i 0 < 4294967296
theorem URow.on {w w' : World} {a : Option Addr} {len : Nat} {zs : List Int} (h : URow w a len zs) (hb : Below w.heap.size w w') : URow w' a len zs := by
  obtain ⟨h1, h2, h3⟩ := h
  refine ⟨h1, fun h0 => ?_, h3⟩
  obtain ⟨x, rfl, hx, hc⟩ := h2 h0
  exact ⟨x, rfl, Nat.lt_of_lt_of_le hx hb.size, fun i hi => (hb.cell (p := x.add i) (by unfold Addr.add; split <;> exact hx)).trans (hc i hi)⟩
/-- The sum behind k numbers. -/
def pts (A : Int) (zs : List Int) : Nat → Int
  | 0 => A
  | k + 1 => pt (pts A zs k) (zs.getD k 0)
theorem sizeWords : (Tryd.prog.info? 24).map (·.size) = some 6 := by kernel_rfl
/-- Six words stored, one by one. -/
def six (w : World) (g : Nat) (N : Int) : World :=
  (((((w.setCell ⟨g, 0, none⟩ (.int .u64 (wd N 0))).setCell ⟨g, 1, none⟩ (.int .u64 (wd N 1))).setCell ⟨g, 2, none⟩ (.int .u64 (wd N 2))).setCell ⟨g, 3, none⟩ (.int .u64 (wd N 3))).setCell ⟨g, 4, none⟩ (.int .u64 (wd N 4))).setCell ⟨g, 5, none⟩ (.int .u64 (wd N 5))
theorem six_row {w : World} {g : Nat} {t : TypeId} {f : Nat → Value} (N : Int) (h : w.rowIs g t 6 f) : (six w g N).rowIs g t 6 (fun i => .int .u64 (wd N i)) := by
  refine ((((((h.set 0 _).set 1 _).set 2 _).set 3 _).set 4 _).set 5 _).congr (fun i hi => ?_)
  match i, hi with
  | 0, _ => rfl
  | 1, _ => rfl
  | 2, _ => rfl
  | 3, _ => rfl
  | 4, _ => rfl
  | 5, _ => rfl
theorem six_other {w : World} {g g2 : Nat} {t : TypeId} {n : Nat} {f : Nat → Value} (N : Int) (h : w.rowIs g2 t n f) (hg : g2 ≠ g) : (six w g N).rowIs g2 t n f :=
  (((((h.setOther hg _).setOther hg _).setOther hg _).setOther hg _).setOther hg _).setOther hg _
theorem six_below {B : Nat} {w0 w : World} {g : Nat} (N : Int) (h : Below B w0 w) (hg : B ≤ g) : Below B w0 (six w g N) :=
  (((((h.setCell (show B ≤ (⟨g, 0, none⟩ : Addr).block from hg) _).setCell (show B ≤ (⟨g, 1, none⟩ : Addr).block from hg) _).setCell (show B ≤ (⟨g, 2, none⟩ : Addr).block from hg) _).setCell (show B ≤ (⟨g, 3, none⟩ : Addr).block from hg) _).setCell (show B ≤ (⟨g, 4, none⟩ : Addr).block from hg) _).setCell (show B ≤ (⟨g, 5, none⟩ : Addr).block from hg) _
def LMid (w wr : World) (N : Int) : Prop :=
  Below w.heap.size w wr ∧ wr.rowIs (w.heap.size + 1) 26 6 (fun i => .int .u64 (wd N i)) ∧ wr.rowIs (w.heap.size + 1 + 1) 27 6 (fun i => .int .u64 (wd N i))
theorem cells6 {w : World} {g : Nat} {t : TypeId} {N : Int} (h : w.rowIs g t 6 (fun i => .int .u64 (wd N i))) :
    (w.cell? ⟨g, 0, none⟩ = some (.int .u64 (wd N 0)) ∧ w.cell? ⟨g, 1, none⟩ = some (.int .u64 (wd N 1)) ∧ w.cell? ⟨g, 2, none⟩ = some (.int .u64 (wd N 2)) ∧ w.cell? ⟨g, 3, none⟩ = some (.int .u64 (wd N 3)) ∧ w.cell? ⟨g, 4, none⟩ = some (.int .u64 (wd N 4)) ∧ w.cell? ⟨g, 5, none⟩ = some (.int .u64 (wd N 5))) ∧
    (w.frozen? ⟨g, 0, none⟩ = false ∧ w.frozen? ⟨g, 1, none⟩ = false ∧ w.frozen? ⟨g, 2, none⟩ = false ∧ w.frozen? ⟨g, 3, none⟩ = false ∧ w.frozen? ⟨g, 4, none⟩ = false ∧ w.frozen? ⟨g, 5, none⟩ = false) :=
  ⟨⟨h.cell (by omega), h.cell (by omega), h.cell (by omega), h.cell (by omega), h.cell (by omega), h.cell (by omega)⟩, ⟨h.frozen 0, h.frozen 1, h.frozen 2, h.frozen 3, h.frozen 4, h.frozen 5⟩⟩
set_option maxHeartbeats 1600000 in
theorem puts_walk (A : Int) (a : Option Addr) (len cap : Nat) (zs : List Int) (w : World) (ht : Cl.TabAt w) (hr : URow w a len zs) :
    Calls Tryd.prog 3 #[.agg (sm A), .slice a len cap] w fun e w' => e = .returned (.bool true) ∧ Below w.heap.size w w' := by
  have hone := sm_one A
  have hsz : (sm A).size = 6 := rfl
  obtain ⟨v1, hv1, hv1s, hv10⟩ : ∃ v1, w.alloc (.cells (sm A) 24) = v1 ∧ v1.heap.size = w.heap.size + 1 ∧ v1.heap[w.heap.size]? = some (.cells (sm A) 24 (0, 0)) := ⟨_, rfl, by simp, heap_alloc_last w _⟩
  have hal1 := heap_alloc_last v1 (.cells #[.int .u64 0, .int .u64 0, .int .u64 0, .int .u64 0, .int .u64 0, .int .u64 0] 26)
  rw [hv1s] at hal1
  obtain ⟨v2, hv2, hv2s, hv20, hv21⟩ : ∃ v2, (v1.alloc (.cells #[.int .u64 0, .int .u64 0, .int .u64 0, .int .u64 0, .int .u64 0, .int .u64 0] 26)).setRow (w.heap.size + 1) (sm A) = v2 ∧ v2.heap.size = w.heap.size + 1 + 1 ∧ v2.heap[w.heap.size]? = some (.cells (sm A) 24 (0, 0)) ∧ v2.heap[w.heap.size + 1]? = some (.cells (sm A) 26 (0, 0)) := by
    refine ⟨_, rfl, by simp [hv1s], ?_, ?_⟩
    · rw [setRow_other _ _ _ _ (by omega), blk_alloc _ _ _ (by omega)]; exact hv10
    · exact setRow_heap _ (w.heap.size + 1) _ _ 26 (0, 0) hal1
  have hal2 := heap_alloc_last v2 (.cells #[.int .u64 0, .int .u64 0, .int .u64 0, .int .u64 0, .int .u64 0, .int .u64 0] 27)
  rw [hv2s] at hal2
  obtain ⟨v3, hv3, hM⟩ : ∃ v3, (v2.alloc (.cells #[.int .u64 0, .int .u64 0, .int .u64 0, .int .u64 0, .int .u64 0, .int .u64 0] 27)).setRow (w.heap.size + 1 + 1) (sm A) = v3 ∧ LMid w v3 A := by
    refine ⟨_, rfl, ?_, ?_, ?_⟩
    · refine below_setRow _ _ (Below.alloc ?_ (by omega) _) (by omega)
      rw [← hv2]
      refine below_setRow _ _ (Below.alloc ?_ (by omega) _) (by omega)
      rw [← hv1]
      exact (Below.refl _ _).alloc (Nat.le_refl _) _
    · refine row_sm ?_
      rw [setRow_other _ _ _ _ (by omega), blk_alloc _ _ _ (by omega)]; exact hv21
    · refine row_sm ?_
      exact setRow_heap _ (w.heap.size + 1 + 1) _ _ 27 (0, 0) hal2
  have HM : Hid (LMid w v3 A) := hM
  have HR : Hid (URow w a len zs) := hr
  clear hM hr
  have HCA : Hid True := trivial
  generalize sm A = ca at *
  go_enter Tryd.func3, Tryd.ntmps3
  go_wp2_with (first
    | (refine wpList_load6 24 _ Tryd.underlying24 sizeWords rfl _ rfl w.heap.size ca rfl hsz hv10 ?_)
    | (refine wpList_load6 24 _ Tryd.underlying24 sizeWords rfl _ rfl w.heap.size ca rfl hsz hv20 ?_)
    | (refine wpList_store6 26 sizeSum rfl _ _ rfl (w.heap.size + 1) ca _ rfl rfl hsz rfl hone hal1 ?_; rw [hv2])
    | (refine wpList_store6 27 sizeRSum rfl _ _ rfl (w.heap.size + 1 + 1) ca _ rfl rfl hsz rfl hone hal2 ?_; rw [hv3]))
  clear hv1 hv2 hv3 hal1 hal2 hv10 hv20 hv21 hv1s hv2s hone hsz HCA
  go_loopw [7] (fun i wr => ∃ k : Nat, k ≤ len ∧ i = .int .i64 k ∧ LMid w wr (pts A zs k)) (fun i _ => len - (intOf i).toNat)
  case atStart => exact ⟨0, by omega, rfl, HM.out⟩
  case round =>
    clear HM
    obtain ⟨k, hk, rfl, b1, r1, r2⟩ := hrel
    have hl := HR.out.1.2
    by_cases hlt : k < len
    · have HP : Hid (pts A zs (k + 1) = pt (pts A zs k) (zs.getD k 0)) := rfl
      obtain ⟨x, rfl, hx, hcell⟩ := HR.out.2.1 (by omega)
      have hub := HR.out.2.2 k hlt
      have hcx : wr.cell? (x.add k) = some (.int .u32 (zs.getD k 0)) := (b1.cell (p := x.add k) (by unfold Addr.add; split <;> exact hx)).trans (hcell k hlt)
      have hxb : (x.add k).block < w.heap.size := by unfold Addr.add; split <;> exact hx
      generalize zs.getD k 0 = u at *
      generalize pts A zs k = N at *
      have htr := tab_on ht b1
      have bs := b1.size
      have l1 := r1.lt
      have l2 := r2.lt
      have HL : Hid (LMid w wr N) := ⟨b1, r1, r2⟩
      obtain ⟨⟨c0, c1, c2, c3, c4, c5⟩, f0, f1, f2, f3, f4, f5⟩ := cells6 r1
      clear r1 r2 b1 hcell
      go_wp2
      go_region_with ((go_at_call 6; refine (put_any N u hub.1 hub.2 _ (tab_on htr ((Below.refl _ _).drew))).mono ?_; rintro e9 w9 ⟨he9, hb9⟩; have he9' : e9 = .returned (.agg #[.int .u64 (wd (pt N u) 0), .int .u64 (wd (pt N u) 1), .int .u64 (wd (pt N u) 2), .int .u64 (wd (pt N u) 3), .int .u64 (wd (pt N u) 4), .int .u64 (wd (pt N u) 5)]) := he9; subst he9'; have k0 := (hb9.cell (p := ⟨w.heap.size + 1, 0, none⟩) l1).trans c0; have k1 := (hb9.cell (p := ⟨w.heap.size + 1, 1, none⟩) l1).trans c1; have k2 := (hb9.cell (p := ⟨w.heap.size + 1, 2, none⟩) l1).trans c2; have k3 := (hb9.cell (p := ⟨w.heap.size + 1, 3, none⟩) l1).trans c3; have k4 := (hb9.cell (p := ⟨w.heap.size + 1, 4, none⟩) l1).trans c4; have k5 := (hb9.cell (p := ⟨w.heap.size + 1, 5, none⟩) l1).trans c5; have j0 := (hb9.frozen (p := ⟨w.heap.size + 1, 0, none⟩) l1).trans f0; have j1 := (hb9.frozen (p := ⟨w.heap.size + 1, 1, none⟩) l1).trans f1; have j2 := (hb9.frozen (p := ⟨w.heap.size + 1, 2, none⟩) l1).trans f2; have j3 := (hb9.frozen (p := ⟨w.heap.size + 1, 3, none⟩) l1).trans f3; have j4 := (hb9.frozen (p := ⟨w.heap.size + 1, 4, none⟩) l1).trans f4; have j5 := (hb9.frozen (p := ⟨w.heap.size + 1, 5, none⟩) l1).trans f5; clear c0 c1 c2 c3 c4 c5 f0 f1 f2 f3 f4 f5 he9))
      all_goals
        obtain ⟨b1, r1, r2⟩ := HL.out
        obtain ⟨wa, hwa, ba, ra, rb, cxa⟩ : ∃ wa, six w9 (w.heap.size + 1) (pt N u) = wa ∧ Below w.heap.size w wa ∧ wa.rowIs (w.heap.size + 1) 26 6 (fun i => .int .u64 (wd (pt N u) i)) ∧ wa.rowIs (w.heap.size + 1 + 1) 27 6 (fun i => .int .u64 (wd N i)) ∧ wa.cell? (x.add k) = some (.int .u32 u) := by
          have hbb : Below wr.heap.size wr w9 := ((Below.refl _ _).drew).trans hb9
          have b9 := below_chain b1 hbb (Nat.le_refl _)
          refine ⟨_, rfl, six_below _ b9 (by omega), six_row _ (r1.of_block (hbb.block _ l1)), six_other _ (r2.of_block (hbb.block _ l2)) (by omega), ?_⟩
          rw [(six_below (B := w.heap.size) (g := w.heap.size + 1) (pt N u) b9 (by omega)).cell hxb, ← b1.cell hxb]; exact hcx
        have hwa' : (((((w9.setCell ⟨w.heap.size + 1, 0, none⟩ (.int .u64 (wd (pt N u) 0))).setCell ⟨w.heap.size + 1, 1, none⟩ (.int .u64 (wd (pt N u) 1))).setCell ⟨w.heap.size + 1, 2, none⟩ (.int .u64 (wd (pt N u) 2))).setCell ⟨w.heap.size + 1, 3, none⟩ (.int .u64 (wd (pt N u) 3))).setCell ⟨w.heap.size + 1, 4, none⟩ (.int .u64 (wd (pt N u) 4))).setCell ⟨w.heap.size + 1, 5, none⟩ (.int .u64 (wd (pt N u) 5)) = wa := hwa
        rw [hwa']
        clear k0 k1 k2 k3 k4 k5 j0 j1 j2 j3 j4 j5 hb9 hwa hwa' b1 r1 r2 hcx HL htr l1 l2
        have l1 := ra.lt
        have l2 := rb.lt
        have HL : Hid (LMid w wa (pt N u) ∨ True) := Or.inr trivial
        have HA : Hid (Below w.heap.size w wa ∧ wa.rowIs (w.heap.size + 1) 26 6 (fun i => .int .u64 (wd (pt N u) i)) ∧ wa.rowIs (w.heap.size + 1 + 1) 27 6 (fun i => .int .u64 (wd N i))) := ⟨ba, ra, rb⟩
        obtain ⟨⟨c0, c1, c2, c3, c4, c5⟩, f0, f1, f2, f3, f4, f5⟩ := cells6 rb
        clear ra rb ba
        go_wp2
        go_region_with ((go_at_call 7; refine (rput_any N u hub.1 hub.2 _).mono ?_; rintro e8 w8 ⟨he9, hb8⟩; have he9' : e8 = .returned (.agg #[.int .u64 (wd (pt N u) 0), .int .u64 (wd (pt N u) 1), .int .u64 (wd (pt N u) 2), .int .u64 (wd (pt N u) 3), .int .u64 (wd (pt N u) 4), .int .u64 (wd (pt N u) 5)]) := he9; subst he9'; have k0 := (hb8.cell (p := ⟨w.heap.size + 1 + 1, 0, none⟩) l2).trans c0; have k1 := (hb8.cell (p := ⟨w.heap.size + 1 + 1, 1, none⟩) l2).trans c1; have k2 := (hb8.cell (p := ⟨w.heap.size + 1 + 1, 2, none⟩) l2).trans c2; have k3 := (hb8.cell (p := ⟨w.heap.size + 1 + 1, 3, none⟩) l2).trans c3; have k4 := (hb8.cell (p := ⟨w.heap.size + 1 + 1, 4, none⟩) l2).trans c4; have k5 := (hb8.cell (p := ⟨w.heap.size + 1 + 1, 5, none⟩) l2).trans c5; have j0 := (hb8.frozen (p := ⟨w.heap.size + 1 + 1, 0, none⟩) l2).trans f0; have j1 := (hb8.frozen (p := ⟨w.heap.size + 1 + 1, 1, none⟩) l2).trans f1; have j2 := (hb8.frozen (p := ⟨w.heap.size + 1 + 1, 2, none⟩) l2).trans f2; have j3 := (hb8.frozen (p := ⟨w.heap.size + 1 + 1, 3, none⟩) l2).trans f3; have j4 := (hb8.frozen (p := ⟨w.heap.size + 1 + 1, 4, none⟩) l2).trans f4; have j5 := (hb8.frozen (p := ⟨w.heap.size + 1 + 1, 5, none⟩) l2).trans f5; clear c0 c1 c2 c3 c4 c5 f0 f1 f2 f3 f4 f5 he9))
        all_goals
          obtain ⟨b1, r1, r2⟩ := HA.out
          obtain ⟨wb, hwb, bb, rra, rrb⟩ : ∃ wb, six w8 (w.heap.size + 1 + 1) (pt N u) = wb ∧ Below w.heap.size w wb ∧ wb.rowIs (w.heap.size + 1) 26 6 (fun i => .int .u64 (wd (pt N u) i)) ∧ wb.rowIs (w.heap.size + 1 + 1) 27 6 (fun i => .int .u64 (wd (pt N u) i)) := by
            have hbb : Below wa.heap.size wa w8 := ((Below.refl _ _).drew).trans hb8
            exact ⟨_, rfl, six_below _ (below_chain b1 hbb (Nat.le_refl _)) (by omega), six_other _ (r1.of_block (hbb.block _ l1)) (by omega), six_row _ (r2.of_block (hbb.block _ l2))⟩
          have hwb' : (((((w8.setCell ⟨w.heap.size + 1 + 1, 0, none⟩ (.int .u64 (wd (pt N u) 0))).setCell ⟨w.heap.size + 1 + 1, 1, none⟩ (.int .u64 (wd (pt N u) 1))).setCell ⟨w.heap.size + 1 + 1, 2, none⟩ (.int .u64 (wd (pt N u) 2))).setCell ⟨w.heap.size + 1 + 1, 3, none⟩ (.int .u64 (wd (pt N u) 3))).setCell ⟨w.heap.size + 1 + 1, 4, none⟩ (.int .u64 (wd (pt N u) 4))).setCell ⟨w.heap.size + 1 + 1, 5, none⟩ (.int .u64 (wd (pt N u) 5)) = wb := hwb
          rw [hwb']
          clear k0 k1 k2 k3 k4 k5 j0 j1 j2 j3 j4 j5 hb8 hwb hwb' b1 r1 r2 HA l1 l2
          have HF : Hid (LMid w wb (pt N u)) := ⟨bb, rra, rrb⟩
          obtain ⟨⟨c0, c1, c2, c3, c4, c5⟩, -⟩ := cells6 rra
          obtain ⟨⟨d0, d1, d2, d3, d4, d5⟩, -⟩ := cells6 rrb
          clear rra rrb bb
          have hEq := fun w' => eq6 23 Tryd.underlying23 (wd (pt N u) 0) (wd (pt N u) 1) (wd (pt N u) 2) (wd (pt N u) 3) (wd (pt N u) 4) (wd (pt N u) 5) (wd (pt N u) 0) (wd (pt N u) 1) (wd (pt N u) 2) (wd (pt N u) 3) (wd (pt N u) 4) (wd (pt N u) 5) w'
          simp only [beq_self_eq_true, Bool.and_self] at hEq
          go_wp2
          exact ⟨⟨k + 1, by omega, by go_num, by rw [HP.out]; exact HF.out⟩, by simp [intOf]; omega⟩
    · have hkl : ¬ (k : Int) < (len : Int) := by omega
      go_wp2
      go_ret
      exact ⟨rfl, b1⟩
end Ty
end Go.Proofs.YtbnmjmlcedkoaaaDoor
