import Derived.Test.YtbnmjmlcedkoaaaTyT
import Derived.Test.YtbnmjmlcedkoaaaTyO
namespace Go.Proofs.Ytbnmjmlcedkoaaa
namespace Ty
open Go.RowKit
set_option linter.unusedVariables false
theorem Bits.on {w w' : World} {g : Nat} {N : Int} (h : Bits w g N) (hb : Below w.heap.size w w') : Bits w' g N := h.kept hb (World.rowIs.lt h)
theorem both_sums (w : World) (t : TypeId) (A B : Int) : ∃ v : World, ((w.alloc (.cells (sm A) t)).alloc (.cells (sm B) t)).alloc (.cells #[.int .u64 0, .int .u64 0, .int .u64 0, .int .u64 0, .int .u64 0, .int .u64 0] t) = v ∧ Below w.heap.size w v ∧ v.heap.size = w.heap.size + 1 + 1 + 1 ∧ v.heap[w.heap.size]? = some (.cells (sm A) t (0, 0)) ∧ v.heap[w.heap.size + 1]? = some (.cells (sm B) t (0, 0)) ∧ v.heap[w.heap.size + 1 + 1]? = some (.cells (sm 0) t (0, 0)) := by
  rw [zeros_sm]
  obtain ⟨h1, h2, h3⟩ := heap_three w (.cells (sm A) t) (.cells (sm B) t) (.cells (sm 0) t)
  exact ⟨_, rfl, (((Below.refl _ _).alloc (Nat.le_refl _) _).alloc (by simp) _).alloc (by simp; omega) _, by simp, h1, h2, h3⟩
theorem sm_open (N : Int) : ∃ x0 x1 x2 x3 x4 x5 : Int, sm N = #[.int .u64 x0, .int .u64 x1, .int .u64 x2, .int .u64 x3, .int .u64 x4, .int .u64 x5] := ⟨_, _, _, _, _, _, rfl⟩
/-- Six cells. -/
abbrev K6 (w : World) (g : Nat) (x0 x1 x2 x3 x4 x5 : Int) : Prop := w.cell? ⟨g, 0, none⟩ = some (.int .u64 x0) ∧ w.cell? ⟨g, 1, none⟩ = some (.int .u64 x1) ∧ w.cell? ⟨g, 2, none⟩ = some (.int .u64 x2) ∧ w.cell? ⟨g, 3, none⟩ = some (.int .u64 x3) ∧ w.cell? ⟨g, 4, none⟩ = some (.int .u64 x4) ∧ w.cell? ⟨g, 5, none⟩ = some (.int .u64 x5)
theorem K6.on {w w' : World} {g : Nat} {x0 x1 x2 x3 x4 x5 : Int} (h : K6 w g x0 x1 x2 x3 x4 x5) (hb : Below w.heap.size w w') : K6 w' g x0 x1 x2 x3 x4 x5 := by
  obtain ⟨h0, h1, h2, h3, h4, h5⟩ := h
  have hg : g < w.heap.size := World.block_lt_of_cell? w ⟨g, 0, none⟩ h0
  exact ⟨(hb.cell (p := ⟨g, 0, none⟩) hg).trans h0, (hb.cell (p := ⟨g, 1, none⟩) hg).trans h1, (hb.cell (p := ⟨g, 2, none⟩) hg).trans h2, (hb.cell (p := ⟨g, 3, none⟩) hg).trans h3, (hb.cell (p := ⟨g, 4, none⟩) hg).trans h4, (hb.cell (p := ⟨g, 5, none⟩) hg).trans h5⟩
theorem K6.far {w : World} {g : Nat} {x0 x1 x2 x3 x4 x5 : Int} (h : K6 w g x0 x1 x2 x3 x4 x5) (p : Addr) (v : Value) (hp : p.block ≠ g) : K6 (w.setCell p v) g x0 x1 x2 x3 x4 x5 := by
  obtain ⟨h0, h1, h2, h3, h4, h5⟩ := h
  exact ⟨(World.cell?_setCell_far _ _ _ _ hp).trans h0, (World.cell?_setCell_far _ _ _ _ hp).trans h1, (World.cell?_setCell_far _ _ _ _ hp).trans h2, (World.cell?_setCell_far _ _ _ _ hp).trans h3, (World.cell?_setCell_far _ _ _ _ hp).trans h4, (World.cell?_setCell_far _ _ _ _ hp).trans h5⟩
theorem k6_of {w : World} {g : Nat} {t : TypeId} {x0 x1 x2 x3 x4 x5 : Int} (h : w.heap[g]? = some (.cells #[.int .u64 x0, .int .u64 x1, .int .u64 x2, .int .u64 x3, .int .u64 x4, .int .u64 x5] t (0, 0))) : K6 w g x0 x1 x2 x3 x4 x5 ∧ ∀ i, w.frozen? ⟨g, i, none⟩ = false := by
  refine ⟨⟨?_, ?_, ?_, ?_, ?_, ?_⟩, fun i => ?_⟩ <;> simp [World.cell?, World.frozen?, h]
theorem six_sets {w : World} {g : Nat} {t : TypeId} {f : Nat → Value} {x0 x1 x2 x3 x4 x5 : Int} (h : w.rowIs g t 6 f) : ((((((w.setCell ⟨g, 0, none⟩ (.int .u64 x0)).setCell ⟨g, 1, none⟩ (.int .u64 x1)).setCell ⟨g, 2, none⟩ (.int .u64 x2)).setCell ⟨g, 3, none⟩ (.int .u64 x3)).setCell ⟨g, 4, none⟩ (.int .u64 x4)).setCell ⟨g, 5, none⟩ (.int .u64 x5)).heap[g]? = some (.cells #[.int .u64 x0, .int .u64 x1, .int .u64 x2, .int .u64 x3, .int .u64 x4, .int .u64 x5] t (0, 0)) := by
  obtain ⟨c, hc, hs, hv⟩ := ((((((h.set 0 (.int .u64 x0)).set 1 (.int .u64 x1)).set 2 (.int .u64 x2)).set 3 (.int .u64 x3)).set 4 (.int .u64 x4)).set 5 (.int .u64 x5))
  rw [hc]
  have e : c = #[.int .u64 x0, .int .u64 x1, .int .u64 x2, .int .u64 x3, .int .u64 x4, .int .u64 x5] := by
    apply Array.ext_getElem?
    intro i
    by_cases hi : i < 6
    · rw [hv i hi]
      match i, hi with
      | 0, _ => rfl
      | 1, _ => rfl
      | 2, _ => rfl
      | 3, _ => rfl
      | 4, _ => rfl
      | 5, _ => rfl
    · rw [Array.getElem?_eq_none (by omega), Array.getElem?_eq_none (by show 6 ≤ i; omega)]
  rw [e]
theorem sets_below {B : Nat} {w0 w : World} {g : Nat} {x0 x1 x2 x3 x4 x5 : Int} (h : Below B w0 w) (hg : B ≤ g) : Below B w0 ((((((w.setCell ⟨g, 0, none⟩ (.int .u64 x0)).setCell ⟨g, 1, none⟩ (.int .u64 x1)).setCell ⟨g, 2, none⟩ (.int .u64 x2)).setCell ⟨g, 3, none⟩ (.int .u64 x3)).setCell ⟨g, 4, none⟩ (.int .u64 x4)).setCell ⟨g, 5, none⟩ (.int .u64 x5)) :=
  (((((h.setCell (show B ≤ (⟨g, 0, none⟩ : Addr).block from hg) _).setCell (show B ≤ (⟨g, 1, none⟩ : Addr).block from hg) _).setCell (show B ≤ (⟨g, 2, none⟩ : Addr).block from hg) _).setCell (show B ≤ (⟨g, 3, none⟩ : Addr).block from hg) _).setCell (show B ≤ (⟨g, 4, none⟩ : Addr).block from hg) _).setCell (show B ≤ (⟨g, 5, none⟩ : Addr).block from hg) _
set_option maxHeartbeats 1600000 in
set_option maxRecDepth 8000 in
theorem rmerge_any (A B : Int) (w : World) :
    Calls Try.prog 17 #[.agg (sm A), .agg (sm B)] w fun e w' => e = .returned (.agg (sm (A + B))) ∧ Below w.heap.size w w' := by
  obtain ⟨v, hv, hvb, hvs, hv0, hv1, hv2⟩ := both_sums w 29 A B
  have HA : Hid (∀ w, Calls Try.prog 44 #[.agg (sm A)] w fun e w' => ∃ g, e = .returned (.slice (some ⟨g, 0, none⟩) 384 384) ∧ w.heap.size ≤ g ∧ Bits w' g A ∧ Below w.heap.size w w') := rbits_any A
  have HB : Hid (∀ w, Calls Try.prog 44 #[.agg (sm B)] w fun e w' => ∃ g, e = .returned (.slice (some ⟨g, 0, none⟩) 384 384) ∧ w.heap.size ≤ g ∧ Bits w' g B ∧ Below w.heap.size w w') := rbits_any B
  obtain ⟨x0, x1, x2, x3, x4, x5, hsA⟩ := sm_open A
  obtain ⟨y0, y1, y2, y3, y4, y5, hsB⟩ := sm_open B
  obtain ⟨z0, z1, z2, z3, z4, z5, hz⟩ := sm_open (A + B)
  obtain ⟨o0, o1, o2, o3, o4, o5, ho⟩ := sm_open 0
  rw [hsA] at hv0 HA hv
  rw [hsB] at hv1 HB hv
  rw [hsA, hsB]
  have HRow := row_sm hv2
  rw [ho] at hv2
  have HS0 : Hid (K6 v.drew w.heap.size x0 x1 x2 x3 x4 x5 ∧ K6 v.drew (w.heap.size + 1) y0 y1 y2 y3 y4 y5) := ⟨(k6_of hv0).1, (k6_of hv1).1⟩
  have HR0 : Hid (K6 v (w.heap.size + 1 + 1) o0 o1 o2 o3 o4 o5 ∧ ∀ i, v.frozen? ⟨w.heap.size + 1 + 1, i, none⟩ = false) := k6_of hv2
  have HRR : Hid (v.rowIs (w.heap.size + 1 + 1) 29 6 (fun i => .int .u64 (wd 0 i))) := HRow
  have HD : Hid (Below v.heap.size v v.drew) := (Below.refl _ _).drew
  have lR : w.heap.size + 1 + 1 < v.heap.size := by omega
  have n20 : w.heap.size + 1 + 1 ≠ w.heap.size := by omega
  have n21 : w.heap.size + 1 + 1 ≠ w.heap.size + 1 := by omega
  clear hsA hsB hv0 hv1 hv2 HRow ho
  go_enter Try.func17, Try.ntmps17
  go_wp2_with (fail)
  clear hv
  go_region_held (fun w' => (w'.cell? ⟨w.heap.size, 0, none⟩ = some (.int .u64 x0) ∧ w'.cell? ⟨w.heap.size, 1, none⟩ = some (.int .u64 x1) ∧ w'.cell? ⟨w.heap.size, 2, none⟩ = some (.int .u64 x2) ∧ w'.cell? ⟨w.heap.size, 3, none⟩ = some (.int .u64 x3) ∧ w'.cell? ⟨w.heap.size, 4, none⟩ = some (.int .u64 x4) ∧ w'.cell? ⟨w.heap.size, 5, none⟩ = some (.int .u64 x5)) ∧ (w'.cell? ⟨w.heap.size + 1, 0, none⟩ = some (.int .u64 y0) ∧ w'.cell? ⟨w.heap.size + 1, 1, none⟩ = some (.int .u64 y1) ∧ w'.cell? ⟨w.heap.size + 1, 2, none⟩ = some (.int .u64 y2) ∧ w'.cell? ⟨w.heap.size + 1, 3, none⟩ = some (.int .u64 y3) ∧ w'.cell? ⟨w.heap.size + 1, 4, none⟩ = some (.int .u64 y4) ∧ w'.cell? ⟨w.heap.size + 1, 5, none⟩ = some (.int .u64 y5)))
    (first | with_reducible exact HS0.out | with_reducible exact ⟨(K6.on HS0.out.1 hwA), (K6.on HS0.out.2 hwA)⟩ | with_reducible exact ⟨(K6.on HS0.out.1 hwB), (K6.on HS0.out.2 hwB)⟩ | with_reducible exact ⟨(K6.on (K6.on HS0.out.1 hwA) hwB), (K6.on (K6.on HS0.out.2 hwA) hwB)⟩ | with_reducible exact ⟨(K6.on (K6.on HS0.out.1 hwB) hwA), (K6.on (K6.on HS0.out.2 hwB) hwA)⟩ | with_reducible exact ⟨(K6.on (K6.on (K6.on HS0.out.1 hwA) hwB) hw3), (K6.on (K6.on (K6.on HS0.out.2 hwA) hwB) hw3)⟩ | with_reducible exact ⟨(K6.on (K6.on (K6.on HS0.out.1 hwB) hwA) hw3), (K6.on (K6.on (K6.on HS0.out.2 hwB) hwA) hw3)⟩ | with_reducible exact ⟨(K6.on (K6.on (K6.on (K6.on HS0.out.1 hwA) hwB) hw3) hw4), (K6.on (K6.on (K6.on (K6.on HS0.out.2 hwA) hwB) hw3) hw4)⟩ | with_reducible exact ⟨(K6.on (K6.on (K6.on (K6.on HS0.out.1 hwB) hwA) hw3) hw4), (K6.on (K6.on (K6.on (K6.on HS0.out.2 hwB) hwA) hw3) hw4)⟩ | with_reducible exact ⟨(K6.far (K6.far (K6.far (K6.far (K6.far (K6.far (K6.on (K6.on (K6.on (K6.on HS0.out.1 hwA) hwB) hw3) hw4) _ _ n20) _ _ n20) _ _ n20) _ _ n20) _ _ n20) _ _ n20), (K6.far (K6.far (K6.far (K6.far (K6.far (K6.far (K6.on (K6.on (K6.on (K6.on HS0.out.2 hwA) hwB) hw3) hw4) _ _ n21) _ _ n21) _ _ n21) _ _ n21) _ _ n21) _ _ n21)⟩ | with_reducible exact ⟨(K6.far (K6.far (K6.far (K6.far (K6.far (K6.far (K6.on (K6.on (K6.on (K6.on HS0.out.1 hwB) hwA) hw3) hw4) _ _ n20) _ _ n20) _ _ n20) _ _ n20) _ _ n20) _ _ n20), (K6.far (K6.far (K6.far (K6.far (K6.far (K6.far (K6.on (K6.on (K6.on (K6.on HS0.out.2 hwB) hwA) hw3) hw4) _ _ n21) _ _ n21) _ _ n21) _ _ n21) _ _ n21) _ _ n21)⟩)
    ((first
      | (go_at_call_of 44 x0; refine (HA.out _).mono ?_; rintro eA wA ⟨gA, rfl, hgA, hbA, hwA⟩)
      | (go_at_call_of 44 y0; refine (HB.out _).mono ?_; rintro eB wB ⟨gB, rfl, hgB, hbB, hwB⟩)
      | (go_at_call 43; refine (rplus_any A B gA gB _ ?_ ?_).mono ?_; (first | with_reducible exact hbA | with_reducible exact Bits.on hbA hwB); (first | with_reducible exact hbB | with_reducible exact Bits.on hbB hwA); rintro e3 w3 ⟨g3, rfl, hg3, hb3, hw3⟩)
      | (go_at_call 42; refine (rwords_any (A + B) _ 384 384 _ (by omega) hb3.br (fun i h1 h2 => by omega)).mono ?_; rintro e4 w4 ⟨he4, hw4⟩; rw [hz] at he4; subst he4; have hv4 : Below v.heap.size v w4 := (by first | with_reducible exact below_chain (below_chain (below_chain (below_chain HD.out hwA (Nat.le_refl _)) hwB (Nat.le_refl _)) hw3 (Nat.le_refl _)) hw4 (Nat.le_refl _) | with_reducible exact below_chain (below_chain (below_chain (below_chain HD.out hwB (Nat.le_refl _)) hwA (Nat.le_refl _)) hw3 (Nat.le_refl _)) hw4 (Nat.le_refl _)); obtain ⟨k0, k1, k2, k3, k4, k5⟩ := K6.on HR0.out.1 hv4; have j0 := (hv4.frozen (p := ⟨w.heap.size + 1 + 1, 0, none⟩) lR).trans (HR0.out.2 0); have j1 := (hv4.frozen (p := ⟨w.heap.size + 1 + 1, 1, none⟩) lR).trans (HR0.out.2 1); have j2 := (hv4.frozen (p := ⟨w.heap.size + 1 + 1, 2, none⟩) lR).trans (HR0.out.2 2); have j3 := (hv4.frozen (p := ⟨w.heap.size + 1 + 1, 3, none⟩) lR).trans (HR0.out.2 3); have j4 := (hv4.frozen (p := ⟨w.heap.size + 1 + 1, 4, none⟩) lR).trans (HR0.out.2 4); have j5 := (hv4.frozen (p := ⟨w.heap.size + 1 + 1, 5, none⟩) lR).trans (HR0.out.2 5); skip)))
  all_goals
    have hq := six_sets (x0 := z0) (x1 := z1) (x2 := z2) (x3 := z3) (x4 := z4) (x5 := z5) (HRR.out.of_block (hv4.block _ lR))
    have hbel := sets_below (g := w.heap.size + 1 + 1) (x0 := z0) (x1 := z1) (x2 := z2) (x3 := z3) (x4 := z4) (x5 := z5) (below_chain hvb hv4 (Nat.le_refl _)) (by omega)
    have hld := run_loadVar_row _ _ 29 29 _ (0, 0) _ hq Try.underlying29 rfl sizeRSum
    clear k0 k1 k2 k3 k4 k5 j0 j1 j2 j3 j4 j5
    go_wp2
    refine bodyPost_ret (v := .agg #[.int .u64 z0, .int .u64 z1, .int .u64 z2, .int .u64 z3, .int .u64 z4, .int .u64 z5]) ?_ rfl ⟨by rw [hz], hbel⟩
    simp [results, Try.results17, asAddr, hld]
set_option maxHeartbeats 800000 in
set_option maxRecDepth 8000 in
theorem rneg_any (A : Int) (w : World) :
    Calls Try.prog 19 #[.agg (sm A)] w fun e w' => e = .returned (.agg (sm (-A))) ∧ Below w.heap.size w w' := by
  obtain ⟨v, hv, hvb, hvs, hv0, hv1⟩ := two_sums w 29 A
  have hone := sm_one (-A)
  have HA : Hid (∀ w, Calls Try.prog 44 #[.agg (sm A)] w fun e w' => ∃ g, e = .returned (.slice (some ⟨g, 0, none⟩) 384 384) ∧ w.heap.size ≤ g ∧ Bits w' g A ∧ Below w.heap.size w w') := rbits_any A
  have hsa : (sm A).size = 6 := rfl
  generalize sm A = ca at *
  go_enter Try.func19, Try.ntmps19
  go_wp2_with (refine wpList_load6 29 _ Try.underlying29 sizeRSum rfl _ rfl w.heap.size ca rfl hsa hv0 ?_)
  clear hv
  refine (HA.out _).mono ?_
  rintro e1 w1 ⟨g1, rfl, hg1, hb1, hw1⟩
  have s1 := hw1.size
  go_wp2_with (fail)
  refine (rminus_any A _ _ hb1).mono ?_
  rintro e3 w3 ⟨g3, rfl, hg3, hb3, hw3⟩
  go_wp2_with (fail)
  refine (rwords_any (-A) _ 384 384 _ (by omega) hb3.br (fun i h1 h2 => by omega)).mono ?_
  rintro e4 w4 ⟨rfl, hw4⟩
  have s3 := hw3.size
  have q1 : w4.heap[w.heap.size + 1]? = some (.cells (sm 0) 29 (0, 0)) := by
    rw [hw4.block _ (by omega), hw3.block _ (by omega), hw1.block _ (by omega)]; exact hv1
  have hB4 : Below w.heap.size w w4 := below_chain (below_chain (below_chain hvb hw1 (Nat.le_refl _)) hw3 (Nat.le_refl _)) hw4 (Nat.le_refl _)
  have hbel := below_setRow (w.heap.size + 1) (sm (-A)) hB4 (by omega)
  have hld : (loadVar 29 ⟨w.heap.size + 1, 0, none⟩).run Try.prog (w4.setRow (w.heap.size + 1) (sm (-A))) = .ok (.agg (sm (-A))) (w4.setRow (w.heap.size + 1) (sm (-A))) :=
    run_loadVar_row _ _ 29 29 _ (0, 0) _ (setRow_heap w4 (w.heap.size + 1) _ _ 29 (0, 0) q1) Try.underlying29 rfl sizeRSum
  clear hb1 hb3 hw1 hw3 hw4 hB4 hv0 hv1 hvb HA
  go_wp2_with (refine wpList_store6 29 sizeRSum rfl _ _ rfl (w.heap.size + 1) (sm (-A)) (sm 0) rfl rfl rfl rfl hone q1 ?_)
  refine bodyPost_ret (v := .agg (sm (-A))) ?_ rfl ⟨rfl, hbel⟩
  simp [results, Try.results19, asAddr, Act.put, hld]
end Ty
end Go.Proofs.Ytbnmjmlcedkoaaa
