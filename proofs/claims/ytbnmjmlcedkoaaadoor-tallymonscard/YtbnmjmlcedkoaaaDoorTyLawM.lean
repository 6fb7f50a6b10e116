import Derived.Test.YtbnmjmlcedkoaaaDoorTyLawL
namespace Go.Proofs.YtbnmjmlcedkoaaaDoor
namespace Ty
open Go.RowKit
set_option linter.unusedVariables false
set_option maxHeartbeats 3200000 in
theorem mons_walk (f : Nat → Int) (hf : Rng f) (a : Option Addr) (len cap : Nat) (M A Y : Nat → Int) (w : World) (ht : Cl.TabAt w) (hr : MRow w a len M A Y) :
    Calls Tryd.prog 4 #[.agg (st f), .slice a len cap] w fun e w' => e = .returned (.bool true) ∧ Below w.heap.size w w' := by
  obtain ⟨v0, v, hv0, q0, q1, hs0, hv, hb, p0, p1⟩ := one_state w f
  have HT : Hid (Cl.TabAt w) := ht
  have HR : Hid (MRow w a len M A Y) := hr
  have hlen := hr.1
  have HF : Hid (Rng f) := hf
  have HL : Hid (L2 w v f f) := ⟨hb, by have := World.rowIs.lt (row_st p1); omega, p0, p1⟩
  have hone := st_one f
  have hsz : (st f).size = 8 := rfl
  clear ht hr hf hb p0 p1
  generalize hsa : st f = ca at *
  go_enter Tryd.func4, Tryd.ntmps4
  go_wp2_with (first
    | (refine wpList_load8 33 _ Tryd.underlying33 sizeState rfl _ rfl w.heap.size _ rfl hsz q0 ?_)
    | (refine wpList_store8 33 sizeState rfl _ _ rfl (w.heap.size + 1) _ _ rfl rfl hsz rfl hone q1 ?_; rw [hv]))
  go_loopw [6] (fun i wr => ∃ (j : Nat) (g : Nat → Int), j ≤ len ∧ i = .int .i64 j ∧ Rng g ∧ L2 w wr g g) (fun i _ => len - (intOf i).toNat)
  case atStart => exact ⟨0, f, by omega, rfl, HF.out, HL.out⟩
  case round =>
    clear hv0 q0 q1 hs0 hv HF HL hone hsz hsa
    obtain ⟨j, g, hj, rfl, hg, hm⟩ := hrel
    by_cases hlt : j < len
    · obtain ⟨ad, rfl, hx, hcell⟩ := HR.out.2.1 (by omega)
      obtain ⟨hc0, hc1, hc2⟩ := hcell j hlt
      obtain ⟨m0, m1, m2⟩ := HR.out.2.2 j hlt
      obtain ⟨g2, hg2, hP, hQ⟩ := mon_both g hg (M j) (A j) (Y j) m0.1 m0.2 m1.1 m1.2 m2.1 m2.2
      have e0 := (hm.1.cell (p := ad.add (j * 3)) (by unfold Addr.add; split <;> exact hx)).trans hc0
      have e1 := (hm.1.cell (p := ad.add (j * 3 + 1)) (by unfold Addr.add; split <;> exact hx)).trans hc1
      have e2 := (hm.1.cell (p := ad.add (j * 3 + 2)) (by unfold Addr.add; split <;> exact hx)).trans hc2
      obtain ⟨x0, x1, x2, x3, x4, x5, x6, x7, hxA⟩ := st_open g
      obtain ⟨z0, z1, z2, z3, z4, z5, z6, z7, hxB⟩ := st_open g2
      have HP : Hid (∀ w, Cl.TabAt w → Calls Tryd.prog 8 #[.int .i64 (M j), .agg #[.int .u64 x0, .int .u64 x1, .int .u64 x2, .int .u64 x3, .int .u64 x4, .int .u64 x5, .int .u64 x6, .int .u64 x7], .int .i64 (A j), .int .u64 (Y j)] w fun e w' => e = .returned (.agg #[.int .u64 z0, .int .u64 z1, .int .u64 z2, .int .u64 z3, .int .u64 z4, .int .u64 z5, .int .u64 z6, .int .u64 z7]) ∧ Below w.heap.size w w') := by
        intro w h; have := hP w h; rwa [hxA, hxB] at this
      have HQ : Hid (∀ w, Calls Tryd.prog 9 #[.int .i64 (M j), .agg #[.int .u64 x0, .int .u64 x1, .int .u64 x2, .int .u64 x3, .int .u64 x4, .int .u64 x5, .int .u64 x6, .int .u64 x7], .int .i64 (A j), .int .u64 (Y j)] w fun e w' => e = .returned (.agg #[.int .u64 z0, .int .u64 z1, .int .u64 z2, .int .u64 z3, .int .u64 z4, .int .u64 z5, .int .u64 z6, .int .u64 z7]) ∧ Below w.heap.size w w') := by
        intro w; have := hQ w; rwa [hxA, hxB] at this
      have HM : Hid (L2 w wr.drew g g) := l2_on hm ((Below.refl _ _).drew)
      have HTB : Hid (Cl.TabAt wr.drew) := tab_kept HT.out HM.out.1
      have HZ : Hid (st g2 = #[.int .u64 z0, .int .u64 z1, .int .u64 z2, .int .u64 z3, .int .u64 z4, .int .u64 z5, .int .u64 z6, .int .u64 z7] ∧ Rng g2) := ⟨hxB, hg2⟩
      have HXA : Hid (st g = #[.int .u64 x0, .int .u64 x1, .int .u64 x2, .int .u64 x3, .int .u64 x4, .int .u64 x5, .int .u64 x6, .int .u64 x7]) := hxA
      have HCE : Hid (∀ v, Below w.heap.size w v → v.cell? (ad.add (j * 3)) = some (.int .i64 (M j)) ∧ v.cell? ⟨(ad.add (j * 3)).block, (ad.add (j * 3)).off + 1, none⟩ = some (.int .i64 (A j)) ∧ v.cell? ⟨(ad.add (j * 3)).block, (ad.add (j * 3)).off + 2, none⟩ = some (.int .u64 (Y j))) := fun v hb => cells3 (ad := ad) (j := j) ⟨(hb.cell (p := ad.add (j * 3)) (by unfold Addr.add; split <;> exact hx)).trans hc0, (hb.cell (p := ad.add (j * 3 + 1)) (by unfold Addr.add; split <;> exact hx)).trans hc1, (hb.cell (p := ad.add (j * 3 + 2)) (by unfold Addr.add; split <;> exact hx)).trans hc2⟩
      have q0 := hm.2.2.1
      rw [hxA] at q0
      obtain ⟨⟨c0, c1, c2, c3, c4, c5, c6, c7⟩, _⟩ := k8_of q0
      clear hcell hc0 hc1 hc2 hm hg hg2 hP hQ hxA hxB q0 m0 m1 m2
      rw [← Addr.add_add] at e1 e2
      replace e1 : wr.cell? ⟨(ad.add (j * 3)).block, (ad.add (j * 3)).off + 1, none⟩ = some (.int .i64 (A j)) := e1
      replace e2 : wr.cell? ⟨(ad.add (j * 3)).block, (ad.add (j * 3)).off + 2, none⟩ = some (.int .u64 (Y j)) := e2
      have HS0 : Hid (SM wr.drew ad j (M j) (A j) (Y j)) := ⟨e0, e1, e2⟩
      have hne : w.heap.size ≠ (ad.add (j * 3)).block := by
        have : (ad.add (j * 3)).block = ad.block := by unfold Addr.add; split <;> rfl
        omega
      have hne2 : w.heap.size + 1 ≠ (ad.add (j * 3)).block := by
        have : (ad.add (j * 3)).block = ad.block := by unfold Addr.add; split <;> rfl
        omega
      generalize M j = mj at *
      generalize A j = aj at *
      generalize Y j = yj at *
      go_wp2
      apply wp_cut (fun w' => L2 w w' g2 g)
      case h =>
        go_region_with (go_at_call 8; refine (HP.out _ HTB.out).mono ?_; rintro e9 w9 ⟨rfl, hw9⟩; have hm9 := l2_on HM.out hw9; have hq9 := hm9.2.2.1; rw [HXA.out] at hq9; obtain ⟨⟨d0, d1, d2, d3, d4, d5, d6, d7⟩, fz⟩ := k8_of hq9; have z0f := fz 0; have z1f := fz 1; have z2f := fz 2; have z3f := fz 3; have z4f := fz 4; have z5f := fz 5; have z6f := fz 6; have z7f := fz 7)
        all_goals exact ⟨rfl, l2_s hm9 HZ.out.1⟩
      case hq =>
        intro w1 hm1
        clear HM HTB e0 e1 e2 c0 c1 c2 c3 c4 c5 c6 c7 HS0
        obtain ⟨e0, e1, e2⟩ := HCE.out w1 hm1.1
        have q0 := hm1.2.2.2
        rw [HXA.out] at q0
        obtain ⟨⟨c0, c1, c2, c3, c4, c5, c6, c7⟩, _⟩ := k8_of q0
        have HM1 : Hid (L2 w w1.drew g2 g) := l2_on hm1 ((Below.refl _ _).drew)
        clear q0 hm1
        go_wp2
        apply wp_cut (fun w' => L2 w w' g2 g2)
        case h =>
          go_region_with (go_at_call 9; refine (HQ.out _).mono ?_; rintro e9 w9 ⟨rfl, hw9⟩; have hm9 := l2_on HM1.out hw9; have hq9 := hm9.2.2.2; rw [HXA.out] at hq9; obtain ⟨⟨d0, d1, d2, d3, d4, d5, d6, d7⟩, fz⟩ := k8_of hq9; have z0f := fz 0; have z1f := fz 1; have z2f := fz 2; have z3f := fz 3; have z4f := fz 4; have z5f := fz 5; have z6f := fz 6; have z7f := fz 7)
          all_goals exact ⟨rfl, l2_t hm9 HZ.out.1⟩
        case hq =>
          intro w2 hm2
          clear HM1 e0 e1 e2 c0 c1 c2 c3 c4 c5 c6 c7
          have E1 := eq_st 33 Tryd.underlying33 g2
          have q0 := hm2.2.2.1
          have q1 := hm2.2.2.2
          have HM2 : Hid (L2 w w2 g2 g2) := hm2
          clear hm2
          have hsz : (st g2).size = 8 := rfl
          generalize hsb : st g2 = cb at *
          go_wp2_with (first
            | (refine wpList_load8 33 _ Tryd.underlying33 sizeState rfl _ rfl w.heap.size _ rfl hsz q0 ?_)
            | (refine wpList_load8 33 _ Tryd.underlying33 sizeState rfl _ rfl (w.heap.size + 1) _ rfl hsz q1 ?_))
          exact ⟨⟨j + 1, g2, by omega, by go_num, HZ.out.2, HM2.out⟩, by simp [intOf]; omega⟩
    · obtain rfl : j = len := by omega
      have hbel := hm.1
      clear hm HR
      go_wp2
      go_ret
      exact ⟨rfl, hbel⟩
end Ty
end Go.Proofs.YtbnmjmlcedkoaaaDoor
