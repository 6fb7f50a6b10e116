import Derived.Test.YtcepfmeoeepjdaaDsD
namespace Go.Proofs.Ytcepfmeoeepjdaa
namespace Au
open Go.RowKit
set_option linter.unusedVariables false
set_option maxRecDepth 8000
abbrev S102 (db qb eb sg x y sn sc : Nat) (u v : Nat → Int) (w : World) : Prop := w.cell? ⟨db, 0, none⟩ = some (.pointer (some ⟨qb, 0, none⟩)) ∧ w.cell? ⟨qb, 3, none⟩ = some (.slice (some ⟨sg, 0, none⟩) sn sc) ∧ w.cell? ⟨eb, 0, none⟩ = some (.int .u32 (x : Int)) ∧ w.cell? ⟨eb, 1, none⟩ = some (.int .u32 (y : Int)) ∧ K8o sg (x * 8) u w ∧ K8o sg (y * 8) v w
set_option maxHeartbeats 8000000 in
theorem see102 (n m rb qb db s sg sn sc x y z : Nat) (kd : Int) (ed : Value) (o : Vd) (S : Nat → Nat → Int) (M : Nat → Int) (hx : x < n) (hy : y < n) (hs : n ≤ sn) (hsr : ∀ v, v < n → ∀ i, i < 8 → 0 ≤ S v i ∧ S v i < 18446744073709551616) (hm : n ≤ m) (hn : n ≤ 5000) (w : World)
    (hP : GU w rb m M) (hI : Iq w qb n kd ed (.slice (some ⟨sg, 0, none⟩) sn sc) o) (hd : D3 w db qb s rb n) (hS : SR w sg sn S) (h1 : db ≠ rb) (h2 : db ≠ qb) (h3 : sg ≠ rb) (h4 : sg ≠ qb) (h5 : rb ≠ qb) :
    Calls Try.prog 102 #[eV x y z, .pointer (some ⟨db, 0, none⟩)] w fun r w' => (∃ v, r = .returned v) ∧ GU w' rb m (if s4E kd S y (x, y, z) = true then up M y 1 else M) ∧ Iq w' qb n kd ed (.slice (some ⟨sg, 0, none⟩) sn sc) (if s3E kd S y (x, y, z) = true then nt o y 3 else o) ∧ Ch (fun k => k = rb ∨ k = qb) w w' := by
  obtain ⟨w0, hw0⟩ : ∃ w0, w.alloc (.cells #[.int .u32 x, .int .u32 y, .int .u32 z] 73) = w0 := ⟨_, rfl⟩
  have hB : Below w.heap.size w w0 := by rw [← hw0]; exact b1 _ _ _
  have he : E3 w0 w.heap.size x y z := by rw [← hw0]; exact at0 _ _
  have hsz : w0.heap.size = w.heap.size + 1 := by rw [← hw0]; simp
  have hP0 : GU w0 rb m M := hP.on hB
  have hI0 : Iq w0 qb n kd ed (.slice (some ⟨sg, 0, none⟩) sn sc) o := (hB.block _ hI.lt).trans hI
  have hd0 : D3 w0 db qb s rb n := hd.of (hB.block _ hd.lt)
  have hS0 : SR w0 sg sn S := hS.of (hB.block _ hS.lt)
  have l1 := hP.lt
  have l2 := hI.lt
  have l3 := hd.lt
  have l4 := hS.lt
  obtain ⟨eb, heb⟩ : ∃ eb, eb = w.heap.size := ⟨_, rfl⟩
  rw [← heb] at he
  obtain ⟨u, hu⟩ : ∃ u, S x = u := ⟨_, rfl⟩
  obtain ⟨v, hv⟩ : ∃ v, S y = v := ⟨_, rfl⟩
  have ku := hS0.k8 x (by omega)
  have kv := hS0.k8 y (by omega)
  rw [hu] at ku
  rw [hv] at kv
  have hS8 : S102 db qb eb sg x y sn sc u v w0.drew := ⟨hd0.c.1, hI0.c.2.2.2.1, he.c.1, he.c.2.1, ku, kv⟩
  have HS := hide hS8
  -- whatever is made on the way, what lies there stays
  have HK : Hid (∀ W : World, Fz w0 W → S102 db qb eb sg x y sn sc u v W) := fun W hf => by
    have f := hf.2
    have a := hd0.of (f _ hd0.lt)
    have b : Iq W qb n kd ed (.slice (some ⟨sg, 0, none⟩) sn sc) o := (f _ hI0.lt).trans hI0
    have c : E3 W eb x y z := (f _ he.lt).trans he
    have d := hS0.of (f _ hS0.lt)
    have d1 := d.k8 x (by omega)
    have d2 := d.k8 y (by omega)
    rw [hu] at d1
    rw [hv] at d2
    exact ⟨a.c.1, b.c.2.2.2.1, c.c.1, c.c.2.1, d1, d2⟩
  have HC0 : Hid (Ch (fun k => k = rb ∨ k = qb) w w0) := Ch.of hB
  have HX0 : Hid (∀ W p q, Fz w0 W → B8 W p u → B8 W q v → Ch (fun k => k = rb ∨ k = qb) w W → w0.heap.size ≤ p → w0.heap.size ≤ q → Tw w W p q db qb s rb n m eb x y z u v kd ed (.slice (some ⟨sg, 0, none⟩) sn sc) o M) := fun W p q hf hp hq hc _ _ =>
    ⟨hp, hq, hd0.of (hf.2 _ hd0.lt), (hf.2 _ he.lt).trans he, (hf.2 _ hI0.lt).trans hI0, hP0.of (hf.2 _ hP0.lt), hc⟩
  have hru := hsr x hx 0 (by decide)
  have hrv := hsr y hy 0 (by decide)
  rw [hu] at hru
  rw [hv] at hrv
  obtain ⟨c, hc⟩ : ∃ c, cm (IntKind.i64.wrap (u 0)) (wk kd z) (IntKind.i64.wrap (v 0)) = c := ⟨_, rfl⟩
  have H3 : Hid (s3E kd S y (x, y, z) = (!(u 0 == 9223372036854775807) && decide (c < 0))) := by
    show _ = _
    unfold s3E D0
    simp only [hu, hv, hc, beq_self_eq_true, Bool.true_and]
  have H4 : Hid (s4E kd S y (x, y, z) = (!(u 0 == 9223372036854775807) && (c == 0 && decide (u 2 < v 2)))) := by
    show _ = _
    unfold s4E D0
    simp only [hu, hv, hc, beq_self_eq_true, Bool.true_and]
  have HWt := hide (weight_any qb s rb n kd x y z)
  have HAg := hide (against_any (IntKind.i64.wrap (u 0)) (wk kd z) (IntKind.i64.wrap (v 0)) (by rw [IntKind.wrap_i64]; omega) (wk_b _ _) (by rw [IntKind.wrap_i64]; omega))
  rw [hc] at HAg
  obtain ⟨t, ht⟩ : ∃ t, wk kd z = t := ⟨_, rfl⟩
  rw [ht] at HWt HAg
  clear hru hrv hc ht
  obtain ⟨MX, hMX⟩ : ∃ MX, (if s4E kd S y (x, y, z) = true then up M y 1 else M) = MX := ⟨_, rfl⟩
  obtain ⟨oX, hoX⟩ : ∃ oX, (if s3E kd S y (x, y, z) = true then nt o y 3 else o) = oX := ⟨_, rfl⟩
  rw [hMX, hoX]
  have HMX := hide hMX
  have HOX := hide hoX
  clear hMX hoX
  have hxs : x < sn := by omega
  have hys : y < sn := by omega
  have HW0 := hide hw0
  have Heb := hide heb
  clear ku kv hS8 hP hI hd hS hB he hP0 hI0 hd0 hS0 hw0 heb hsz hu hv l1 l2 l3 l4
  go_enter Try.func102, Try.ntmps102
  go_wp2_with (fail)
  rw [HW0.out, ← Heb.out]
  go_region_held3 (S102 db qb eb sg x y sn sc u v) ((first | with_reducible exact HS.out | (with_reducible refine HK.out _ ?_; first | exact ((Fz.refl _).alloc _).drew | exact (((Fz.refl _).alloc _).alloc _).drew | exact ((((Fz.refl _).alloc _).alloc _).set8 _ (by simp) _ _ _ _ _ _ _ _).drew | exact (((((Fz.refl _).alloc _).alloc _).set8 _ (by simp) _ _ _ _ _ _ _ _).set8 _ (by simp) _ _ _ _ _ _ _ _).drew) | fail "no arm")) ((fail))
  -- LEAVES
  · obtain ⟨w1, hw1⟩ : ∃ w1, ((w0.alloc (.cells (sv u) 63)).alloc (.cells (sv v) 63)).drew = w1 := ⟨_, rfl⟩
    have hfz : Fz w0 w1 := by rw [← hw1]; exact (((Fz.refl _).alloc _).alloc _).drew
    have hbp : B8 w1 (w0.heap.size) u := by rw [← hw1]; exact keep _ (at0 _ _)
    have hbq : B8 w1 (w0.heap.size + 1) v := by rw [← hw1]; exact at1 _ _ _
    have hcw : Ch (fun k => k = rb ∨ k = qb) w w1 := by rw [← hw1]; exact ((HC0.out.alloc _).alloc _).drew
    have hws : w0.heap.size ≤ w1.heap.size := hfz.1
    obtain ⟨p, hp⟩ : ∃ p, p = w0.heap.size := ⟨_, rfl⟩
    obtain ⟨q, hq⟩ : ∃ q, q = w0.heap.size + 1 := ⟨_, rfl⟩
    rw [hw1, ← hq, ← hp]
    rw [← hp] at hbp
    rw [← hq] at hbq
    have HX := hide (HX0.out w1 p q hfz hbp hbq hcw (by omega) (by omega))
    have hu0 := hbp.c 0 (by decide)
    clear hw1 hfz hbp hbq hcw hws hp hq HX0 HC0
    by_cases c0 : u 0 = 9223372036854775807
    · have hb : (u 0 == 9223372036854775807) = true := by simpa using c0
      have HE : Hid (GU w1 rb m MX ∧ Iq w1 qb n kd ed (.slice (some ⟨sg, 0, none⟩) sn sc) oX ∧ Ch (fun k => k = rb ∨ k = qb) w w1) := ⟨by rw [← HMX.out, H4.out, hb]; simpa using HX.out.gu, by rw [← HOX.out, H3.out, hb]; simpa using HX.out.iq, HX.out.ch⟩
      clear HX HMX HOX H3 H4 c0 HWt HAg
      go_wp2
      all_goals (refine bodyPost_ret (results_none rfl _ _ _) rfl ?_)
      all_goals exact ⟨⟨_, rfl⟩, HE.out⟩
    · have hb : (u 0 == 9223372036854775807) = false := by simpa using c0
      have H3b : Hid (s3E kd S y (x, y, z) = decide (c < 0)) := by show _ = _; rw [H3.out, hb]; rfl
      have H4b : Hid (s4E kd S y (x, y, z) = (c == 0 && decide (u 2 < v 2))) := by show _ = _; rw [H4.out, hb]; rfl
      have hS3 : S3 p q db qb s rb n eb x y z (u 0) (v 0) w1.drew := HX.out.s3 _ (Below.refl _ _)
      have HS3 := hide hS3
      have HS5 : Hid (∀ W', Below w1.drew.heap.size w1.drew W' → S3 p q db qb s rb n eb x y z (u 0) (v 0) W') := fun W' h => HX.out.s3 W' h
      have HWt1 := hide (HWt.out w1.drew HX.out.iq.c.2.1 HX.out.iq.lt)
      clear H3 H4 c0 HWt hS3
      go_wp2_with (fail)
      clear hu0
      go_region_held3 (S3 p q db qb s rb n eb x y z (u 0) (v 0)) ((first | with_reducible exact HS3.out | with_reducible exact HS5.out _ HB5.out | fail "no arm")) ((first | (go_at_call 104; refine HWt1.out.mono ?_; rintro e5 w5 ⟨rfl, hB5⟩; have HB5 := hide hB5; clear hB5) | (go_at_call 103; refine (HAg.out _).mono ?_; rintro e6 w6 ⟨rfl, h6⟩; subst w6) | fail "no arm"))
      have HY := hide (HX.out.on HB5.out)
      obtain ⟨d0, d1, d2⟩ := HY.out.d3.c
      obtain ⟨k0, k1, k2⟩ := HY.out.e3.c
      have p2 := HY.out.bp.c 2 (by decide)
      have q2 := HY.out.bq.c 2 (by decide)
      clear HX HS3 HS5 HWt1 HAg HB5
      by_cases c1 : c < 0
      · have H3c : Hid (s3E kd S y (x, y, z) = true) := by show _ = _; rw [H3b.out]; simpa using c1
        have H4c : Hid (s4E kd S y (x, y, z) = false) := by show _ = _; rw [H4b.out]; have : (c == 0) = false := by simp; omega
                                                            rw [this]; rfl
        have HN := hide (note_any qb y 3 n kd ed (.slice (some ⟨sg, 0, none⟩) sn sc) o w5 HY.out.iq)
        have HMX2 : Hid (M = MX) := by show _ = _; rw [← HMX.out, H4c.out]; rfl
        have HOX2 : Hid (nt o y 3 = oX) := by show _ = _; rw [← HOX.out, H3c.out]; rfl
        clear H3b H4b H3c H4c HMX HOX p2 q2
        go_wp2_with (fail)
        refine HN.out.mono ?_
        rintro e7 w7 ⟨⟨v7, rfl⟩, hI7, hC7⟩
        have HE : Hid (GU w7 rb m MX ∧ Iq w7 qb n kd ed (.slice (some ⟨sg, 0, none⟩) sn sc) oX ∧ Ch (fun k => k = rb ∨ k = qb) w w7) := ⟨by rw [← HMX2.out]; exact HY.out.gu.of (hC7.block _ HY.out.gu.lt h5), by rw [← HOX2.out]; exact hI7, HY.out.ch.trans (hC7.mono (fun k _ h => Or.inr h))⟩
        clear hI7 hC7 HN HY HMX2 HOX2 d0 d1 d2 k0 k1 k2
        go_wp2
        go_end0
        exact ⟨⟨_, rfl⟩, HE.out⟩
      · have H3c : Hid (s3E kd S y (x, y, z) = false) := by show _ = _; rw [H3b.out]; simpa using c1
        have HOX2 : Hid (o = oX) := by show _ = _; rw [← HOX.out, H3c.out]; rfl
        clear H3b H3c HOX
        by_cases c2 : c = 0
        · have hcb : (c == 0) = true := by simpa using c2
          by_cases c3 : u 2 < v 2
          · have H4c : Hid (s4E kd S y (x, y, z) = true) := by show _ = _; rw [H4b.out, hcb]; simpa using c3
            have HMX2 : Hid (up M y 1 = MX) := by show _ = _; rw [← HMX.out, H4c.out]; rfl
            have hf := HY.out.gu.fz y
            have hc := HY.out.gu.cell y (by omega)
            have HE : Hid (GU (w5.setCell ⟨rb, y, none⟩ (.int .u64 1)) rb m MX ∧ Iq (w5.setCell ⟨rb, y, none⟩ (.int .u64 1)) qb n kd ed (.slice (some ⟨sg, 0, none⟩) sn sc) oX ∧ Ch (fun k => k = rb ∨ k = qb) w (w5.setCell ⟨rb, y, none⟩ (.int .u64 1))) := ⟨by rw [← HMX2.out]; exact (HY.out.gu.set y 1).1, by rw [← HOX2.out]; exact (Below.heap_setCell _ _ _ _ (fun e => h5 e.symm)).trans HY.out.iq, HY.out.ch.set _ _ (Or.inl (Or.inl rfl))⟩
            clear H4b H4c HMX HMX2 HOX2 HY c2
            go_wp2
            go_end0
            exact ⟨⟨_, rfl⟩, HE.out⟩
          · have H4c : Hid (s4E kd S y (x, y, z) = false) := by show _ = _; rw [H4b.out, hcb]; simpa using c3
            have HMX2 : Hid (M = MX) := by show _ = _; rw [← HMX.out, H4c.out]; rfl
            have HE : Hid (GU w5 rb m MX ∧ Iq w5 qb n kd ed (.slice (some ⟨sg, 0, none⟩) sn sc) oX ∧ Ch (fun k => k = rb ∨ k = qb) w w5) := ⟨by rw [← HMX2.out]; exact HY.out.gu, by rw [← HOX2.out]; exact HY.out.iq, HY.out.ch⟩
            clear H4b H4c HMX HMX2 HOX2 HY c2
            go_wp2
            go_end0
            exact ⟨⟨_, rfl⟩, HE.out⟩
        · have hcb : (c == 0) = false := by simpa using c2
          have H4c : Hid (s4E kd S y (x, y, z) = false) := by show _ = _; rw [H4b.out, hcb]; rfl
          have HMX2 : Hid (M = MX) := by show _ = _; rw [← HMX.out, H4c.out]; rfl
          have HE : Hid (GU w5 rb m MX ∧ Iq w5 qb n kd ed (.slice (some ⟨sg, 0, none⟩) sn sc) oX ∧ Ch (fun k => k = rb ∨ k = qb) w w5) := ⟨by rw [← HMX2.out]; exact HY.out.gu, by rw [← HOX2.out]; exact HY.out.iq, HY.out.ch⟩
          clear H4b H4c HMX HMX2 HOX2 HY c2
          go_wp2
          go_end0
          exact ⟨⟨_, rfl⟩, HE.out⟩
  · obtain ⟨w1, hw1⟩ : ∃ w1, ((w0.alloc (.cells (sv v) 63)).alloc (.cells (sv u) 63)).drew = w1 := ⟨_, rfl⟩
    have hfz : Fz w0 w1 := by rw [← hw1]; exact (((Fz.refl _).alloc _).alloc _).drew
    have hbp : B8 w1 (w0.heap.size + 1) u := by rw [← hw1]; exact at1 _ _ _
    have hbq : B8 w1 (w0.heap.size) v := by rw [← hw1]; exact keep _ (at0 _ _)
    have hcw : Ch (fun k => k = rb ∨ k = qb) w w1 := by rw [← hw1]; exact ((HC0.out.alloc _).alloc _).drew
    have hws : w0.heap.size ≤ w1.heap.size := hfz.1
    obtain ⟨p, hp⟩ : ∃ p, p = w0.heap.size + 1 := ⟨_, rfl⟩
    obtain ⟨q, hq⟩ : ∃ q, q = w0.heap.size := ⟨_, rfl⟩
    rw [hw1, ← hp, ← hq]
    rw [← hp] at hbp
    rw [← hq] at hbq
    have HX := hide (HX0.out w1 p q hfz hbp hbq hcw (by omega) (by omega))
    have hu0 := hbp.c 0 (by decide)
    clear hw1 hfz hbp hbq hcw hws hp hq HX0 HC0
    by_cases c0 : u 0 = 9223372036854775807
    · have hb : (u 0 == 9223372036854775807) = true := by simpa using c0
      have HE : Hid (GU w1 rb m MX ∧ Iq w1 qb n kd ed (.slice (some ⟨sg, 0, none⟩) sn sc) oX ∧ Ch (fun k => k = rb ∨ k = qb) w w1) := ⟨by rw [← HMX.out, H4.out, hb]; simpa using HX.out.gu, by rw [← HOX.out, H3.out, hb]; simpa using HX.out.iq, HX.out.ch⟩
      clear HX HMX HOX H3 H4 c0 HWt HAg
      go_wp2
      all_goals (refine bodyPost_ret (results_none rfl _ _ _) rfl ?_)
      all_goals exact ⟨⟨_, rfl⟩, HE.out⟩
    · have hb : (u 0 == 9223372036854775807) = false := by simpa using c0
      have H3b : Hid (s3E kd S y (x, y, z) = decide (c < 0)) := by show _ = _; rw [H3.out, hb]; rfl
      have H4b : Hid (s4E kd S y (x, y, z) = (c == 0 && decide (u 2 < v 2))) := by show _ = _; rw [H4.out, hb]; rfl
      have hS3 : S3 p q db qb s rb n eb x y z (u 0) (v 0) w1.drew := HX.out.s3 _ (Below.refl _ _)
      have HS3 := hide hS3
      have HS5 : Hid (∀ W', Below w1.drew.heap.size w1.drew W' → S3 p q db qb s rb n eb x y z (u 0) (v 0) W') := fun W' h => HX.out.s3 W' h
      have HWt1 := hide (HWt.out w1.drew HX.out.iq.c.2.1 HX.out.iq.lt)
      clear H3 H4 c0 HWt hS3
      go_wp2_with (fail)
      clear hu0
      go_region_held3 (S3 p q db qb s rb n eb x y z (u 0) (v 0)) ((first | with_reducible exact HS3.out | with_reducible exact HS5.out _ HB5.out | fail "no arm")) ((first | (go_at_call 104; refine HWt1.out.mono ?_; rintro e5 w5 ⟨rfl, hB5⟩; have HB5 := hide hB5; clear hB5) | (go_at_call 103; refine (HAg.out _).mono ?_; rintro e6 w6 ⟨rfl, h6⟩; subst w6) | fail "no arm"))
      have HY := hide (HX.out.on HB5.out)
      obtain ⟨d0, d1, d2⟩ := HY.out.d3.c
      obtain ⟨k0, k1, k2⟩ := HY.out.e3.c
      have p2 := HY.out.bp.c 2 (by decide)
      have q2 := HY.out.bq.c 2 (by decide)
      clear HX HS3 HS5 HWt1 HAg HB5
      by_cases c1 : c < 0
      · have H3c : Hid (s3E kd S y (x, y, z) = true) := by show _ = _; rw [H3b.out]; simpa using c1
        have H4c : Hid (s4E kd S y (x, y, z) = false) := by show _ = _; rw [H4b.out]; have : (c == 0) = false := by simp; omega
                                                            rw [this]; rfl
        have HN := hide (note_any qb y 3 n kd ed (.slice (some ⟨sg, 0, none⟩) sn sc) o w5 HY.out.iq)
        have HMX2 : Hid (M = MX) := by show _ = _; rw [← HMX.out, H4c.out]; rfl
        have HOX2 : Hid (nt o y 3 = oX) := by show _ = _; rw [← HOX.out, H3c.out]; rfl
        clear H3b H4b H3c H4c HMX HOX p2 q2
        go_wp2_with (fail)
        refine HN.out.mono ?_
        rintro e7 w7 ⟨⟨v7, rfl⟩, hI7, hC7⟩
        have HE : Hid (GU w7 rb m MX ∧ Iq w7 qb n kd ed (.slice (some ⟨sg, 0, none⟩) sn sc) oX ∧ Ch (fun k => k = rb ∨ k = qb) w w7) := ⟨by rw [← HMX2.out]; exact HY.out.gu.of (hC7.block _ HY.out.gu.lt h5), by rw [← HOX2.out]; exact hI7, HY.out.ch.trans (hC7.mono (fun k _ h => Or.inr h))⟩
        clear hI7 hC7 HN HY HMX2 HOX2 d0 d1 d2 k0 k1 k2
        go_wp2
        go_end0
        exact ⟨⟨_, rfl⟩, HE.out⟩
      · have H3c : Hid (s3E kd S y (x, y, z) = false) := by show _ = _; rw [H3b.out]; simpa using c1
        have HOX2 : Hid (o = oX) := by show _ = _; rw [← HOX.out, H3c.out]; rfl
        clear H3b H3c HOX
        by_cases c2 : c = 0
        · have hcb : (c == 0) = true := by simpa using c2
          by_cases c3 : u 2 < v 2
          · have H4c : Hid (s4E kd S y (x, y, z) = true) := by show _ = _; rw [H4b.out, hcb]; simpa using c3
            have HMX2 : Hid (up M y 1 = MX) := by show _ = _; rw [← HMX.out, H4c.out]; rfl
            have hf := HY.out.gu.fz y
            have hc := HY.out.gu.cell y (by omega)
            have HE : Hid (GU (w5.setCell ⟨rb, y, none⟩ (.int .u64 1)) rb m MX ∧ Iq (w5.setCell ⟨rb, y, none⟩ (.int .u64 1)) qb n kd ed (.slice (some ⟨sg, 0, none⟩) sn sc) oX ∧ Ch (fun k => k = rb ∨ k = qb) w (w5.setCell ⟨rb, y, none⟩ (.int .u64 1))) := ⟨by rw [← HMX2.out]; exact (HY.out.gu.set y 1).1, by rw [← HOX2.out]; exact (Below.heap_setCell _ _ _ _ (fun e => h5 e.symm)).trans HY.out.iq, HY.out.ch.set _ _ (Or.inl (Or.inl rfl))⟩
            clear H4b H4c HMX HMX2 HOX2 HY c2
            go_wp2
            go_end0
            exact ⟨⟨_, rfl⟩, HE.out⟩
          · have H4c : Hid (s4E kd S y (x, y, z) = false) := by show _ = _; rw [H4b.out, hcb]; simpa using c3
            have HMX2 : Hid (M = MX) := by show _ = _; rw [← HMX.out, H4c.out]; rfl
            have HE : Hid (GU w5 rb m MX ∧ Iq w5 qb n kd ed (.slice (some ⟨sg, 0, none⟩) sn sc) oX ∧ Ch (fun k => k = rb ∨ k = qb) w w5) := ⟨by rw [← HMX2.out]; exact HY.out.gu, by rw [← HOX2.out]; exact HY.out.iq, HY.out.ch⟩
            clear H4b H4c HMX HMX2 HOX2 HY c2
            go_wp2
            go_end0
            exact ⟨⟨_, rfl⟩, HE.out⟩
        · have hcb : (c == 0) = false := by simpa using c2
          have H4c : Hid (s4E kd S y (x, y, z) = false) := by show _ = _; rw [H4b.out, hcb]; rfl
          have HMX2 : Hid (M = MX) := by show _ = _; rw [← HMX.out, H4c.out]; rfl
          have HE : Hid (GU w5 rb m MX ∧ Iq w5 qb n kd ed (.slice (some ⟨sg, 0, none⟩) sn sc) oX ∧ Ch (fun k => k = rb ∨ k = qb) w w5) := ⟨by rw [← HMX2.out]; exact HY.out.gu, by rw [← HOX2.out]; exact HY.out.iq, HY.out.ch⟩
          clear H4b H4c HMX HMX2 HOX2 HY c2
          go_wp2
          go_end0
          exact ⟨⟨_, rfl⟩, HE.out⟩
end Au
end Go.Proofs.Ytcepfmeoeepjdaa
