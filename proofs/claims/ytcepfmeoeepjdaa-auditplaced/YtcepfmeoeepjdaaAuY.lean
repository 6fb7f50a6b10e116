import Derived.Test.YtcepfmeoeepjdaaAuX
namespace Go.Proofs.Ytcepfmeoeepjdaa
namespace Au
open Go.RowKit
set_option linter.unusedVariables false
set_option maxRecDepth 8000
theorem enters117 (A : Array Value) (W : World) : (callFunc 117 A).run Try.prog W = .ok (.enter 117 A) W := enters_of Try.func117 (by kernel_rfl) rfl A W
set_option maxHeartbeats 4000000 in
theorem count_any (n m rb qb Bt Bf g : Nat) (D C : Nat → Int) (L : List T3) (f : Int) (sl : Value) (o : Vd) (hm : 2 * n ≤ m) (hn0 : 0 < n) (hn : n ≤ 5000) (hlen : L.length ≤ 140737488351232) (w : World)
    (h : Pr w rb n m D C) (hQ : Iq w qb n 0 (fe Bt Bf) sl o) (hF : Fd w g Bt Bf L f) (r1 : rb ≠ g) (r2 : rb ≠ Bt) (r3 : rb ≠ Bf) (r6 : rb ≠ qb) :
    Calls Try.prog 94 #[.agg (pv qb rb n)] w fun e w' => ∃ E, e = .returned (.int .i64 E) ∧ E = fa n 0 L f ∧ Ch (fun k => k = rb) w w' ∧ (E = 0 → Pr w' rb n m (dI L C) C) ∧ ∃ D', Pr w' rb n m D' C := by
  obtain ⟨pb, hpb⟩ : ∃ pb, pb = w.heap.size := ⟨_, rfl⟩
  obtain ⟨w0, hw0⟩ : ∃ w0, w.alloc (.cells (pv qb rb n) 91) = w0 := ⟨_, rfl⟩
  have hB : Below w.heap.size w w0 := by rw [← hw0]; exact b1 _ _ _
  have hP0 : Pr w0 rb n m D C := h.of (hB.block _ h.lt)
  have hb0 : Pb w0 w.heap.size qb rb n := by rw [← hw0]; exact at0 _ _
  have hlt := h.lt
  have hFl := hF.lt
  have hQl := hQ.lt
  have hcl := clear_run n m rb D C hm hn0 w0 hP0
  obtain ⟨w1, hw1⟩ : ∃ w1, w0.setCells rb 0 (List.replicate n (.int .u64 0)) = w1 := ⟨_, rfl⟩
  have hP1 : Pr w1 rb n m (dI [] C) C := by
    rw [← hw1]
    exact (hP0.zeros n 0 (by omega)).ext (fun v hv => by rw [if_pos (by omega)]; rfl) (fun _ _ => rfl)
  have hC01 : Ch (fun k => k = rb) w0 w1 := by rw [← hw1]; exact Ch.zeros (X := fun k => k = rb) rfl n 0 (Ch.refl _ _)
  have hC1 : Ch (fun k => k = rb) w w1 := (Ch.of hB).trans hC01
  have hb1 : Pb w1 w.heap.size qb rb n := (hC01.block _ hb0.lt (by omega)).trans hb0
  have hQ1 : Iq w1 qb n 0 (fe Bt Bf) sl o := hQ.on hC1 (by omega)
  have hF1 : Fd w1 g Bt Bf L f := hF.on hC1 (by omega) (by omega) (by omega)
  obtain ⟨p0, p1, p2⟩ := hb0.k
  have p0' := hb1.k.1
  rw [← hpb] at hb1
  have hbl := hb1.lt
  have hQl1 := hQ1.lt
  have hPl1 := hP1.lt
  have HO := hide (over_any qb n g Bt Bf 117 0 sl #[.pointer (some ⟨pb, 0, none⟩)] L f (fun k => k = rb) (fun pre W => pre.length ≤ L.length + 1 ∧ Pr W rb n m (dI pre C) C ∧ Iq W qb n 0 (fe Bt Bf) sl o ∧ Pb W pb qb rb n) (by decide) hlen w1 enters117 hF1 (by omega) (by omega) (by omega) (fun k hk => by omega)
    (fun pre W h => ⟨o, h.2.2.1⟩)
    (fun pre W W' h hk => ⟨h.1, h.2.1.of (hk rb hPl1), (hk qb hQl1).trans h.2.2.1, (hk pb hbl).trans h.2.2.2⟩)
    (fun pre e W hp hbad h hsz => by
      obtain ⟨a0, a, b, c⟩ := h
      obtain ⟨hx, hy, _⟩ := bad_ok hbad
      refine (count1_any n m rb pb qb (dI pre C) C e.1 e.2.1 e.2.2 hx hy hm hn (fun v _ => by have := dI_b pre C v; omega) W a c).mono ?_
      rintro e2 w2 ⟨hv, hp2, hC⟩
      refine ⟨hv, ⟨by simp; omega, hp2.ext (fun v hv => by unfold dI; rw [dg_app]; simp) (fun _ _ => rfl), b.on hC (by omega), (hC.block pb c.lt (by omega)).trans c⟩, hC⟩)
    ⟨by simp, hP1, hQ1, hb1⟩)
  have HC1 := hide hC1
  have HW0 := hide hw0
  have HW1 := hide hw1
  rw [hw1] at hcl
  rw [← hw0] at hcl p0 p1 p2
  clear hP0 hb0 hB h hQ hF hP1 hC01 hC1 hb1 hQ1 hF1 hw0 hw1
  go_enter Try.func94, Try.ntmps94
  go_wp2_with (fail)
  rw [← hpb]
  refine HO.out.mono ?_
  rintro e2 w2 ⟨E, rfl, hE, hC2, hJ⟩
  have HE : Hid (E = fa n 0 L f ∧ Ch (fun k => k = rb) w w2 ∧ (E = 0 → Pr w2 rb n m (dI L C) C) ∧ ∃ D', Pr w2 rb n m D' C) := by
    refine ⟨hE, HC1.out.trans hC2, ?_, ?_⟩
    · intro h0
      rcases hJ with ⟨_, a⟩ | ⟨a, _⟩
      · exact a.2.1
      · exact absurd h0 a
    · rcases hJ with ⟨_, a⟩ | ⟨_, pre, a⟩
      · exact ⟨_, a.2.1⟩
      · exact ⟨_, a.2.1⟩
  clear hE hC2 hJ HO HC1 HW0 HW1
  go_wp2
  all_goals go_ret
  all_goals exact ⟨E, rfl, HE.out⟩
end Au
end Go.Proofs.Ytcepfmeoeepjdaa
