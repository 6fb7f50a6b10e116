import Derived.Test.YtcepfmeoeepjdaaAxC
namespace Go.Proofs.Ytcepfmeoeepjdaa
namespace Au
open Go.RowKit
set_option linter.unusedVariables false
set_option maxRecDepth 8000
/-- What stands beside the marks. -/
def Zk (W w : World) (n rb qb Bt Bf g kb sg sn sc : Nat) (L : List T3) (f : Int) (S : Nat → Nat → Int) (o : Vd) : Prop := Iq W qb n 0 (fe Bt Bf) (.slice (some ⟨sg, 0, none⟩) sn sc) o ∧ Fd W g Bt Bf L f ∧ Kb W kb qb rb n ∧ SR W sg sn S ∧ Ch (fun k => k = rb ∨ k = qb) w W
theorem Zk.ch {X : Nat → Prop} {W W' w : World} {n rb qb Bt Bf g kb sg sn sc : Nat} {L : List T3} {f : Int} {S : Nat → Nat → Int} {o : Vd} (h : Zk W w n rb qb Bt Bf g kb sg sn sc L f S o) (hc : Ch X W W') (h1 : ¬ X qb) (h2 : ¬ X g) (h3 : ¬ X Bt) (h4 : ¬ X Bf) (h5 : ¬ X kb) (h6 : ¬ X sg) (h7 : ∀ k, X k → k = rb ∨ w.heap.size ≤ k) : Zk W' w n rb qb Bt Bf g kb sg sn sc L f S o := by
  obtain ⟨a, b, c, d, e⟩ := h
  refine ⟨a.on hc h1, b.on hc h2 h3 h4, (hc.block _ c.lt h5).trans c, d.on hc h6, ⟨hc.os.trans e.os, hc.tape.trans e.tape, hc.output.trans e.output, Nat.le_trans e.size hc.size, fun k hk hx => ?_⟩⟩
  have := e.size
  refine (hc.block k (by omega) (fun hX => ?_)).trans (e.block k hk hx)
  rcases h7 k hX with q | q
  · exact hx (.inl q)
  · omega
/-- How many marks are wanting; is the flag set? -/
def mz (W : World) (rb n : Nat) : Nat := cn (fun v => cw W rb 0 v == 1) n + cn (fun v => cw W rb n v == 1) n
def fl (p : Value) (W : World) : Nat := match p with | .pointer (some a) => (match W.cell? a with | some (.bool true) => 1 | _ => 0) | _ => 0
theorem w01_b (H : Nat → Bool) (v : Nat) : (w01 H v == 1) = H v := by unfold w01; cases h : H v <;> simp
theorem Pr.mz {W : World} {rb n m : Nat} {H K : Nat → Bool} (h : Pr W rb n m (w01 H) (w01 K)) (hm : 2 * n ≤ m) : mz W rb n = cn H n + cn K n := by
  unfold Au.mz
  rw [cn_ext (fun v hv => by rw [h.cwd hm v hv, w01_b] : ∀ v, v < n → (cw W rb 0 v == 1) = H v), cn_ext (fun v hv => by rw [h.cwc hm v hv, w01_b] : ∀ v, v < n → (cw W rb n v == 1) = K v)]
theorem fl_t {mb : Nat} {W : World} (h : Boxed W mb 4 (.bool true)) : fl (.pointer (some ⟨mb, 0, none⟩)) W = 1 := by
  unfold fl
  simp only [h.cell]
theorem fl_f {mb : Nat} {W : World} (h : Boxed W mb 4 (.bool false)) : fl (.pointer (some ⟨mb, 0, none⟩)) W = 0 := by
  unfold fl
  simp only [h.cell]
theorem fl_le (p : Value) (W : World) : fl p W ≤ 1 := by
  unfold fl
  split
  · split <;> omega
  · omega
/-- What the first look ends with. -/
def Rw1 (w' : World) (n m rb qb Bt Bf sg sn sc : Nat) (L : List T3) (f : Int) (S : Nat → Nat → Int) (E : Int) : Prop := E = fa n 0 L f ∧ (∃ D C, Pr w' rb n m D C) ∧ ∃ o, Iq w' qb n 0 (fe Bt Bf) (.slice (some ⟨sg, 0, none⟩) sn sc) o ∧ (E = 0 → ∃ H K, (∀ v, v < n → (H v = true ↔ Cl S n L false v)) ∧ (∀ v, v < n → (K v = true ↔ Cl S n L true v)) ∧ Lm (P12 S n H K) o)
set_option maxHeartbeats 8000000 in
theorem within_any (n m rb sg sn sc qb Bt Bf g : Nat) (L : List T3) (f : Int) (S : Nat → Nat → Int) (D C : Nat → Int) (hs : n ≤ sn) (hsr : ∀ v, v < n → 0 ≤ S v 0) (hm : 2 * n ≤ m) (hn0 : 0 < n) (hn : n ≤ 5000) (hlen : L.length ≤ 140737488351232) (w : World)
    (hQ : Iq w qb n 0 (fe Bt Bf) (.slice (some ⟨sg, 0, none⟩) sn sc) none) (hP : Pr w rb n m D C) (hF : Fd w g Bt Bf L f) (hS : SR w sg sn S)
    (r1 : rb ≠ g) (r2 : rb ≠ Bt) (r3 : rb ≠ Bf) (r5 : rb ≠ sg) (r6 : rb ≠ qb) (q5 : qb ≠ sg) :
    Calls Try.prog 82 #[.agg (pv qb rb n)] w fun e w' => ∃ E, e = .returned (.int .i64 E) ∧ Rw1 w' n m rb qb Bt Bf sg sn sc L f S E ∧ Ch (fun k => k = rb ∨ k = qb) w w' := by
  have hPl := hP.lt
  have hQl := hQ.lt
  have hFl := hF.lt
  have hSl := hS.lt
  obtain ⟨kb, hkb⟩ : ∃ kb, kb = w.heap.size := ⟨_, rfl⟩
  obtain ⟨w0, hw0⟩ : ∃ w0, w.alloc (.cells (pv qb rb n) 109) = w0 := ⟨_, rfl⟩
  have hB0 : Below w.heap.size w w0 := by rw [← hw0]; exact b1 _ _ _
  have HP0 : Hid (Pr w0 rb n m (fun v => if v < 0 then w01 (lab S) v else D v) C) := (hP.of (hB0.block _ hPl)).ext (fun v hv => by rw [if_neg (by omega)]) (fun _ _ => rfl)
  have hK0 : Kb w0 kb qb rb n := by rw [← hw0, hkb]; exact at0 _ _
  have HZ0 : Hid (Zk w0 w n rb qb Bt Bf g kb sg sn sc L f S none) := ⟨hQ.on (X := fun _ => False) (Ch.of hB0) (fun h => h), hF.on (X := fun _ => False) (Ch.of hB0) (fun h => h) (fun h => h) (fun h => h), hK0, hS.on (X := fun _ => False) (Ch.of hB0) (fun h => h), Ch.of hB0⟩
  have HNe : Hid (rb ≠ kb ∧ qb ≠ kb ∧ g ≠ kb ∧ Bt ≠ kb ∧ Bf ≠ kb ∧ sg ≠ kb ∧ kb = w.heap.size ∧ rb < w.heap.size ∧ qb < w.heap.size ∧ g < w.heap.size ∧ Bt < w.heap.size ∧ Bf < w.heap.size ∧ sg < w.heap.size) := ⟨by omega, by omega, by omega, by omega, by omega, by omega, hkb, hPl, hQl, hFl.1, hFl.2.1, hFl.2.2, hSl⟩
  have HCr : Hid (∀ W W', Zk W w n rb qb Bt Bf g kb sg sn sc L f S none → Ch (fun k => k = rb) W W' → Zk W' w n rb qb Bt Bf g kb sg sn sc L f S none) := fun W W' h hc => by
    obtain ⟨n1, n2, n3, n4, n5, n6, n7⟩ := HNe.out
    exact h.ch hc (fun e => r6 e.symm) (fun e => r1 e.symm) (fun e => r2 e.symm) (fun e => r3 e.symm) (fun e => n1 e.symm) (fun e => r5 e.symm) (fun k hk => .inl hk)
  have HCm : Hid (∀ mb W W', kb < mb → Zk W w n rb qb Bt Bf g kb sg sn sc L f S none → Ch (fun k => k = rb ∨ k = mb) W W' → Zk W' w n rb qb Bt Bf g kb sg sn sc L f S none) := fun mb W W' hb h hc => by
    obtain ⟨n1, n2, n3, n4, n5, n6, n7, n8, n9, n10, n11, n12, n13⟩ := HNe.out
    exact h.ch hc (by omega) (by omega) (by omega) (by omega) (by omega) (by omega) (fun k hk => by rcases hk with hk | hk; exact .inl hk; right; omega)
  obtain ⟨k0, k1, k2⟩ := hK0.k
  have q0 := HZ0.out.1.c.1
  rw [← hw0] at k0 q0
  have HW0 := hide hw0
  have HSR := hide hsr
  have Hkb := hide hkb
  rw [hkb] at k0
  clear hP hQ hF hS hB0 hK0 hw0 hsr hkb k1 k2 hPl hQl hFl hSl
  go_enter Try.func82, Try.ntmps82
  go_wp2_with (fail)
  rw [HW0.out, ← Hkb.out]
  clear k0 q0 HW0
  go_loopw [11] (fun t wr => ∃ j : Nat, j ≤ n ∧ t = .int .u32 j ∧ Hid (Pr wr rb n m (fun v => if v < j then w01 (lab S) v else D v) C) ∧ Hid (Zk wr w n rb qb Bt Bf g kb sg sn sc L f S none)) (fun t _ => n - (intOf t).toNat)
  case atStart => exact ⟨0, Nat.zero_le _, rfl, HP0, HZ0⟩
  case round =>
    clear HP0 HZ0
    obtain ⟨j, hj, rfl, HP, HZ⟩ := hrel
    by_cases cc : j < n
    · have hcc : (j : Int) < (n : Int) := by omega
      have HIs : Hid (∀ W, Zk W w n rb qb Bt Bf g kb sg sn sc L f S none → Calls Try.prog 107 #[.agg (pv qb rb n), .int .u32 (j : Int)] W fun e w' => e = .returned (.int .u64 (w01 (lab S) j)) ∧ Below W.heap.size W w') := fun W h => by
        refine (isLabel_any qb rb n sg sn sc j 0 _ none S (by omega) (by omega) W h.1 h.2.2.2.1).mono ?_
        rintro e w' ⟨rfl, rfl⟩
        exact ⟨rfl, b1 _ _ _⟩
      have HKg : Hid (∀ W, Zk W w n rb qb Bt Bf g kb sg sn sc L f S none → K3p kb qb rb n W) := fun W h => h.2.2.1.k
      have HZd : Hid (Zk wr.drew w n rb qb Bt Bf g kb sg sn sc L f S none) := HCr.out _ _ HZ.out (Ch.refl _ _).drew
      have HKs : Hid (∀ W x, Zk W w n rb qb Bt Bf g kb sg sn sc L f S none → K3p kb qb rb n (W.setCell ⟨rb, j, none⟩ x)) := fun W x h => (HCr.out _ _ h ((Ch.refl _ _).set _ _ (Or.inl rfl))).2.2.1.k
      go_wp2_with (fail)
      go_region_held3 (K3p kb qb rb n) ((first | with_reducible exact HKg.out _ HZd.out | with_reducible exact HKg.out _ HZ1.out | with_reducible exact HKs.out _ _ HZ1.out)) ((first | (go_at_call 107; refine (HIs.out _ HZd.out).mono ?_; rintro e1 w1 ⟨rfl, hB1⟩; have HZ1 : Hid (Zk w1 w n rb qb Bt Bf g kb sg sn sc L f S none) := HCr.out _ _ HZd.out (Ch.of hB1); have HP1 : Hid (Pr w1 rb n m (fun v => if v < j then w01 (lab S) v else D v) C) := HP.out.of (hB1.block _ HP.out.lt); have d1 := HP1.out.d hm j cc; have f1 := HP1.out.fz j; clear hB1)))
      have HP2 : Hid (Pr (w1.setCell ⟨rb, j, none⟩ (.int .u64 (w01 (lab S) j))) rb n m (fun v => if v < j + 1 then w01 (lab S) v else D v) C) := (HP1.out.setD j cc _).ext (fun v hv => by
        by_cases e : v = j
        · subst e; rw [up_eq, if_pos (by omega)]
        · rw [up_ne _ _ _ _ e]
          by_cases e2 : v < j
          · rw [if_pos e2, if_pos (by omega)]
          · rw [if_neg e2, if_neg (by omega)]) (fun _ _ => rfl)
      have HZ2 : Hid (Zk (w1.setCell ⟨rb, j, none⟩ (.int .u64 (w01 (lab S) j))) w n rb qb Bt Bf g kb sg sn sc L f S none) := HCr.out _ _ HZ1.out ((Ch.refl _ _).set _ _ (Or.inl rfl))
      clear HP HZ HZ1 HP1 d1 f1 HIs HKg HZd HKs
      go_wp2
      all_goals exact ⟨⟨j + 1, cc, by go_num, HP2, HZ2⟩, by simp [intOf]; omega⟩
    · have hjn : n = j := by omega
      subst hjn
      have hP1 : Pr wr rb n m (w01 (lab S)) C := HP.out.ext (fun v hv => if_pos hv) (fun _ _ => rfl)
      have hcp := copy_run n m rb (w01 (lab S)) C hm wr hP1
      obtain ⟨w2, hw2⟩ : ∃ w2, wr.setCells rb n ((List.range' 0 n).map (fun j => .int .u64 (w01 (lab S) j))) = w2 := ⟨_, rfl⟩
      rw [hw2] at hcp
      have hP2 : Pr w2 rb n m (w01 (lab S)) (w01 (lab S)) := by rw [← hw2]; exact hP1.copied
      have hC2 : Ch (fun k => k = rb) wr w2 := by rw [← hw2]; exact Ch.cells (X := fun k => k = rb) rfl _ _ (Ch.refl _ _)
      have hZ2 := HCr.out _ _ HZ.out hC2
      obtain ⟨w3, hw3⟩ : ∃ w3, w2.alloc (.cells #[.bool true] 4) = w3 := ⟨_, rfl⟩
      have hB3 : Below w2.heap.size w2 w3 := by rw [← hw3]; exact b1 _ _ _
      have HP3 : Hid (Pr w3 rb n m (w01 (lab S)) (w01 (lab S))) := hP2.of (hB3.block _ hP2.lt)
      have HM3 : Hid (Boxed w3 w2.heap.size 4 (.bool true)) := by
        show Boxed _ _ _ _
        rw [← hw3]; exact Boxed.new _ _ _
      have HZ3 : Hid (Zk w3 w n rb qb Bt Bf g kb sg sn sc L f S none) := HCr.out _ _ hZ2 (Ch.of hB3)
      have HL3 : Hid (kb < w2.heap.size) := hZ2.2.2.1.lt
      obtain ⟨k0, k1, k2⟩ := HZ.out.2.2.1.k
      have HW3 := hide hw3
      clear hP1 hP2 hC2 hZ2 hB3 hw2 HP HZ hw3 k0
      go_wp2_with (fail)
      rw [HW3.out]
      obtain ⟨mb0, hmb0⟩ : ∃ mb0, mb0 = w2.heap.size := ⟨_, rfl⟩
      rw [← hmb0] at HM3 HL3 ⊢
      clear hmb0 hcp k1 k2 HW3
      go_loopw [4] (fun p wr => ∃ (mb : Nat) (H K : Nat → Bool) (b : Bool), p = .pointer (some ⟨mb, 0, none⟩) ∧ Hid (Pr wr rb n m (w01 H) (w01 K)) ∧ Hid (Boxed wr mb 4 (.bool b)) ∧ Hid (kb < mb) ∧ Hid (Mk S n L false H ∧ Mk S n L true K ∧ (b = false → fa n 0 L f = 0 ∧ ∀ e ∈ L, Cd S false H e ∧ Cd S true K e)) ∧ Hid (Zk wr w n rb qb Bt Bf g kb sg sn sc L f S none)) (fun p wr => 2 * mz wr rb n + fl p wr)
      case atStart => exact ⟨mb0, _, _, true, rfl, HP3, HM3, HL3, ⟨Mk.begin _, Mk.begin _, fun h => by cases h⟩, HZ3⟩
      case round =>
        clear HP3 HM3 HL3 HZ3
        obtain ⟨mb, H, K, b, rfl, HP, HM, HL, HMk, HZ⟩ := hrel
        cases b with
        | true =>
          have hm0 := HM.out.cell
          have fm0 : wr.frozen? ⟨mb, 0, none⟩ = false := frozen_of_row _ _ _ _ _ HM.out
          obtain ⟨k0, k1, k2⟩ := HZ.out.2.2.1.k
          obtain ⟨w4, hw4⟩ : ∃ w4, wr.setCell ⟨mb, 0, none⟩ (.bool false) = w4 := ⟨_, rfl⟩
          have hC4 : Ch (fun k => k = mb) wr w4 := by rw [← hw4]; exact (Ch.refl _ _).set _ _ (Or.inl rfl)
          have hNe := HNe.out
          have hKm := HL.out
          have hmrb : rb ≠ mb := by omega
          have hP4 : Pr w4 rb n m (w01 H) (w01 K) := HP.out.of (hC4.block _ HP.out.lt hmrb)
          have hM4 : Boxed w4 mb 4 (.bool false) := by
            rw [← hw4]
            have h2 : wr.heap[mb]? = some (.cells #[.bool true] 4 (0, 0)) := HM.out
            rw [setCell_eq_setRow wr mb 0 _ 4 (0, 0) _ h2]
            exact setRow_heap wr mb _ _ 4 (0, 0) h2
          have hZ4 := HCm.out mb _ _ hKm HZ.out (hC4.mono (Y := fun k => k = rb ∨ k = mb) (fun k _ h => Or.inr h))
          have HMe := hide (HP.out.mz hm)
          have HFl := hide (fl_t HM.out)
          have kk := hZ4.2.2.1.k.1
          have l1 := hP4.lt
          have l2 := hM4.lt
          have l3 := hZ4.1.lt
          have l4 := hZ4.2.2.1.lt
          have l5 := hZ4.2.2.2.1.lt
          have HO := hide (over_any qb n g Bt Bf 108 0 (.slice (some ⟨sg, 0, none⟩) sn sc) #[.pointer (some ⟨kb, 0, none⟩), .pointer (some ⟨mb, 0, none⟩)] L f (fun k => k = rb ∨ k = mb)
            (fun pre W => ∃ H' K' b', Pr W rb n m (w01 H') (w01 K') ∧ Ps S n L pre H K H' K' b' ∧ Boxed W mb 4 (.bool b') ∧ Iq W qb n 0 (fe Bt Bf) (.slice (some ⟨sg, 0, none⟩) sn sc) none ∧ Kb W kb qb rb n ∧ SR W sg sn S) (by decide) hlen w4 enters108 hZ4.2.1 (by omega) (by omega) (by omega) (fun k hk => by omega)
            (fun pre W h => by obtain ⟨_, _, _, _, _, _, h, _⟩ := h; exact ⟨none, h⟩)
            (fun pre W W' h hk => by
              obtain ⟨H', K', b', a1, a2, a3, a4, a5, a6⟩ := h
              exact ⟨H', K', b', a1.of (hk rb l1), a2, (hk mb l2).trans a3, (hk qb l3).trans a4, (hk kb l4).trans a5, a6.of (hk sg l5)⟩)
            (fun pre e W hp hbad h hsz => by
              obtain ⟨H', K', b', a1, a2, a3, a4, a5, a6⟩ := h
              obtain ⟨hx, hy, _⟩ := bad_ok hbad
              refine (see108 n m rb kb mb sg sn sc qb 0 _ none S H' K' b' e hx hy hs hm hn W a1 a5 a3 a4 a6 hNe.1 r6 r5 hmrb).mono ?_
              rintro r W2 ⟨hv, p1, p2, p3⟩
              exact ⟨hv, ⟨_, _, _, p1, a2.step e hx hy, p2, a4.on p3 (by omega), (p3.block _ a5.lt (by omega)).trans a5, a6.on p3 (by omega)⟩, p3⟩)
            ⟨H, K, false, hP4, Ps.begin HMk.out.1 HMk.out.2.1, hM4, hZ4.1, hZ4.2.2.1, hZ4.2.2.2.1⟩)
          have HZ4 := hide hZ4
          clear hP4 hM4 hZ4 l1 l2 l3 l4 l5 hNe hKm HP HM HMk HZ k0 k1 k2
          go_wp2_with (fail)
          refine HO.out.mono ?_
          rintro e5 w5 ⟨E, rfl, hE, hC5, hJ⟩
          have HZ5 := hide (HCm.out mb _ _ HL.out HZ4.out hC5)
          clear HO kk hm0 fm0
          by_cases hE0 : E = 0
          · have hEb : (E != 0) = false := by simpa using hE0
            obtain ⟨H', K', b', a1, a2, a3, _⟩ : ∃ H' K' b', Pr w5 rb n m (w01 H') (w01 K') ∧ Ps S n L L H K H' K' b' ∧ Boxed w5 mb 4 (.bool b') ∧ True := by
              rcases hJ with ⟨_, H', K', b', a1, a2, a3, _⟩ | ⟨h1, _⟩
              · exact ⟨H', K', b', a1, a2, a3, trivial⟩
              · exact absurd hE0 h1
            have q0 := a3.cell
            obtain ⟨w6, hw6⟩ : ∃ w6, w5.alloc (.cells #[.bool b'] 4) = w6 := ⟨_, rfl⟩
            have hB6 : Below w5.heap.size w5 w6 := by rw [← hw6]; exact b1 _ _ _
            have HP6 : Hid (Pr w6 rb n m (w01 H') (w01 K')) := a1.of (hB6.block _ a1.lt)
            have HM6 : Hid (Boxed w6 w5.heap.size 4 (.bool b')) := by
              show Boxed _ _ _ _
              rw [← hw6]; exact Boxed.new _ _ _
            have HZ6 : Hid (Zk w6 w n rb qb Bt Bf g kb sg sn sc L f S none) := HCr.out _ _ HZ5.out (Ch.of hB6)
            have HL6 : Hid (kb < w5.heap.size) := HZ5.out.2.2.1.lt
            have HMk6 : Hid (Mk S n L false H' ∧ Mk S n L true K' ∧ (b' = false → fa n 0 L f = 0 ∧ ∀ e ∈ L, Cd S false H' e ∧ Cd S true K' e)) := ⟨a2.over.1, a2.over.2, fun hb => ⟨hE.symm.trans hE0, (a2.no hb).2.2⟩⟩
            have HMs : Hid (2 * mz w6 rb n + fl (.pointer (some ⟨w5.heap.size, 0, none⟩)) w6 < 2 * mz wr rb n + fl (.pointer (some ⟨mb, 0, none⟩)) wr) := by
              show _ < _
              rw [HMe.out, HFl.out, HP6.out.mz hm]
              cases b' with
              | true =>
                rw [fl_t HM6.out]
                have := a2.ys rfl
                omega
              | false =>
                rw [fl_f HM6.out]
                have := a2.le
                omega
            have HW6 := hide hw6
            clear a1 a2 a3 hw6 hB6 hJ hC5 hE hE0 HZ5 HZ4 HMe HFl
            go_wp2
            all_goals rw [HW6.out]
            all_goals exact ⟨⟨w5.heap.size, H', K', b', rfl, HP6, HM6, HL6, HMk6, HZ6⟩, HMs.out⟩
          · have hEb : (E != 0) = true := by simpa using hE0
            have HEnd : Hid (Rw1 w5 n m rb qb Bt Bf sg sn sc L f S E ∧ Ch (fun k => k = rb ∨ k = qb) w w5) := by
              refine ⟨⟨hE, ?_, none, HZ5.out.1, fun h => absurd h hE0⟩, HZ5.out.2.2.2.2⟩
              rcases hJ with ⟨h1, _⟩ | ⟨_, pre, H', K', b', a1, _⟩
              · exact absurd h1 hE0
              · exact ⟨_, _, a1⟩
            clear hJ hC5 hE hE0 HZ5 HZ4 HMe HFl
            go_wp2
            all_goals go_ret
            all_goals exact ⟨E, rfl, HEnd.out⟩
        | false =>
          obtain ⟨hk1, hk2, hk3⟩ := HMk.out
          obtain ⟨hf0, hcd⟩ := hk3 rfl
          have HFu : Hid (fa n 0 L f = 0 ∧ (∀ v, v < n → (H v = true ↔ Cl S n L false v)) ∧ (∀ v, v < n → (K v = true ↔ Cl S n L true v))) := ⟨hf0, fun v hv => hk1.full (fun e he => (hcd e he).1) v hv, fun v hv => hk2.full (fun e he => (hcd e he).2) v hv⟩
          have hm0 := HM.out.cell
          obtain ⟨k0, k1, k2⟩ := HZ.out.2.2.1.k
          have HX : Hid (∀ W W', (Pr W rb n m (w01 H) (w01 K) ∧ Kb W kb qb rb n ∧ SR W sg sn S) → Ch (fun k => k = qb) W W' → (Pr W' rb n m (w01 H) (w01 K) ∧ Kb W' kb qb rb n ∧ SR W' sg sn S)) := fun W W' h hC => by
            have := HNe.out
            exact ⟨h.1.of (hC.block _ h.1.lt r6), (hC.block _ h.2.1.lt (by omega)).trans h.2.1, h.2.2.on hC (by omega)⟩
          have HR1 := hide (rule_any qb n 1 110 0 (fe Bt Bf) (.slice (some ⟨sg, 0, none⟩) sn sc) none #[.pointer (some ⟨kb, 0, none⟩)] (br1 S) (fun _ _ => False) (fun k => False) (fun W => Pr W rb n m (w01 H) (w01 K) ∧ Kb W kb qb rb n ∧ SR W sg sn S) (by omega) wr enters110 HZ.out.1 ⟨HP.out, HZ.out.2.2.1, HZ.out.2.2.2.1⟩ (fun h => h) HX.out (fun _ _ h => h)
            (fun v W hv h hI => by
              refine (rule110 n rb kb sg sn sc qb v 0 _ none S hv hs hn (HSR.out v hv) W h.2.1 hI h.2.2).mono ?_
              rintro e3 w3 ⟨rfl, rfl⟩
              exact ⟨rfl, h, Ch.refl _ _⟩))
          have HC0 := hide HZ.out.2.2.2.2
          clear hk1 hk2 hk3 hf0 hcd HMk HP HM HZ
          go_wp2_with (fail)
          refine HR1.out.mono ?_
          rintro e3 w3 ⟨⟨v3, rfl⟩, o3, hL3, hI3, hJ3, hC3⟩
          have HR2 := hide (rule_any qb n 2 111 0 (fe Bt Bf) (.slice (some ⟨sg, 0, none⟩) sn sc) o3 #[.pointer (some ⟨kb, 0, none⟩)] (fun v => !H v || !K v) _ (fun k => False) (fun W => Pr W rb n m (w01 H) (w01 K) ∧ Kb W kb qb rb n ∧ SR W sg sn S) (by omega) w3 enters111 hI3 hJ3 (fun h => h) HX.out hL3
            (fun v W hv h hI => by
              refine (rule111 n m rb kb qb v H K hv hm hn W h.2.1 h.1).mono ?_
              rintro e3 w3 ⟨rfl, rfl⟩
              exact ⟨rfl, h, Ch.refl _ _⟩))
          have HC3 : Hid (Ch (fun k => k = rb ∨ k = qb) w w3) := HC0.out.trans (hC3.mono (fun k _ h => Or.inr (h.resolve_left (fun x => x))))
          obtain ⟨x0, x1, x2⟩ := hJ3.2.1.k
          clear hL3 hI3 hJ3 hC3 HR1 HC0 k0 k1 k2 hm0
          go_wp2_with (fail)
          refine HR2.out.mono ?_
          rintro e4 w4 ⟨⟨v4, rfl⟩, o4, hL4, hI4, hJ4, hC4⟩
          have HEnd : Hid (Rw1 w4 n m rb qb Bt Bf sg sn sc L f S 0 ∧ Ch (fun k => k = rb ∨ k = qb) w w4) := by
            refine ⟨⟨HFu.out.1.symm, ⟨_, _, hJ4.1⟩, o4, hI4, fun _ => ⟨H, K, HFu.out.2.1, HFu.out.2.2, hL4.ext (fun v r => ?_)⟩⟩, HC3.out.trans (hC4.mono (fun k _ h => Or.inr (h.resolve_left (fun x => x))))⟩
            unfold P12
            constructor
            · rintro ((h | h) | h)
              · exact h.elim
              · exact .inl h
              · exact .inr h
            · rintro (h | h)
              · exact .inl (.inr h)
              · exact .inr h
          clear hL4 hI4 hJ4 hC4 HR2 HC3 HFu x0 x1 x2
          go_wp2
          all_goals go_ret
          all_goals exact ⟨0, rfl, HEnd.out⟩
end Au
end Go.Proofs.Ytcepfmeoeepjdaa
