import Derived.Test.YtcepfmeoeepjdaaAxE
namespace Go.Proofs.Ytcepfmeoeepjdaa
namespace Au
open Go.RowKit
set_option linter.unusedVariables false
set_option maxRecDepth 8000
/-- How many are left; the flag. -/
def mo (W : World) (rb n : Nat) : Nat := cn (fun v => !(cw W rb 0 v == 1)) n
def bf (p : Value) : Nat := match p with | .bool true => 1 | _ => 0
theorem Pr.mo {W : World} {rb n m : Nat} {K : Nat → Bool} {C : Nat → Int} (h : Pr W rb n m (w01 K) C) (hm : 2 * n ≤ m) : mo W rb n = cn (fun v => !K v) n := by
  unfold Au.mo
  rw [cn_ext (fun v hv => by rw [h.cwd hm v hv, w01_b] : ∀ v, v < n → (!(cw W rb 0 v == 1)) = !K v)]
theorem l1_led (S : Nat → Nat → Int) (K : Nat → Bool) (pre : List T3) (e : T3) : l1 S K (led S pre K) e = led S (pre ++ [e]) K := by
  funext v
  rw [led_app]
  rfl
/-- What the second look ends with. -/
def Rw3 (P : Nat → Nat → Prop) (w' : World) (n m rb qb Bt Bf sg sn sc : Nat) (L : List T3) (f : Int) (S : Nat → Nat → Int) (E : Int) : Prop := E = fa n 0 L f ∧ (∃ D C, Pr w' rb n m D C) ∧ ∃ o, Iq w' qb n 0 (fe Bt Bf) (.slice (some ⟨sg, 0, none⟩) sn sc) o ∧ (E = 0 → ∃ t, Stb S n L t ∧ Lm (fun v r => P v r ∨ (r = 3 ∧ v < n ∧ kn S L t (S v 0).toNat = true)) o)
set_option maxHeartbeats 8000000 in
theorem between_any (n m rb sg sn sc qb Bt Bf g : Nat) (P : Nat → Nat → Prop) (L : List T3) (f : Int) (S : Nat → Nat → Int) (D C : Nat → Int) (hLm : Lm P none) (hgl : Gl S n) (hs : n ≤ sn) (hm : 2 * n ≤ m) (hn0 : 0 < n) (hn : n ≤ 5000) (hlen : L.length ≤ 140737488351232) (w : World)
    (hQ : Iq w qb n 0 (fe Bt Bf) (.slice (some ⟨sg, 0, none⟩) sn sc) none) (hP : Pr w rb n m D C) (hF : Fd w g Bt Bf L f) (hS : SR w sg sn S)
    (r1 : rb ≠ g) (r2 : rb ≠ Bt) (r3 : rb ≠ Bf) (r5 : rb ≠ sg) (r6 : rb ≠ qb) (q5 : qb ≠ sg) :
    Calls Try.prog 83 #[.agg (pv qb rb n)] w fun e w' => ∃ E, e = .returned (.int .i64 E) ∧ Rw3 P w' n m rb qb Bt Bf sg sn sc L f S E ∧ Ch (fun k => k = rb ∨ k = qb) w w' := by
  have HLm := hide hLm
  have HGl := hide hgl
  clear hLm hgl
  have hPl := hP.lt
  have hQl := hQ.lt
  have hFl := hF.lt
  have hSl := hS.lt
  obtain ⟨kb, hkb⟩ : ∃ kb, kb = w.heap.size := ⟨_, rfl⟩
  obtain ⟨w0, hw0⟩ : ∃ w0, w.alloc (.cells (pv qb rb n) 109) = w0 := ⟨_, rfl⟩
  have hB0 : Below w.heap.size w w0 := by rw [← hw0]; exact b1 _ _ _
  have HP0 : Hid (Pr w0 rb n m (fun v => if v < 0 then w01 (lab S) v else D v) C) := (hP.of (hB0.block _ hPl)).ext (fun v hv => by rw [if_neg (by omega)]) (fun _ _ => rfl)
  have hK0 : Kb w0 kb qb rb n := by rw [← hw0, hkb]; exact at0 _ _
  have HZ0 : Hid (Zk w0 w n rb qb Bt Bf g kb sg sn sc L f S none) := ⟨hQ.on (X := fun _ => False) (Ch.of hB0) (fun h => h), hF.on (X := fun _ => False) (Ch.of hB0) (fun h => h) (fun h => h) (fun h => h), hK0, hS.on (X := fun _ => False) (Ch.of hB0) (fun h => h), Ch.of hB0⟩
  have HNe : Hid (rb ≠ kb ∧ qb ≠ kb ∧ g ≠ kb ∧ Bt ≠ kb ∧ Bf ≠ kb ∧ sg ≠ kb ∧ kb = w.heap.size ∧ rb < w.heap.size ∧ qb < w.heap.size ∧ g < w.heap.size ∧ Bt < w.heap.size ∧ Bf < w.heap.size ∧ sg < w.heap.size) := ⟨by omega, by omega, by omega, by omega, by omega, by omega, hkb, hPl, hQl, hFl.1, hFl.2.1, hFl.2.2, hSl⟩
  have HCr : Hid (∀ W W', Zk W w n rb qb Bt Bf g kb sg sn sc L f S none → Ch (fun k => k = rb) W W' → Zk W' w n rb qb Bt Bf g kb sg sn sc L f S none) := fun W W' h hc => by
    obtain ⟨n1, n2, n3, n4, n5, n6, n7⟩ := HNe.out
    exact h.ch hc (fun e => r6 e.symm) (fun e => r1 e.symm) (fun e => r2 e.symm) (fun e => r3 e.symm) (fun e => n1 e.symm) (fun e => r5 e.symm) (fun k hk => .inl hk)
  obtain ⟨k0, k1, k2⟩ := hK0.k
  have q0 := HZ0.out.1.c.1
  rw [← hw0] at k0 q0
  have HW0 := hide hw0
  have Hkb := hide hkb
  rw [hkb] at k0
  clear hP hQ hF hS hB0 hK0 hw0 hkb k1 k2 hPl hQl hFl hSl
  go_enter Try.func83, Try.ntmps83
  go_wp2_with (fail)
  rw [HW0.out, ← Hkb.out]
  clear k0 q0 HW0
  go_loopw [11] (fun t wr => ∃ j : Nat, j ≤ n ∧ t = .int .u32 j ∧ Hid (Pr wr rb n m (fun v => if v < j then w01 (lab S) v else D v) C) ∧ Hid (Zk wr w n rb qb Bt Bf g kb sg sn sc L f S none)) (fun t _ => n - (intOf t).toNat)
  case atStart => exact ⟨0, Nat.zero_le _, rfl, HP0, HZ0⟩
  case round =>
    clear HP0 HZ0
    obtain ⟨j, hj, rfl, HP, HZ⟩ := hrel
    by_cases cc : j < n
    · have hcc : (j : Int) < (n : Int) := by omega
      have HIs : Hid (∀ W, Zk W w n rb qb Bt Bf g kb sg sn sc L f S none → Calls Try.prog 107 #[.agg (pv qb rb n), .int .u32 (j : Int)] W fun e w' => e = .returned (.int .u64 (w01 (lab S) j)) ∧ Below W.heap.size W w') := fun W h => by
        refine (isLabel_any qb rb n sg sn sc j 0 _ none S (by omega) (by omega) W h.1 h.2.2.2.1).mono ?_
        rintro e w' ⟨rfl, rfl⟩
        exact ⟨rfl, b1 _ _ _⟩
      have HKg : Hid (∀ W, Zk W w n rb qb Bt Bf g kb sg sn sc L f S none → K3p kb qb rb n W) := fun W h => h.2.2.1.k
      have HZd : Hid (Zk wr.drew w n rb qb Bt Bf g kb sg sn sc L f S none) := HCr.out _ _ HZ.out (Ch.refl _ _).drew
      have HKs : Hid (∀ W x, Zk W w n rb qb Bt Bf g kb sg sn sc L f S none → K3p kb qb rb n (W.setCell ⟨rb, j, none⟩ x)) := fun W x h => (HCr.out _ _ h ((Ch.refl _ _).set _ _ (Or.inl rfl))).2.2.1.k
      go_wp2_with (fail)
      go_region_held3 (K3p kb qb rb n) ((first | with_reducible exact HKg.out _ HZd.out | with_reducible exact HKg.out _ HZ1.out | with_reducible exact HKs.out _ _ HZ1.out)) ((first | (go_at_call 107; refine (HIs.out _ HZd.out).mono ?_; rintro e1 w1 ⟨rfl, hB1⟩; have HZ1 : Hid (Zk w1 w n rb qb Bt Bf g kb sg sn sc L f S none) := HCr.out _ _ HZd.out (Ch.of hB1); have HP1 : Hid (Pr w1 rb n m (fun v => if v < j then w01 (lab S) v else D v) C) := HP.out.of (hB1.block _ HP.out.lt); have d1 := HP1.out.d hm j cc; have f1 := HP1.out.fz j; clear hB1)))
      have HP2 : Hid (Pr (w1.setCell ⟨rb, j, none⟩ (.int .u64 (w01 (lab S) j))) rb n m (fun v => if v < j + 1 then w01 (lab S) v else D v) C) := (HP1.out.setD j cc _).ext (fun v hv => by
        by_cases e : v = j
        · subst e; rw [up_eq, if_pos (by omega)]
        · rw [up_ne _ _ _ _ e]
          by_cases e2 : v < j
          · rw [if_pos e2, if_pos (by omega)]
          · rw [if_neg e2, if_neg (by omega)]) (fun _ _ => rfl)
      have HZ2 : Hid (Zk (w1.setCell ⟨rb, j, none⟩ (.int .u64 (w01 (lab S) j))) w n rb qb Bt Bf g kb sg sn sc L f S none) := HCr.out _ _ HZ1.out ((Ch.refl _ _).set _ _ (Or.inl rfl))
      clear HP HZ HZ1 HP1 d1 f1 HIs HKg HZd HKs
      go_wp2
      all_goals exact ⟨⟨j + 1, cc, by go_num, HP2, HZ2⟩, by simp [intOf]; omega⟩
    · have hjn : n = j := by omega
      subst hjn
      have HP1 : Hid (Pr wr rb n m (w01 (lab S)) C) := HP.out.ext (fun v hv => if_pos hv) (fun _ _ => rfl)
      have HZ1 := HZ
      clear HP HZ
      go_wp2_with (fail)
      go_loopw [4] (fun p wr => ∃ (t : Nat) (b : Bool) (C' : Nat → Int), p = .bool b ∧ Hid (Pr wr rb n m (w01 (kn S L t)) C') ∧ Hid (b = false → fa n 0 L f = 0 ∧ Stb S n L t) ∧ Hid (Zk wr w n rb qb Bt Bf g kb sg sn sc L f S none)) (fun p wr => 2 * mo wr rb n + bf p)
      case atStart => exact ⟨0, true, C, rfl, HP1, fun h => (by cases h), HZ1⟩
      case round =>
        clear HP1 HZ1
        obtain ⟨t, b, C', rfl, HP, HSt, HZ⟩ := hrel
        cases b with
        | true =>
          obtain ⟨k0, k1, k2⟩ := HZ.out.2.2.1.k
          obtain ⟨KK, hKK⟩ : ∃ KK, kn S L t = KK := ⟨_, rfl⟩
          rw [hKK] at HP
          have hcl := clearC_run n m rb (w01 KK) C' hm hn0 wr HP.out
          obtain ⟨w4, hw4⟩ : ∃ w4, wr.setCells rb n (List.replicate n (.int .u64 0)) = w4 := ⟨_, rfl⟩
          rw [hw4] at hcl
          have hP4 : Pr w4 rb n m (w01 KK) (w01 (led S [] KK)) := by
            rw [← hw4]
            exact (HP.out.zerosC n 0 (by omega)).ext (fun _ _ => rfl) (fun v hv => by rw [if_pos (by omega)]; rfl)
          have hC4 : Ch (fun k => k = rb) wr w4 := by rw [← hw4]; exact Ch.cells (X := fun k => k = rb) rfl _ _ (Ch.refl _ _)
          have hZ4 := HCr.out _ _ HZ.out hC4
          have hNe := HNe.out
          have kk := hZ4.2.2.1.k.1
          have l1 := hP4.lt
          have l3 := hZ4.1.lt
          have l4 := hZ4.2.2.1.lt
          have l5 := hZ4.2.2.2.1.lt
          have HMe := hide (HP.out.mo hm)
          have HO := hide (over_any qb n g Bt Bf 112 0 (.slice (some ⟨sg, 0, none⟩) sn sc) #[.pointer (some ⟨kb, 0, none⟩)] L f (fun k => k = rb)
            (fun pre W => Pr W rb n m (w01 KK) (w01 (led S pre KK)) ∧ Iq W qb n 0 (fe Bt Bf) (.slice (some ⟨sg, 0, none⟩) sn sc) none ∧ Kb W kb qb rb n ∧ SR W sg sn S) (by decide) hlen w4 enters112 hZ4.2.1 (by omega) (by omega) (by omega) (fun k hk => by omega)
            (fun pre W h => ⟨none, h.2.1⟩)
            (fun pre W W' h hk => ⟨h.1.of (hk rb l1), (hk qb l3).trans h.2.1, (hk kb l4).trans h.2.2.1, h.2.2.2.of (hk sg l5)⟩)
            (fun pre e W hp hbad h hsz => by
              obtain ⟨a1, a2, a3, a4⟩ := h
              obtain ⟨hx, hy, _⟩ := bad_ok hbad
              refine (see112 n m rb kb sg sn sc qb 0 _ none S KK (led S pre KK) e HGl.out hx hy hs hm hn W a1 a3 a2 a4 hNe.1 r6 r5).mono ?_
              rintro r W2 ⟨hv, p1, p3⟩
              rw [l1_led] at p1
              exact ⟨hv, ⟨p1, a2.on p3 (by omega), (p3.block _ a3.lt (by omega)).trans a3, a4.on p3 (by omega)⟩, p3⟩)
            ⟨hP4, hZ4.1, hZ4.2.2.1, hZ4.2.2.2.1⟩)
          have HZ4 := hide hZ4
          have HKK := hide hKK
          clear hP4 hZ4 hC4 l1 l3 l4 l5 hNe HP HZ HSt k0 k1 hw4 hKK
          go_wp2_with (fail)
          refine HO.out.mono ?_
          rintro e5 w5 ⟨E, rfl, hE, hC5, hJ⟩
          have HZ5 := hide (HCr.out _ _ HZ4.out hC5)
          clear HO kk hcl k2
          by_cases hE0 : E = 0
          · have hEb : (E != 0) = false := by simpa using hE0
            have hP5 : Pr w5 rb n m (w01 KK) (w01 (led S L KK)) := by
              rcases hJ with ⟨_, a1, _⟩ | ⟨h1, _⟩
              · exact a1
              · exact absurd hE0 h1
            have HT := hide (ktake_any n m rb qb KK (led S L KK) hm hn w5 hP5)
            obtain ⟨x0, x1, x2⟩ := HZ5.out.2.2.1.k
            have HF0 : Hid (fa n 0 L f = 0) := hE.symm.trans hE0
            clear hP5 hJ hC5 hE hE0 HZ4
            go_wp2_with (fail)
            refine HT.out.mono ?_
            rintro e6 w6 ⟨rfl, hP6, hC6⟩
            have HZ6 := hide (HCr.out _ _ HZ5.out hC6)
            clear HT x0 x1 x2 HZ5
            cases hta : an (tkn KK (led S L KK)) n with
            | true =>
              have HP6 : Hid (Pr w6 rb n m (w01 (kn S L (t + 1))) (w01 (led S L KK))) := by
                show Pr _ _ _ _ (w01 (fun v => kn S L t v && led S L (kn S L t) v)) _
                rw [HKK.out]; exact hP6
              have HMs : Hid (2 * mo w6 rb n + bf (.bool true) < 2 * mo wr rb n + bf (.bool true)) := by
                show _ < _
                obtain ⟨v, hv, hvt⟩ := an_true.1 hta
                unfold tkn at hvt
                simp only [Bool.and_eq_true, Bool.not_eq_true'] at hvt
                rw [HMe.out, hP6.mo hm]
                have h9 := cn_lt (H := fun v => !KK v) (K := fun v => !(KK v && led S L KK v)) (fun t ht => by simp only [Bool.not_eq_true'] at ht; rw [ht]; rfl) hv (by rw [hvt.1]; rfl) (by rw [hvt.2]; simp)
                omega
              clear hP6 hC6 hta
              go_wp2
              all_goals exact ⟨⟨t + 1, true, _, rfl, HP6, fun h => (by cases h), HZ6⟩, HMs.out⟩
            | false =>
              have hst : Stb S n L t := fun v hv hk => by
                have h9 := an_false.1 hta v hv
                unfold tkn at h9
                rw [HKK.out] at hk ⊢
                rw [hk] at h9
                simpa using h9
              have hsm : ∀ v, v < n → (KK v && led S L KK v) = KK v := fun v hv => by
                cases hk : KK v with
                | false => rfl
                | true =>
                  have := hst v hv (by rw [HKK.out]; exact hk)
                  rw [HKK.out] at this
                  rw [this]; rfl
              have hP7 : Pr w6 rb n m (w01 KK) (w01 (led S L KK)) := hP6.ext (fun v hv => by unfold w01; simp only [hsm v hv]) (fun _ _ => rfl)
              have HP6 : Hid (Pr w6 rb n m (w01 (kn S L t)) (w01 (led S L KK))) := by
                show Pr _ _ _ _ _ _
                rw [HKK.out]; exact hP7
              have HMs : Hid (2 * mo w6 rb n + bf (.bool false) < 2 * mo wr rb n + bf (.bool true)) := by
                show _ < _
                rw [HMe.out, hP7.mo hm]
                show 2 * _ + 0 < 2 * _ + 1
                omega
              have HSt6 : Hid (fa n 0 L f = 0 ∧ Stb S n L t) := ⟨HF0.out, hst⟩
              clear hP6 hC6 hta hst hsm hP7
              go_wp2
              all_goals exact ⟨⟨t, false, _, rfl, HP6, fun _ => HSt6.out, HZ6⟩, HMs.out⟩
          · have hEb : (E != 0) = true := by simpa using hE0
            have HEnd : Hid (Rw3 P w5 n m rb qb Bt Bf sg sn sc L f S E ∧ Ch (fun k => k = rb ∨ k = qb) w w5) := by
              refine ⟨⟨hE, ?_, none, HZ5.out.1, fun h => absurd h hE0⟩, HZ5.out.2.2.2.2⟩
              rcases hJ with ⟨h1, _⟩ | ⟨_, pre, a1, _⟩
              · exact absurd h1 hE0
              · exact ⟨_, _, a1⟩
            clear hJ hC5 hE hE0 HZ5 HZ4 HMe
            go_wp2
            all_goals go_ret
            all_goals exact ⟨E, rfl, HEnd.out⟩
        | false =>
          obtain ⟨k0, k1, k2⟩ := HZ.out.2.2.1.k
          have HX : Hid (∀ W W', (Pr W rb n m (w01 (kn S L t)) C' ∧ Kb W kb qb rb n ∧ SR W sg sn S) → Ch (fun k => k = qb) W W' → (Pr W' rb n m (w01 (kn S L t)) C' ∧ Kb W' kb qb rb n ∧ SR W' sg sn S)) := fun W W' h hC => by
            have := HNe.out
            exact ⟨h.1.of (hC.block _ h.1.lt r6), (hC.block _ h.2.1.lt (by omega)).trans h.2.1, h.2.2.on hC (by omega)⟩
          have HR1 := hide (rule_any qb n 3 114 0 (fe Bt Bf) (.slice (some ⟨sg, 0, none⟩) sn sc) none #[.pointer (some ⟨kb, 0, none⟩)] (fun v => kn S L t (S v 0).toNat) P (fun k => False) (fun W => Pr W rb n m (w01 (kn S L t)) C' ∧ Kb W kb qb rb n ∧ SR W sg sn S) (by omega) wr enters114 HZ.out.1 ⟨HP.out, HZ.out.2.2.1, HZ.out.2.2.2.1⟩ (fun h => h) HX.out HLm.out
            (fun v W hv h hI => by
              refine (rule114 n m rb kb sg sn sc qb v 0 _ none S (kn S L t) C' HGl.out hv hs hm hn W h.1 h.2.1 hI h.2.2).mono ?_
              rintro e3 w3 ⟨rfl, rfl⟩
              exact ⟨rfl, ⟨h.1.of rfl, h.2.1, h.2.2.of rfl⟩, (Ch.refl _ _).drew⟩))
          have HC0 := hide HZ.out.2.2.2.2
          have HS2 := hide (HSt.out rfl)
          clear HP HZ HSt
          go_wp2_with (fail)
          refine HR1.out.mono ?_
          rintro e3 w3 ⟨⟨v3, rfl⟩, o3, hL3, hI3, hJ3, hC3⟩
          have HEnd : Hid (Rw3 P w3 n m rb qb Bt Bf sg sn sc L f S 0 ∧ Ch (fun k => k = rb ∨ k = qb) w w3) := ⟨⟨HS2.out.1.symm, ⟨_, _, hJ3.1⟩, o3, hI3, fun _ => ⟨t, HS2.out.2, hL3⟩⟩, HC0.out.trans (hC3.mono (fun k _ h => Or.inr (h.resolve_left (fun x => x))))⟩
          clear hL3 hI3 hJ3 hC3 HR1 HC0 HS2 k0 k1 k2
          go_wp2
          all_goals go_ret
          all_goals exact ⟨0, rfl, HEnd.out⟩
end Au
end Go.Proofs.Ytcepfmeoeepjdaa
