import Derived.Test.YtgoigcpdfecfhaaGreatDoorCrC
namespace Go.Proofs.YtgoigcpdfecfhaaGreatDoor
namespace Au
open Go.RowKit
set_option linter.unusedVariables false
set_option maxRecDepth 8000
theorem twoBox (w : World) (A B : Value) : Boxed ((w.alloc (.cells #[A] 32)).alloc (.cells #[B] 32)).drew w.heap.size 32 A ∧ Boxed ((w.alloc (.cells #[A] 32)).alloc (.cells #[B] 32)).drew (w.heap.size + 1) 32 B ∧ Below w.heap.size w ((w.alloc (.cells #[A] 32)).alloc (.cells #[B] 32)).drew := by
  refine ⟨keep _ (at0 _ _), ?_, belowD (bA2 (b1 _ _ _) _)⟩
  have := at0 (w.alloc (.cells #[A] 32)) (.cells #[B] 32)
  rw [World.size_alloc] at this
  exact this
theorem fa_early {n : Nat} {L : List T3} {f : Int} (hf : 0 ≤ f) (h : fa n 0 L f = 0) : ∀ e ∈ L, e.2.1 < n := fun e he => (fa_good hf h e he).2
set_option maxHeartbeats 16000000 in
theorem look46 (n m rb xb eb kb sb sg sn sc qb Bt Bf g r : Nat) (L : List T3) (f s : Int) (S : Nat → Nat → Int) (U0 : Nat → Int) (hs : n ≤ sn) (hm : 2 * n ≤ m) (hn0 : 0 < n) (hn : n ≤ 5000) (hr1 : 1 ≤ r) (hrr : r ≤ 1000) (s0 : 0 ≤ s) (s1 : s < 18446744073709551616) (hf0 : 0 ≤ f) (hlen : L.length ≤ 140737488351232) (w : World)
    (hQ : Iq w qb n 0 (fe Bt Bf) (.slice (some ⟨sg, 0, none⟩) sn sc) none) (hG : GU w rb m U0) (hU0 : ∀ x, 2 * n ≤ x → x < m → U0 x = 99) (hF : Fd w g Bt Bf L f) (hsb : Boxed w sb 23 (.slice (some ⟨sg, 0, none⟩) sn sc)) (hxb : Boxed w xb 22 (.int .u32 (n : Int))) (heb : Boxed w eb 28 (.int .u64 s)) (hkb : Boxed w kb 3 (.int .i64 (r : Int))) (hS : SR w sg sn S) (hT : Tb w)
    (r1 : rb ≠ g) (r2 : rb ≠ Bt) (r3 : rb ≠ Bf) (r4 : rb ≠ sb) (r5 : rb ≠ sg) (r6 : rb ≠ qb) (r7 : rb ≠ eb) (r8 : 2 ≤ rb) (r9 : rb ≠ xb) (r10 : rb ≠ kb) (q4 : qb ≠ sb) (q5 : qb ≠ sg) :
    Calls Tryz.prog 46 #[.pointer (some ⟨qb, 0, none⟩), .slice (some ⟨rb, 0, none⟩) (2 * n) (2 * n), .pointer (some ⟨xb, 0, none⟩), .pointer (some ⟨eb, 0, none⟩), .pointer (some ⟨kb, 0, none⟩), .pointer (some ⟨sb, 0, none⟩)] w fun e w' =>
      ∃ E o, e = .returned (.int .i64 E) ∧ Iq w' qb n 0 (fe Bt Bf) (.slice (some ⟨sg, 0, none⟩) sn sc) o ∧ RR n m rb L f s r S E o w' ∧ Ch (fun k => k = rb ∨ k = qb) w w' := by
  have hQl := hQ.lt
  have hGl := hG.lt
  have hxl := hxb.lt
  have HS : Hid (SR46 xb n w.drew) := hxb.cell
  have HSa : Hid (∀ o, SR46 xb n (w.alloc o).drew) := fun o => (hxb.alloc o).cell
  have HSb : Hid (∀ o o', SR46 xb n ((w.alloc o).alloc o').drew) := fun o o' => ((hxb.alloc o).alloc o').cell
  have HR0 : Hid (Rg w rb n m 0 n U0 (fun v => U0 (n + v))) := ⟨Or.inl ⟨rfl, rfl⟩, U0, hG, fun v _ => by rw [Nat.zero_add], fun _ _ => rfl, hU0⟩
  have HQ := hide hQ
  have HF := hide hF
  have HSB := hide hsb
  have HXB := hide hxb
  have HEB := hide heb
  have HKB := hide hkb
  have HSR := hide hS
  have HT := hide hT
  have hel := heb.lt
  have hkl := hkb.lt
  clear hQ hG hU0 hF hsb hxb heb hkb hS hT
  have h2n : 2 * n - n = n := by omega
  have hle : n ≤ 2 * n := by omega
  have hne2 : ¬ 2 * n = n := by omega
  have hI0 : (0 : Int) ≤ (n : Int) := by omega
  have hI1 : (n : Int) ≤ ((2 * n : Nat) : Int) := by omega
  have hI2 : (n : Int) ≤ 2 * (n : Int) := by omega
  have hI3 : ¬ (n : Int) < 0 := by omega
  go_enter Tryz.func46, Tryz.ntmps46
  go_wp2_with (fail)
  apply wp_cut2 (fun pb nb w' => Rj rb n m pb nb 0 n (2 * n) n U0 (fun v => U0 (n + v)) w' ∧ Ch (fun k => k = rb) w w' ∧ w.heap.size ≤ pb ∧ w.heap.size ≤ nb ∧ pb ≠ nb) (fun pb nb => { tmps := #[.pointer (some ⟨qb, 0, none⟩), .slice (some ⟨rb, 0, none⟩) (2 * n) (2 * n), .pointer (some ⟨xb, 0, none⟩), .pointer (some ⟨eb, 0, none⟩), .pointer (some ⟨kb, 0, none⟩), .pointer (some ⟨sb, 0, none⟩), undef, undef, .int .i64 0, .pointer (some ⟨pb, 0, none⟩), .pointer (some ⟨nb, 0, none⟩), undef, undef, .slice (some ⟨rb, 0, none⟩) (2 * n) (2 * n), .int .u32 (n : Int), .slice (some ⟨rb, 0, none⟩) n (2 * n), .slice (some ⟨rb, 0, none⟩) (2 * n) (2 * n), .int .u32 (n : Int), .slice (some ⟨rb, n, none⟩) n n, undef, undef, undef, undef, undef, undef, undef, undef, undef, undef, undef, undef, undef, undef, undef, undef, undef, undef, undef, undef, undef, undef, undef, undef, undef, undef, undef, undef, undef, undef, undef, undef, undef], defers := [] })
  case h =>
    go_region_held3 (SR46 xb n) ((first | with_reducible exact HS.out | with_reducible exact HSa.out _ | with_reducible exact HSb.out _ _)) ((fail))
    · obtain ⟨a, b, c⟩ := twoBox w (.slice (some ⟨rb, 0, none⟩) n (2 * n)) (.slice (some ⟨rb, n, none⟩) n n)
      exact ⟨_, _, rfl, ⟨HR0.out.of (c.block _ hGl), a, b⟩, Ch.of c, by omega, by omega, by omega⟩
    · obtain ⟨a, b, c⟩ := twoBox w (.slice (some ⟨rb, n, none⟩) n n) (.slice (some ⟨rb, 0, none⟩) n (2 * n))
      exact ⟨_, _, rfl, ⟨HR0.out.of (c.block _ hGl), b, a⟩, Ch.of c, by omega, by omega, by omega⟩
  case hq =>
    rintro pb nb w1 ⟨hR1, hC1, hp1, hp2, hp3⟩
    have HD : Hid (pb ≠ rb ∧ nb ≠ rb ∧ pb ≠ nb ∧ pb ≠ qb ∧ nb ≠ qb ∧ rb ≠ qb ∧ pb ≠ xb) := ⟨by omega, by omega, by omega, by omega, by omega, by omega, by omega⟩
    have hx1 := (show Boxed w1 xb 22 (.int .u32 (n : Int)) from (hC1.block xb hxl (Ne.symm r9)).trans HXB.out).cell
    have HC1 := hide hC1
    have HR1 : Hid (Rj rb n m pb nb 0 n (2 * n) n (fun u => if u < 0 then fst s u else U0 u) (fun v => U0 (n + v)) w1) := hR1.ext (fun v _ => by rw [if_neg (by omega)]) (fun _ _ => rfl)
    have HPN : Hid (w.heap.size ≤ pb ∧ w.heap.size ≤ nb) := ⟨hp1, hp2⟩
    clear hR1 hC1 hp1 hp2 hp3 HS HSa HSb HR0 h2n hle hne2 hI0 hI1 hI2 hI3 hQl hGl hxl
    go_wp2_with (fail)
    clear hx1
    go_loopw [20] (fun t wr => ∃ v : Nat, v ≤ n ∧ t = .int .u32 v ∧ Hid (Rj rb n m pb nb 0 n (2 * n) n (fun u => if u < v then fst s u else U0 u) (fun v => U0 (n + v)) wr) ∧ Hid (Ch (fun k => k = rb) w wr)) (fun t _ => n - (intOf t).toNat)
    case atStart => exact ⟨0, Nat.zero_le _, rfl, HR1, HC1⟩
    case round =>
      clear HR1 HC1
      obtain ⟨v, hv, rfl, HR, HC⟩ := hrel
      by_cases cc : v < n
      · have hpb := HR.out.p
        have hT1 : Tb wr.drew := (HT.out.on HC.out (fun k hk => by omega)).of (fun k _ => rfl)
        have heb1 : Boxed wr eb 28 (.int .u64 s) := (HC.out.block eb hel (Ne.symm r7)).trans HEB.out
        have HS : Hid (SR46b pb eb rb 0 n (2 * n) s wr.drew) := ⟨hpb.cell, heb1.cell⟩
        have HS2 : Hid (∀ x : Value, SR46b pb eb rb 0 n (2 * n) s (wr.setCell ⟨rb, v, none⟩ x).drew) := fun x => ⟨(show Boxed (wr.setCell ⟨rb, v, none⟩ x).drew pb 32 _ from (Below.heap_setCell wr ⟨rb, v, none⟩ x pb HD.out.1).trans hpb).cell, (show Boxed (wr.setCell ⟨rb, v, none⟩ x).drew eb 28 _ from (Below.heap_setCell wr ⟨rb, v, none⟩ x eb (Ne.symm r7)).trans heb1).cell⟩
        have HM := hide (Rx.mix_any s (v : Int) s0 s1 (by omega) (by omega) wr.drew hT1.1)
        have mb := Rx.mix_b s (v : Int)
        have HO := hide (osn_any (Rx.mix s (v : Int)) mb.1 mb.2 wr.drew hT1.2)
        have hfz := HR.out.g.fz v
        have hcl := HR.out.g.p hm v cc
        rw [Nat.zero_add] at hcl
        have HE : Hid (Rj rb n m pb nb 0 n (2 * n) n (fun u => if u < v + 1 then fst s u else U0 u) (fun v => U0 (n + v)) (wr.setCell ⟨rb, v, none⟩ (.int .u64 (osn (Rx.mix s (v : Int))))).drew ∧ Ch (fun k => k = rb) w (wr.setCell ⟨rb, v, none⟩ (.int .u64 (osn (Rx.mix s (v : Int))))).drew) := by
          have h1 := HR.out.setp HD.out.1 HD.out.2.1 v cc (osn (Rx.mix s (v : Int)))
          rw [Nat.zero_add] at h1
          refine ⟨(h1.ext (fun u hu => ?_) (fun _ _ => rfl)).of rfl rfl rfl, (HC.out.set v _ (Or.inl rfl)).drew⟩
          by_cases e : u = v
          · subst e; rw [up_eq, if_pos (by omega)]; rfl
          · rw [up_ne _ _ _ _ e]
            by_cases e2 : u < v
            · rw [if_pos e2, if_pos (by omega)]
            · rw [if_neg e2, if_neg (by omega)]
        have HMB := hide mb
        clear HR HC hpb hT1 heb1 mb
        generalize osn (Rx.mix s (v : Int)) = y at *
        generalize Rx.mix s (v : Int) = x at *
        go_wp2_with (fail)
        go_region_held3 (SR46b pb eb rb 0 n (2 * n) s) ((first | with_reducible exact HS.out | with_reducible exact HS2.out _)) ((first | (go_at_call 48; refine HM.out.mono ?_; rintro e1 w1 ⟨rfl, rfl⟩) | (go_at_call 47; refine HO.out.mono ?_; rintro e1 w1 ⟨rfl, rfl⟩)))
        clear HS HS2 HM HO hfz hcl HMB
        go_wp2
        all_goals exact ⟨⟨v + 1, by omega, by go_num, HE.out.1, HE.out.2⟩, by simp [intOf]; omega⟩
      · have HR1 : Hid (Rj rb n m pb nb 0 n (2 * n) n (itr L (fst s) 0) (fun v => U0 (n + v)) wr) := HR.out.ext (fun u hu => by rw [if_pos (by omega)]; rfl) (fun _ _ => rfl)
        have HC1 := HC
        have hk1 := (show Boxed wr kb 3 (.int .i64 (r : Int)) from (HC.out.block kb hkl (Ne.symm r10)).trans HKB.out).cell
        clear HR HC
        go_wp2_with (fail)
        clear hk1
        go_loopw [32] (fun t wr => ∃ (k p q cp cq : Nat) (G : Nat → Int), k ≤ r ∧ t = .int .i64 k ∧ Hid (Rj rb n m pb nb p q cp cq (itr L (fst s) k) G wr) ∧ Hid (Ch (fun k => k = rb) w wr) ∧ Hid (1 ≤ k → fa n 0 L f = 0)) (fun t _ => r - (intOf t).toNat)
        case atStart => exact ⟨0, 0, n, 2 * n, n, _, Nat.zero_le _, rfl, HR1, HC1, fun h => by omega⟩
        case round =>
          clear HR1 HC1
          obtain ⟨k, p, q, cp, cq, G, hk, rfl, HR, HC, HE1⟩ := hrel
          by_cases cc2 : k < r
          · have hcl := copy_r n m rb p q cq cp (itr L (fst s) k) G hm wr HR.out.g
            obtain ⟨w2, hw2⟩ : ∃ w2, wr.setCells rb q ((List.range' 0 n).map (fun j => .int .u64 (itr L (fst s) k j))) = w2 := ⟨_, rfl⟩
            have hd := HD.out
            have hR2 : Rj rb n m pb nb p q cp cq (itr L (fst s) k) (itr L (fst s) k) w2 := by rw [← hw2]; exact HR.out.copied hd.1 hd.2.1
            have hC2 : Ch (fun k => k = rb) w w2 := by rw [← hw2]; exact Ch.cells (X := fun k => k = rb) rfl _ q HC.out
            have hpc := HR.out.p.cell
            have hqc := HR.out.q.cell
            have hQ2 := HQ.out.on hC2 (Ne.symm r6)
            have hF2 := HF.out.on hC2 (Ne.symm r1) (Ne.symm r2) (Ne.symm r3)
            have HWb := hide (itr_b L (fst_b s) k)
            have hnx : itr L (fst s) (k + 1) = pas (itr L (fst s) k) L := rfl
            have HNX := hide hnx
            have HFX : Hid (fa n 0 L f = 0 → (∀ v, v < n → itr L (fst s) k v = pas (itr L (fst s) k) L v) → itr L (fst s) r = itr L (fst s) k) := fun h0 he => itr_fix L (fst s) k r (pas_eq _ n L (fa_early hf0 h0) (fun v hv => (he v hv).symm)) hk
            clear hnx
            generalize itr L (fst s) k = P at *
            have hRl := hR2.g.lt
            have hpl := hR2.p.lt
            have hql := hR2.q.lt
            have hQl2 := hQ2.lt
            have HO := hide (over_any qb n g Bt Bf 49 0 (.slice (some ⟨sg, 0, none⟩) sn sc) #[.pointer (some ⟨nb, 0, none⟩), .pointer (some ⟨pb, 0, none⟩)] L f (fun k => k = rb) (fun pre W => Rj rb n m pb nb p q cp cq P (pas P pre) W ∧ Iq W qb n 0 (fe Bt Bf) (.slice (some ⟨sg, 0, none⟩) sn sc) none) (by decide) hlen w2 entersR49 hF2 (by omega) (by omega) (by omega) (fun k hk => by omega)
              (fun pre W h => ⟨none, h.2⟩)
              (fun pre W W' h hk => ⟨h.1.of (hk rb hRl) (hk pb hpl) (hk nb hql), (hk qb hQl2).trans h.2⟩)
              (fun pre e W hp hbad h hsz => by
                obtain ⟨a, b⟩ := h
                obtain ⟨hx, hy, _⟩ := bad_ok hbad
                refine (see49 n m rb p q nb pb cq cp P (pas P pre) e.1 e.2.1 e.2.2 hx hy hm (by omega) HWb.out (pas_b pre HWb.out) W a.g a.q a.p (Ne.symm hd.2.1) (Ne.symm hd.1)).mono ?_
                rintro e2 w3 ⟨hv, hro, hC⟩
                exact ⟨hv, ⟨⟨by rw [pas_app]; exact hro, (hC.block pb a.p.lt hd.1).trans a.p, (hC.block nb a.q.lt hd.2.1).trans a.q⟩, b.on hC (Ne.symm r6)⟩, hC⟩)
              ⟨hR2, hQ2⟩)
            have HC2 := hide hC2
            have HW2 := hide hw2
            clear hR2 hC2 hQ2 hF2 hw2 hRl hpl hql hQl2 HR HC hd
            go_wp2_with (fail)
            rw [HW2.out]
            refine HO.out.mono ?_
            rintro e2 w3 ⟨E, rfl, hE, hC3, hJ⟩
            have HC3 : Hid (Ch (fun k => k = rb) w w3) := HC2.out.trans hC3
            clear HO HC2 HW2 hcl hpc hqc hC3
            by_cases hE0 : E = 0
            · have hEb : (E != 0) = false := by simp [hE0]
              have HE0 : Hid (fa n 0 L f = 0) := by show _ = _; rw [← hE, hE0]
              have HR3 : Hid (Rj rb n m pb nb p q cp cq P (pas P L) w3) := by
                rcases hJ with ⟨_, a, _⟩ | ⟨h0, _⟩
                · exact a
                · exact absurd hE0 h0
              have hpc := HR3.out.p.cell
              have hqc := HR3.out.q.cell
              have HEq := hide (equal_any n m rb p q cp cq P (pas P L) hm (by omega) w3 HR3.out.g)
              clear hJ hE hE0
              go_wp2_with (fail)
              refine HEq.out.mono ?_
              rintro e3 w4 ⟨b, rfl, hb, hC4⟩
              have HR4 : Hid (Rj rb n m pb nb p q cp cq P (pas P L) w4) := HR3.out.on hC4 (fun h => h) (fun h => h) (fun h => h)
              have HC4 : Hid (Ch (fun k => k = rb) w w4) := HC3.out.trans (hC4.mono (fun _ _ h => h.elim))
              have HB := hide hb
              clear hb hC4 HR3 HC3 HEq hpc hqc
              cases b with
              | true =>
                have HI := hide (HFX.out HE0.out (HB.out.1 rfl))
                clear HB HFX HWb HNX
                obtain ⟨G9, hG9⟩ : ∃ G9, Rj rb n m pb nb p q cp cq (itr L (fst s) r) G9 w4 := ⟨_, by rw [HI.out]; exact HR4.out⟩
                have hQ9 := HQ.out.on HC4.out (Ne.symm r6)
                have hS9 := HSR.out.on HC4.out (Ne.symm r5)
                have hB9 : Boxed w4 sb 23 (.slice (some ⟨sg, 0, none⟩) sn sc) := (HC4.out.block sb HSB.out.lt (Ne.symm r4)).trans HSB.out
                have HRl := hide (rule_any qb n 1 52 0 (fe Bt Bf) (.slice (some ⟨sg, 0, none⟩) sn sc) none #[.pointer (some ⟨sb, 0, none⟩), .pointer (some ⟨pb, 0, none⟩)] (fun v => S v 0 != itr L (fst s) r v) (fun _ _ => False) (fun k => False) (fun W => Rj rb n m pb nb p q cp cq (itr L (fst s) r) G9 W ∧ Boxed W sb 23 (.slice (some ⟨sg, 0, none⟩) sn sc) ∧ SR W sg sn S) (by omega) w4 entersR52 hQ9 ⟨hG9, hB9, hS9⟩ (fun h => h)
                  (fun W W' h hC => by
                    obtain ⟨a, b, c⟩ := h
                    have hd := HD.out
                    exact ⟨a.on hC (by omega) (by omega) (by omega), (hC.block sb b.lt (fun e => q4 e.symm)).trans b, c.on hC (fun e => q5 e.symm)⟩)
                  (fun _ _ h => h)
                  (fun v W hv h hI => by
                    obtain ⟨a, b, c⟩ := h
                    refine (rule52 n m rb p q pb cp sb sg sn sc (itr L (fst s) r) G9 S v hv hs hm (by omega) W a.g a.p b c).mono ?_
                    rintro e3 w3 ⟨rfl, rfl⟩
                    exact ⟨rfl, ⟨a.of rfl rfl rfl, b, c.of rfl⟩, (Ch.refl _ _).drew⟩))
                have HC9 : Hid (Ch (fun k => k = rb ∨ k = qb) w w4) := HC4.out.mono (fun k _ h => Or.inl h)
                clear hG9 hQ9 hS9 hB9
                go_wp2_with (fail)
                refine HRl.out.mono ?_
                rintro e4 w4 ⟨⟨v4, rfl⟩, o', hL, hI4, hJ4, hC4⟩
                have HEnd : Hid (Iq w4 qb n 0 (fe Bt Bf) (.slice (some ⟨sg, 0, none⟩) sn sc) o' ∧ RR n m rb L f s r S 0 o' w4 ∧ Ch (fun k => k = rb ∨ k = qb) w w4) := ⟨hI4, ⟨HE0.out.symm, fun _ => hL.ext (fun v r => by simp), hJ4.1.g.sp⟩, HC9.out.trans (hC4.mono (fun k _ h => Or.inr (h.resolve_left id)))⟩
                clear hL hI4 hJ4 hC4 HRl HC9
                go_wp2
                all_goals go_ret
                all_goals exact ⟨0, o', rfl, HEnd.out⟩
              | false =>
                have hpc := HR4.out.p.cell
                have hqc := HR4.out.q.cell
                have hpf := HR4.out.p.frozen
                have hqf := HR4.out.q.frozen
                have hd := HD.out
                have hpq : (w4.setCell ⟨pb, 0, none⟩ (.slice (some ⟨rb, q, none⟩) n cq)).frozen? ⟨nb, 0, none⟩ = false := (show Boxed (w4.setCell ⟨pb, 0, none⟩ (.slice (some ⟨rb, q, none⟩) n cq)) nb 32 _ from (Below.heap_setCell _ _ _ _ (Ne.symm hd.2.2.1)).trans HR4.out.q).frozen
                have hpk : (w4.setCell ⟨pb, 0, none⟩ (.slice (some ⟨rb, q, none⟩) n cq)).cell? ⟨nb, 0, none⟩ = some (.slice (some ⟨rb, q, none⟩) n cq) := (show Boxed (w4.setCell ⟨pb, 0, none⟩ (.slice (some ⟨rb, q, none⟩) n cq)) nb 32 _ from (Below.heap_setCell _ _ _ _ (Ne.symm hd.2.2.1)).trans HR4.out.q).cell
                have HR5 := hide (HR4.out.swapped hd.1 hd.2.1 hd.2.2.1)
                have HC5 : Hid (Ch (fun k => k = rb) w ((w4.setCell ⟨pb, 0, none⟩ (.slice (some ⟨rb, q, none⟩) n cq)).setCell ⟨nb, 0, none⟩ (.slice (some ⟨rb, p, none⟩) n cp))) := (HC4.out.set 0 _ (Or.inr HPN.out.1)).set 0 _ (Or.inr HPN.out.2)
                clear HR4 HC4 HB HFX HWb hd
                go_wp2
                all_goals exact ⟨⟨k + 1, q, p, cq, cp, P, by omega, by go_num, by show Rj _ _ _ _ _ _ _ _ _ _ _ _; rw [HNX.out]; exact HR5.out, HC5, fun _ => HE0.out⟩, by simp [intOf]; omega⟩
            · have hEb : (E != 0) = true := by simp [hE0]
              have HEnd : Hid (Iq w3 qb n 0 (fe Bt Bf) (.slice (some ⟨sg, 0, none⟩) sn sc) none ∧ RR n m rb L f s r S E none w3 ∧ Ch (fun k => k = rb ∨ k = qb) w w3) := by
                rcases hJ with ⟨h0, _⟩ | ⟨_, pre, a, b⟩
                · exact absurd h0 hE0
                · exact ⟨b, ⟨hE, fun h => absurd h hE0, a.g.sp⟩, HC3.out.mono (fun k _ h => Or.inl h)⟩
              clear hJ hE HC3 HFX HWb HNX
              go_wp2
              all_goals go_ret
              all_goals exact ⟨E, none, rfl, HEnd.out⟩
          · have hkr : k = r := by omega
            subst hkr
            have HE0 := hide (HE1.out hr1)
            have HRk := HR
            have HCk := HC
            clear HR HC HE1
            obtain ⟨G9, hG9⟩ : ∃ G9, Rj rb n m pb nb p q cp cq (itr L (fst s) k) G9 wr := ⟨_, HRk.out⟩
            have hQ9 := HQ.out.on HCk.out (Ne.symm r6)
            have hS9 := HSR.out.on HCk.out (Ne.symm r5)
            have hB9 : Boxed wr sb 23 (.slice (some ⟨sg, 0, none⟩) sn sc) := (HCk.out.block sb HSB.out.lt (Ne.symm r4)).trans HSB.out
            have HRl := hide (rule_any qb n 1 52 0 (fe Bt Bf) (.slice (some ⟨sg, 0, none⟩) sn sc) none #[.pointer (some ⟨sb, 0, none⟩), .pointer (some ⟨pb, 0, none⟩)] (fun v => S v 0 != itr L (fst s) k v) (fun _ _ => False) (fun k => False) (fun W => Rj rb n m pb nb p q cp cq (itr L (fst s) k) G9 W ∧ Boxed W sb 23 (.slice (some ⟨sg, 0, none⟩) sn sc) ∧ SR W sg sn S) (by omega) wr entersR52 hQ9 ⟨hG9, hB9, hS9⟩ (fun h => h)
              (fun W W' h hC => by
                obtain ⟨a, b, c⟩ := h
                have hd := HD.out
                exact ⟨a.on hC (by omega) (by omega) (by omega), (hC.block sb b.lt (fun e => q4 e.symm)).trans b, c.on hC (fun e => q5 e.symm)⟩)
              (fun _ _ h => h)
              (fun v W hv h hI => by
                obtain ⟨a, b, c⟩ := h
                refine (rule52 n m rb p q pb cp sb sg sn sc (itr L (fst s) k) G9 S v hv hs hm (by omega) W a.g a.p b c).mono ?_
                rintro e3 w3 ⟨rfl, rfl⟩
                exact ⟨rfl, ⟨a.of rfl rfl rfl, b, c.of rfl⟩, (Ch.refl _ _).drew⟩))
            have HC9 : Hid (Ch (fun k => k = rb ∨ k = qb) w wr) := HCk.out.mono (fun k _ h => Or.inl h)
            clear hG9 hQ9 hS9 hB9
            go_wp2_with (fail)
            refine HRl.out.mono ?_
            rintro e4 w4 ⟨⟨v4, rfl⟩, o', hL, hI4, hJ4, hC4⟩
            have HEnd : Hid (Iq w4 qb n 0 (fe Bt Bf) (.slice (some ⟨sg, 0, none⟩) sn sc) o' ∧ RR n m rb L f s k S 0 o' w4 ∧ Ch (fun k => k = rb ∨ k = qb) w w4) := ⟨hI4, ⟨HE0.out.symm, fun _ => hL.ext (fun v r => by simp), hJ4.1.g.sp⟩, HC9.out.trans (hC4.mono (fun k _ h => Or.inr (h.resolve_left id)))⟩
            clear hL hI4 hJ4 hC4 HRl HC9
            go_wp2
            all_goals go_ret
            all_goals exact ⟨0, o', rfl, HEnd.out⟩
end Au
end Go.Proofs.YtgoigcpdfecfhaaGreatDoor
