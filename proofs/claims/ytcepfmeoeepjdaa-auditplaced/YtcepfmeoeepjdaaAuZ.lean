import Derived.Test.YtcepfmeoeepjdaaAuY
namespace Go.Proofs.Ytcepfmeoeepjdaa
namespace Au
open Go.RowKit
set_option linter.unusedVariables false
set_option maxRecDepth 8000
/-- What a word of a block is. -/
def cw (W : World) (b o v : Nat) : Int := match W.cell? ⟨b, o + v, none⟩ with | some (.int _ x) => x | _ => 0
theorem an_ext {p q : Nat → Bool} {n : Nat} (h : ∀ v, v < n → p v = q v) : an p n = an q n := by
  induction n with
  | zero => rfl
  | succ n ih => simp only [an]; rw [ih (fun v hv => h v (by omega)), h n (by omega)]
theorem lf_ext {C C' : Nat → Int} {n : Nat} (h : ∀ v, v < n → C v = C' v) : lf C n = lf C' n := by
  induction n with
  | zero => rfl
  | succ n ih =>
    have h1 : lb C n = lb C' n := by unfold lb; rw [h n (by omega)]
    simp only [lf]; rw [ih (fun v hv => h v (by omega)), h1]
theorem Pr.cwd {W : World} {rb n m : Nat} {D C : Nat → Int} (h : Pr W rb n m D C) (hm : 2 * n ≤ m) (v : Nat) (hv : v < n) : cw W rb 0 v = D v := by
  unfold cw; rw [Nat.zero_add, h.d hm v hv]
theorem Pr.cwc {W : World} {rb n m : Nat} {D C : Nat → Int} (h : Pr W rb n m D C) (hm : 2 * n ≤ m) (v : Nat) (hv : v < n) : cw W rb n v = C v := by
  unfold cw; rw [h.c hm v hv]
theorem Pr.lfw {W : World} {rb n m : Nat} {D C : Nat → Int} (h : Pr W rb n m D C) (hm : 2 * n ≤ m) : lf (cw W rb n) n = lf C n := lf_ext (fun v hv => h.cwc hm v hv)
theorem Pr.tkw {W : World} {rb n m : Nat} {D C : Nat → Int} (h : Pr W rb n m D C) (hm : 2 * n ≤ m) (k : Int) : an (tk (cw W rb 0) (cw W rb n) k) n = an (tk D C k) n := an_ext (fun v hv => by unfold tk lb; rw [h.cwd hm v hv, h.cwc hm v hv])
theorem kne {k : Int} {l : Nat} (h : k ≤ 2 * (l : Int)) (hl : l ≤ 140737488351232) : k ≠ NN := by show k ≠ 18446744073709551615; omega
theorem nC_none {D C : Nat → Int} {k : Int} {n : Nat} (h : an (tk D C k) n = false) (v : Nat) (hv : v < n) : nC D C k v = C v := by unfold nC; rw [if_neg (by simp [an_false.1 h v hv])]
theorem lt2 {a b : Nat} (h : a = 0) (h' : b = 1) : a < b := by omega
/-- What peel holds. -/
def Pz (W w : World) (n m rb qb Bt Bf g pb : Nat) (L : List T3) (f : Int) (sl : Value) (o : Vd) : Prop := Iq W qb n 0 (fe Bt Bf) sl o ∧ Fd W g Bt Bf L f ∧ Pb W pb qb rb n ∧ Ch (fun k => k = rb) w W
theorem Pz.ch {W W' w : World} {n m rb qb Bt Bf g pb : Nat} {L : List T3} {f : Int} {sl : Value} {o : Vd} (h : Pz W w n m rb qb Bt Bf g pb L f sl o) (hc : Ch (fun k => k = rb) W W') (r1 : rb ≠ g) (r2 : rb ≠ Bt) (r3 : rb ≠ Bf) (r6 : rb ≠ qb) (r7 : rb ≠ pb) : Pz W' w n m rb qb Bt Bf g pb L f sl o :=
  ⟨h.1.on hc (fun e => r6 e.symm), h.2.1.on hc (fun e => r1 e.symm) (fun e => r2 e.symm) (fun e => r3 e.symm), (hc.block _ h.2.2.1.lt (fun e => r7 e.symm)).trans h.2.2.1, h.2.2.2.trans hc⟩
set_option maxHeartbeats 8000000 in
theorem peel_any (n m rb qb Bt Bf g : Nat) (D C : Nat → Int) (L : List T3) (f : Int) (sl : Value) (o : Vd) (hm : 2 * n ≤ m) (hn0 : 0 < n) (hn : n ≤ 5000) (hlen : L.length ≤ 140737488351232) (w : World)
    (h : Pr w rb n m D C) (hQ : Iq w qb n 0 (fe Bt Bf) sl o) (hF : Fd w g Bt Bf L f) (r1 : rb ≠ g) (r2 : rb ≠ Bt) (r3 : rb ≠ Bf) (r6 : rb ≠ qb) :
    Calls Try.prog 56 #[.agg (pv qb rb n)] w fun e w' => ∃ E, e = .returned (.int .i64 E) ∧ E = fa n 0 L f ∧ Ch (fun k => k = rb) w w' ∧ (E = 0 → ∃ t D', an (lb (it n L t).1) n = false ∧ Pr w' rb n m D' (it n L t).1) ∧ ∃ D' C', Pr w' rb n m D' C' := by
  have hlt := h.lt
  have r7 : rb ≠ w.heap.size := by omega
  obtain ⟨w0, hw0⟩ : ∃ w0, w.alloc (.cells (pv qb rb n) 91) = w0 := ⟨_, rfl⟩
  have hB : Below w.heap.size w w0 := by rw [← hw0]; exact b1 _ _ _
  have hb0 : Pb w0 w.heap.size qb rb n := by rw [← hw0]; exact at0 _ _
  have HZ0 : Hid (Pz w0 w n m rb qb Bt Bf g w.heap.size L f sl o) := ⟨hQ.on (Ch.of (X := fun _ => False) hB) (fun h => h), hF.on (Ch.of (X := fun _ => False) hB) (fun h => h) (fun h => h) (fun h => h), hb0, Ch.of hB⟩
  have HFi := hide (fillc_any n m rb D C 18446744073709551615 hm hn w0 (h.of (hB.block _ hlt)))
  obtain ⟨p0, p1, p2⟩ := hb0.k
  rw [← hw0] at p2
  have HW0 := hide hw0
  have HIk := hide (it_k n L hlen)
  clear h hQ hF hB hb0 hw0 p0 p1
  go_enter Try.func56, Try.ntmps56
  go_wp2_with (fail)
  go_step3
  go_wp2_with (fail)
  rw [HW0.out]
  refine HFi.out.mono ?_
  rintro e1 w1 ⟨⟨v1, rfl⟩, hP1, hC1⟩
  have HP1 := hide hP1
  have HZ1 := hide (HZ0.out.ch hC1 r1 r2 r3 r6 r7)
  clear hP1 hC1 HFi HZ0 HW0 p2
  go_wp2_with (fail)
  go_step3
  go_wp2_with (fail)
  go_loopw [3] (fun u wr => ∃ (t : Nat) (D' : Nat → Int), u = .int .u64 (it n L t).2 ∧ Hid (Pr wr rb n m D' (it n L t).1) ∧ Hid (Pz wr w n m rb qb Bt Bf g w.heap.size L f sl o)) (fun _ wr => lf (cw wr rb n) n)
  case atStart => exact ⟨0, D, rfl, HP1, HZ1⟩
  case round =>
    clear HP1 HZ1
    obtain ⟨t, D', rfl, HP, HZ⟩ := hrel
    obtain ⟨p0, p1, p2⟩ := HZ.out.2.2.1.k
    have HCt := hide (count_any n m rb qb Bt Bf g D' (it n L t).1 L f sl o hm hn0 hn hlen wr HP.out HZ.out.1 HZ.out.2.1 r1 r2 r3 r6)
    have HL0 := hide (HP.out.lfw hm)
    obtain ⟨l0, hl0⟩ : ∃ l0, lf (cw wr rb n) n = l0 := ⟨_, rfl⟩
    rw [hl0] at HL0
    have Hl0 := hide hl0
    clear hl0
    obtain ⟨kk, hkk⟩ : ∃ kk, (it n L t).2 = kk := ⟨_, rfl⟩
    have HKK := hide hkk
    rw [hkk]
    clear hkk
    go_wp2_with (fail)
    refine HCt.out.mono ?_
    rintro e2 w2 ⟨E, rfl, hE, hC2, hPE, hPx⟩
    have HZ2 := hide (HZ.out.ch hC2 r1 r2 r3 r6 r7)
    have HE := hide hE
    clear hE HCt p0 p1 p2
    by_cases hE0 : E = 0
    · have hEb : (E != 0) = false := by simpa using hE0
      have HP2 := hide (hPE hE0)
      have HE0 := hide hE0
      clear hPE hPx hC2 hE0
      go_wp2_with (fail)
      have HKK2 := HKK
      go_loopw [3] (fun u wr' => ∃ (t' : Nat), u = .int .u64 (it n L t').2 ∧ Hid (Pr wr' rb n m (dI L (it n L t').1) (it n L t').1) ∧ Hid (Pz wr' w n m rb qb Bt Bf g w.heap.size L f sl o) ∧ Hid (l0 = lf (it n L t').1 n)) (fun u wr' => if an (tk (cw wr' rb 0) (cw wr' rb n) (intOf u)) n = true then 0 else 1)
      case atStart => exact ⟨t, by rw [HKK.out], HP2, HZ2, HL0⟩
      case round =>
        clear HP2 HZ2 HKK2
        obtain ⟨t', rfl, HPi, HZi, HLi⟩ := hrel
        obtain ⟨p0, p1, p2⟩ := HZi.out.2.2.1.k
        have HT := hide (take_any n m rb qb (dI L (it n L t').1) (it n L t').1 (it n L t').2 hm hn wr HPi.out)
        have HTw := hide (HPi.out.tkw hm (it n L t').2)
        have hkb := HIk.out t'
        obtain ⟨k', hk'⟩ : ∃ k', (it n L t').2 = k' := ⟨_, rfl⟩
        rw [hk'] at HT HTw hkb ⊢
        have HK' := hide hk'
        have HKB := hide hkb
        clear hk' hkb
        cases hta : an (tk (dI L (it n L t').1) (it n L t').1 k') n with
        | true =>
          have HS : Hid (it n L (t' + 1) = (nC (dI L (it n L t').1) (it n L t').1 k', k')) := by
            show stp n L (it n L t') = _
            rw [stp_take (by rw [HK'.out]; exact hta), HK'.out]
          have HLt : Hid (lf (nC (dI L (it n L t').1) (it n L t').1 k') n < l0) := by
            show _ < _
            rw [HLi.out]; exact lf_lt (kne HKB.out.2 hlen) n hta
          rw [hta] at HT
          clear hta
          go_wp2_with (fail)
          refine HT.out.mono ?_
          rintro e3 w3 ⟨rfl, hP3, hC3⟩
          have HM : Hid (lf (cw w3 rb n) n < l0) := by
            show _ < _
            rw [hP3.lfw hm]; exact HLt.out
          have HZ3 := hide (HZi.out.ch hC3 r1 r2 r3 r6 r7)
          have HP3 := hide hP3
          clear hP3 hC3 HT HZi HPi p0 p1 p2
          go_wp2
          have HP4 : Hid (Pr w3 rb n m (dI L (it n L t').1) (it n L (t' + 1)).1) := by
            show Pr _ _ _ _ _ _
            rw [HS.out]; exact HP3.out
          exact ⟨⟨t' + 1, _, by rw [HS.out], HP4, HZ3⟩, by rw [Hl0.out]; exact HM.out⟩
        | false =>
          have HTf := hide hta
          rw [hta] at HT
          clear hta
          go_wp2_with (fail)
          refine HT.out.mono ?_
          rintro e3 w3 ⟨rfl, hP3', hC3⟩
          have hP3 : Pr w3 rb n m (dI L (it n L t').1) (it n L t').1 := hP3'.ext (fun _ _ => rfl) (fun v hv => nC_none HTf.out v hv)
          have hZ3 := HZi.out.ch hC3 r1 r2 r3 r6 r7
          have HLs := hide (least_any n m rb qb (dI L (it n L t').1) (it n L t').1 hm hn w3 hP3)
          obtain ⟨q0, q1, q2⟩ := hZ3.2.2.1.k
          have HP3 := hide hP3
          have HZ3 := hide hZ3
          clear hP3' hP3 hC3 HT HZi HPi p0 p1 p2 hZ3
          go_wp2_with (fail)
          refine HLs.out.mono ?_
          rintro e4 w4 ⟨rfl, hB4⟩
          have hC4 : Ch (fun k => k = rb) w3 w4 := Ch.of hB4
          have HP4 := hide (HP3.out.of (hB4.block _ HP3.out.lt))
          have HZ4 := hide (HZ3.out.ch hC4 r1 r2 r3 r6 r7)
          clear hB4 hC4 HLs HP3 HZ3 q0 q1 q2
          cases hlb : an (lb (it n L t').1) n with
          | false =>
            have HEnd : Hid (Ch (fun k => k = rb) w w4 ∧ (∃ t D', an (lb (it n L t).1) n = false ∧ Pr w4 rb n m D' (it n L t).1) ∧ ∃ D' C', Pr w4 rb n m D' C') := ⟨HZ4.out.2.2.2, ⟨t', _, hlb, HP4.out⟩, _, _, HP4.out⟩
            clear hlb
            go_wp2
            simp only [Exit.noGoto]
            go_ret
            have h0 : (0 : Int) = fa n 0 L f := by rw [← HE.out]; exact HE0.out.symm
            exact ⟨0, rfl, h0, HEnd.out.1, fun _ => HEnd.out.2.1, HEnd.out.2.2⟩
          | true =>
            have hdb : ∀ v, v < n → dI L (it n L t').1 v < NN := fun v _ => Int.lt_of_le_of_lt (dI_b L (it n L t').1 v).2 (by show 2 * (L.length : Int) < 18446744073709551615; omega)
            have HS : Hid (it n L (t' + 1) = ((it n L t').1, ls (dI L (it n L t').1) (it n L t').1 n)) := by
              show stp n L (it n L t') = _
              exact stp_least (by rw [HK'.out]; exact HTf.out) hlb
            have HT2 := hide (tk_ls hlb hdb)
            have HTw4 := hide (HP4.out.tkw hm (ls (dI L (it n L t').1) (it n L t').1 n))
            clear hlb hdb
            go_wp2
            have HP5 : Hid (Pr w4 rb n m (dI L (it n L (t' + 1)).1) (it n L (t' + 1)).1) := by
              show Pr _ _ _ _ _ _
              rw [HS.out]; exact HP4.out
            have HL5 : Hid (l0 = lf (it n L (t' + 1)).1 n) := by
              show _ = _
              rw [HS.out]; exact HLi.out
            refine ⟨⟨t' + 1, by rw [HS.out], HP5, HZ4, HL5⟩, ?_⟩
            have h8 := HTw.out.trans HTf.out
            have h7 := HTw4.out.trans HT2.out
            have e1 : ∀ (p : Bool), p = true → (if p = true then 0 else 1) = 0 := fun p hp => if_pos hp
            have e2 : ∀ (p : Bool), p = false → (if p = true then 0 else 1) = 1 := fun p hp => if_neg (by rw [hp]; simp)
            have h5 := e1 _ h7
            have h6 := e2 _ h8
            exact lt2 h5 h6
    · have hEb : (E != 0) = true := by simpa using hE0
      have HEnd : Hid (Ch (fun k => k = rb) w w2 ∧ ∃ D' C', Pr w2 rb n m D' C') := ⟨HZ2.out.2.2.2, by obtain ⟨d, hd⟩ := hPx; exact ⟨d, _, hd⟩⟩
      have HE1 := hide hE0
      clear hPE hPx hC2 hE0
      go_wp2
      simp only [Exit.noGoto]
      go_ret
      exact ⟨E, rfl, HE.out, HEnd.out.1, fun h0 => absurd h0 HE1.out, HEnd.out.2⟩
end Au
end Go.Proofs.Ytcepfmeoeepjdaa
