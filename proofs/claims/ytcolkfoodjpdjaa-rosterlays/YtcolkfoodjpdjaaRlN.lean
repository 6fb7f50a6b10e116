import Derived.Test.YtcolkfoodjpdjaaRlM
namespace Go.Proofs.Ytcolkfoodjpdjaa
namespace Rl
open Go.RowKit Ra
set_option linter.unusedVariables false
/-- What lies while two lists are laid over one another. -/
structure LW (a b : Option Addr) (l m : Nat) (D O : Nat → Dt) (x y kx ky Bw : Nat) (vw : Value) (R : List Sc) (xw : List Value) (W : World) : Prop where
  un : SRow W a l D
  ov : SRow W b m O
  t : TAt W ⟨x, 0, none⟩ l kx D
  u : TAt W ⟨y, 0, none⟩ m ky O
  w : SL W Bw vw R xw
theorem LW.on {a b : Option Addr} {l m : Nat} {D O : Nat → Dt} {x y kx ky Bw : Nat} {vw : Value} {R : List Sc} {xw : List Value} {W W' : World} (h : LW a b l m D O x y kx ky Bw vw R xw W) (hb : Below W.heap.size W W') : LW a b l m D O x y kx ky Bw vw R xw W' :=
  ⟨h.un.on hb, h.ov.on hb, h.t.on hb, h.u.on hb, h.w.on hb⟩
set_option maxHeartbeats 3200000 in
set_option maxRecDepth 8000 in
theorem law_any (a b : Option Addr) (l c m d : Nat) (D O : Nat → Dt) (w : World) (hl : l ≤ 9223372036854775807) (hm : m ≤ 9223372036854775807) (hb1 : ∀ i, i < l → (D i).l ≤ 140737488351232) (hb2 : ∀ i, i < m → (O i).l ≤ 140737488351232) (hD : Bd D l) (hO : Bd O m) (h1 : SRow w a l D) (h2 : SRow w b m O) :
    Calls Try.prog 4 #[.slice a l c, .slice b m d] w fun e w' => e = .returned (.bool true) ∧ Below w.heap.size w w' := by
  have H1 : Hid (SRow w a l D) := h1
  have H2 : Hid (SRow w b m O) := h2
  have HV1 := hid (vast_any a l c D w hl hb1 h1)
  have HV2 := hid (vast_any b m d O w hm hb2 h2)
  clear h1 h2
  go_enter Try.func4, Try.ntmps4
  go_wp2_with (fail)
  refine HV1.out.mono ?_
  rintro e1 w1 ⟨hw1, (rfl | ⟨rfl, hc1⟩)⟩
  · subst w1
    go_wp2
    go_ret
    exact ⟨rfl, Below.refl _ _⟩
  · subst w1
    clear HV1
    go_wp2_with (fail)
    refine HV2.out.mono ?_
    rintro e2 w2 ⟨hw2, (rfl | ⟨rfl, hc2⟩)⟩
    · subst w2
      go_wp2
      go_ret
      exact ⟨rfl, Below.refl _ _⟩
    · subst w2
      clear HV2
      go_wp2_with (fail)
      refine (twin_any a l c D w hc1 H1.out).mono ?_
      rintro e3 w3 ⟨x, kx, rfl, hT, hB3⟩
      go_wp2_with (fail)
      refine (twin_any b m d O w3 hc2 (H2.out.on hB3)).mono ?_
      rintro e4 w4 ⟨y, ky, rfl, hU, hB4⟩
      have hB34 := hB3.trans (hB4.mono hB3.size)
      go_wp2_with (fail)
      refine (rlay_any a b l c m d D O w4 hc1 hc2 (H1.out.on hB34) (H2.out.on hB34)).mono ?_
      rintro e5 w5 ⟨vw, xw, rfl, hW, hB5⟩
      have hB35 := hB34.trans (hB5.mono hB34.size)
      have HL : Hid (LW a b l m D O x y kx ky w4.heap.size vw (layS D l O m) xw w5) := ⟨H1.out.on hB35, H2.out.on hB35, hT.on (hB4.trans (hB5.mono hB4.size)), hU.on hB5, hW⟩
      have HB5 := hid hB35
      have hlen := lay_lens D O l m hc1 hc2
      have hcl := cnt_ge D l
      have hcm := cnt_ge O m
      obtain ⟨R, HR⟩ : ∃ R, Hid (layS D l O m = R) := ⟨_, rfl⟩
      rw [HR.out] at HL hlen
      have HLAY : Hid (∀ W, Below w5.heap.size w5 W → Calls Try.prog 11 #[.slice (some ⟨x, 0, none⟩) l kx, .slice (some ⟨y, 0, none⟩) m ky] W fun e w' => ∃ v xs, e = .returned v ∧ SL w' W.heap.size v R xs ∧ Below W.heap.size W w') := fun W hW => by
        have h9 := lay_any (some ⟨x, 0, none⟩) (some ⟨y, 0, none⟩) l kx m ky D O W hc1 hc2 hD hO (fun _ => ⟨_, rfl, (HL.out.on hW).t.row⟩) (fun _ => ⟨_, rfl, (HL.out.on hW).u.row⟩)
        rw [HR.out] at h9; exact h9
      have HUT : Hid (∀ W, Below w5.heap.size w5 W → Calls Try.prog 9 #[.slice (some ⟨x, 0, none⟩) l kx, .slice a l c] W fun e w' => Below W.heap.size W w' ∧ e = .returned (.bool true)) := fun W hW => untouched_any ⟨x, 0, none⟩ a l kx c D W (by omega) (fun i hi => by have := cnt_at D hi; omega) (HL.out.on hW).t (HL.out.on hW).un
      have HUU : Hid (∀ W, Below w5.heap.size w5 W → Calls Try.prog 9 #[.slice (some ⟨y, 0, none⟩) m ky, .slice b m d] W fun e w' => Below W.heap.size W w' ∧ e = .returned (.bool true)) := fun W hW => untouched_any ⟨y, 0, none⟩ b m ky d O W (by omega) (fun i hi => by have := cnt_at O hi; omega) (HL.out.on hW).u (HL.out.on hW).ov
      have HSM : Hid (∀ W B v xs, Below w5.heap.size w5 W → SL W B v R xs → Calls Try.prog 12 #[v, vw] W fun e w' => Below W.heap.size W w' ∧ e = .returned (.bool true)) := fun W B v xs hW hv => by
        obtain ⟨a1, c1, rfl, r1⟩ := hv.row
        obtain ⟨a2, c2, e2, r2⟩ := (HL.out.on hW).w.row
        rw [e2]
        exact same_any a1 a2 R.length c1 c2 (toD R) W (by omega) (toD_len hlen.2) r1 r2
      clear hT hU hW hB3 hB4 hB34 hB5 hB35 H1 H2
      go_wp2_with (fail)
      refine (HLAY.out _ (Below.refl _ _)).mono ?_
      rintro e6 w6 ⟨va, xa, rfl, hSa, hB6⟩
      go_wp2_with (fail)
      refine (HLAY.out _ hB6).mono ?_
      rintro e7 w7 ⟨vb, xb, rfl, hSb, hB7⟩
      have hs5 := hB6.size
      have hs6 := hB7.size
      have hB57 := hB6.trans (hB7.mono hs5)
      go_wp2_with (fail)
      refine (HSM.out _ _ va xa hB57 (hSa.on hB7)).mono ?_
      rintro e8 w8 ⟨hB8, rfl⟩
      have hB58 := hB57.trans (hB8.mono hB57.size)
      go_wp2_with (fail)
      refine (HSM.out _ _ vb xb hB58 (hSb.on hB8)).mono ?_
      rintro e9 w9 ⟨hB9, rfl⟩
      have hB59 := hB58.trans (hB9.mono hB58.size)
      go_wp2_with (fail)
      refine (HUT.out _ hB59).mono ?_
      rintro e10 w10 ⟨hB10, rfl⟩
      have hB510 := hB59.trans (hB10.mono hB59.size)
      go_wp2_with (fail)
      refine (HUU.out _ hB510).mono ?_
      rintro e11 w11 ⟨hB11, rfl⟩
      have hB511 := hB510.trans (hB11.mono hB510.size)
      have hB8' := (hB8.trans (hB9.mono hB8.size))
      have hB9' := hB8'.trans (hB10.mono hB8'.size)
      have hB711 := hB9'.trans (hB11.mono hB9'.size)
      have hB611 := hB7.trans (hB711.mono hs6)
      have hSa11 := hSa.on hB611
      have hSb11 := hSb.on hB711
      clear hB8 hB9 hB10 hB11 hB8' hB9' hB58 hB59 hB510
      go_wp2_with (fail)
      refine (spoil_any hSa hSa11 hlen).mono ?_
      rintro e12 w12 ⟨rfl, hK12⟩
      have hB512 : Below w5.heap.size w5 w12 := hB511.trans (hK12.below hB511.size)
      have hSb12 := hSb11.kp hK12 (Nat.le_refl _)
      go_wp2_with (fail)
      refine (HSM.out _ _ vb xb hB512 hSb12).mono ?_
      rintro e13 w13 ⟨hB13, rfl⟩
      have hB513 := hB512.trans (hB13.mono hB512.size)
      go_wp2_with (fail)
      refine (HUT.out _ hB513).mono ?_
      rintro e14 w14 ⟨hB14, rfl⟩
      have hB514 := hB513.trans (hB14.mono hB513.size)
      go_wp2_with (fail)
      refine (HUU.out _ hB514).mono ?_
      rintro e15 w15 ⟨hB15, rfl⟩
      have hB515 := hB514.trans (hB15.mono hB514.size)
      have hB13' := hB13.trans (hB14.mono hB13.size)
      have hSb15 := hSb12.on (hB13'.trans (hB15.mono hB13'.size))
      go_wp2_with (fail)
      refine (spoil_any hSb hSb15 hlen).mono ?_
      rintro e16 w16 ⟨rfl, hK16⟩
      have hB516 : Below w5.heap.size w5 w16 := hB515.trans ((hK16.below (by have h8 := hK12.size; have h7 := hB711.size; have h6 := hB13.size; have h5 := hB14.size; have h4 := hB15.size; omega)).mono hs5)
      go_wp2_with (fail)
      refine (HLAY.out _ hB516).mono ?_
      rintro e17 w17 ⟨vc, xc, rfl, hSc, hB17⟩
      have hB517 := hB516.trans (hB17.mono hB516.size)
      go_wp2_with (fail)
      refine (HSM.out _ _ vc xc hB517 hSc).mono ?_
      rintro e18 w18 ⟨hB18, rfl⟩
      have hB518 := hB517.trans (hB18.mono hB517.size)
      go_wp2_with (fail)
      refine (HUT.out _ hB518).mono ?_
      rintro e19 w19 ⟨hB19, rfl⟩
      have hB519 := hB518.trans (hB19.mono hB518.size)
      go_wp2_with (fail)
      refine (HUU.out _ hB519).mono ?_
      rintro e20 w20 ⟨hB20, rfl⟩
      have hB520 := hB519.trans (hB20.mono hB519.size)
      go_wp2
      go_ret
      exact ⟨rfl, HB5.out.trans (hB520.mono HB5.out.size)⟩
end Rl
end Go.Proofs.Ytcolkfoodjpdjaa
