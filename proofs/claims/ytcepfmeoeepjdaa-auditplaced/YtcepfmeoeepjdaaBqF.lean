import Derived.Test.YtcepfmeoeepjdaaBqE
namespace Go.Proofs.Ytcepfmeoeepjdaa
namespace Au
open Go.RowKit
set_option linter.unusedVariables false
set_option maxRecDepth 8000
theorem wr1 (n : Nat) (h : n ≤ 60) : wrap64 (n : Int) = n := by unfold wrap64; omega
theorem wr2 (n : Nat) (h : n ≤ 60) : wrap64 (2 * (n : Int)) = 2 * (n : Int) := by unfold wrap64; omega
/-- The three rounds' frame with the states known. -/
def Ps (w : World) (n sg rb lb kb tb : Nat) (ea : Option Addr) (M : List T3) (ro K T : Nat → Int) (S : Nat → Nat → Int) (W : World) : Prop := Pl w W n sg rb lb kb tb ea M ro K T ∧ SR W sg n S
theorem Ps.bel {w : World} {n sg rb lb kb tb : Nat} {ea : Option Addr} {M : List T3} {ro K T : Nat → Int} {S : Nat → Nat → Int} {W W' : World} (h : Ps w n sg rb lb kb tb ea M ro K T S W) (hb : Below W.heap.size W W') : Ps w n sg rb lb kb tb ea M ro K T S W' := ⟨h.1.bel hb, h.2.of (hb.block _ h.2.lt)⟩
theorem Ps.aud {w : World} {n sg rb lb kb tb : Nat} {ea : Option Addr} {M : List T3} {ro K T : Nat → Int} {S : Nat → Nat → Int} {W W' : World} (h : Ps w n sg rb lb kb tb ea M ro K T S W) (d : Pd9 w sg rb lb kb tb ea M) (hc : Ch (fun k => k = rb) W W') (hu : ∃ U, GU W' rb (2 * n) U) : Ps w n sg rb lb kb tb ea M ro K T S W' := ⟨h.1.aud d hc hu, h.2.of (hc.block _ h.2.lt (fun q => d.d1 q.symm))⟩
/-- A verdict that lies in a block. -/
def Ver (W : World) (k : Nat) (o : Vd) : Prop := W.heap[k]? = some (.cells #[.bool (vR o), .int .u32 (vV o), .int .i64 (vK o)] 35 (0, 0))
theorem Ver.bel {W W' : World} {k : Nat} {o : Vd} (h : Ver W k o) (hb : Below W.heap.size W W') : Ver W' k o := (hb.block _ (lt_of_some h)).trans h
theorem Ver.aud {W W' : World} {k rb n : Nat} {o : Vd} {U : Nat → Int} (h : Ver W k o) (hg : GU W rb n U) (hc : Ch (fun k => k = rb) W W') : Ver W' k o := (hc.block _ (lt_of_some h) (fun e => by
  subst e
  obtain ⟨C, h2, _⟩ := hg
  have h1 : W.heap[k]? = some (.cells #[.bool (vR o), .int .u32 (vV o), .int .i64 (vK o)] 35 (0, 0)) := h
  rw [h1] at h2; simp at h2)).trans h
abbrev S16p (va vb vd : Nat) (a0 b0 d0 : Bool) (a1 b1' d1 a2 b2 d2 : Int) (w : World) : Prop := w.cell? ⟨va, 0, none⟩ = some (.bool a0) ∧ w.cell? ⟨va, 1, none⟩ = some (.int .u32 a1) ∧ w.cell? ⟨va, 2, none⟩ = some (.int .i64 a2) ∧ w.cell? ⟨vb, 0, none⟩ = some (.bool b0) ∧ w.cell? ⟨vb, 1, none⟩ = some (.int .u32 b1') ∧ w.cell? ⟨vb, 2, none⟩ = some (.int .i64 b2) ∧ w.cell? ⟨vd, 0, none⟩ = some (.bool d0) ∧ w.cell? ⟨vd, 1, none⟩ = some (.int .u32 d1) ∧ w.cell? ⟨vd, 2, none⟩ = some (.int .i64 d2)
set_option maxHeartbeats 8000000 in
theorem law8 (c : Cs) (L : List T3) (S0 O : Nat → Nat → Int) (oa : Option Addr) (on oc : Nat) (hN : c.N < 4294967296) (hL : c.en = L.length) (hs64 : c.sn * 64 ≤ 140737488351232) (hl12 : L.length * 12 ≤ 140737488351232) (heb : ∀ e ∈ L, e.1 < 4294967296 ∧ e.2.1 < 4294967296) (hon : on * 64 ≤ 140737488351232) (w : World) (hS : Row8 w c.sa c.sn S0) (hE : Row3 .u32 w c.ea L) (hO : Row8 w oa on O) :
    Calls Try.prog 8 #[.agg (cb c), .slice oa on oc] w fun e w' => e = .returned (.bool true) ∧ Below w.heap.size w w' := by
  have hnb := zn_b c.N
  obtain ⟨M, hM⟩ : ∃ M, gr (zn c.N) (L.take 500) = M := ⟨_, rfl⟩
  have hMi : ∀ e ∈ M, e.1 < zn c.N ∧ e.2.1 < zn c.N := by rw [← hM]; exact gr_in (by omega)
  have hMl : M.length = (L.take 500).length := by rw [← hM, gr_len]
  have hMb : M.length ≤ 500 := by rw [hMl, List.length_take]; omega
  have HGr : Hid (∀ W, Below w.heap.size w W → Calls Try.prog 34 #[.agg (cb c), .int .i64 1] W fun e w' => ∃ ea ec, e = .returned (.slice ea M.length ec) ∧ Row3 .u32 w' ea M ∧ (ea = none → ec = 0) ∧ (∀ x, ea = some x → 0 < M.length → x.block < w'.heap.size) ∧ Below W.heap.size W w') := fun W hW => by
    refine (graph_any c L hN hL hl12 heb W (hE.on hW (Nat.le_refl _))).mono ?_
    rintro e w' ⟨ea, m, ec, rfl, h1, h2, h3, h4⟩
    rw [hM] at h2
    have hm : m = M.length := h1.trans hMl.symm
    subst hm
    exact ⟨ea, ec, rfl, h2, h3, fun x hx h0 => by obtain ⟨y, hy, hA⟩ := h2 h0; rw [hx] at hy; cases hy; exact hA.1, h4⟩
  obtain ⟨n, hn⟩ : ∃ n, zn c.N = n := ⟨_, rfl⟩
  have HSz : Hid (∀ W : World, Calls Try.prog 33 #[.agg (cb c)] W fun e w' => e = .returned (.int .u32 (n : Int)) ∧ Below W.heap.size W w') := fun W => by
    refine (size_any c hN W).mono ?_
    rintro e w' ⟨rfl, rfl⟩
    rw [hn]; exact ⟨rfl, b1 _ _ _⟩
  rw [hn] at hnb hMi
  have HSt : Hid (∀ W, Below w.heap.size w W → Calls Try.prog 9 #[.slice c.sa c.sn c.sc, .int .i64 (n : Int)] W fun e w' => ∃ g cap, e = .returned (.slice (some ⟨g, 0, none⟩) n cap) ∧ W.heap.size ≤ g ∧ (∃ S, SR w' g n S) ∧ Below W.heap.size W w') := fun W hW => by
    refine (states_any c.sa c.sn c.sc n S0 (by omega) hs64 W (hS.on hW (Nat.le_refl _))).mono ?_
    rintro e w' ⟨g, cap, rfl, h1, h2, h3, h4⟩
    exact ⟨g, cap, rfl, h2, ⟨_, h3.mono (by omega) (fun _ _ => rfl)⟩, h4⟩
  have HMi := hide hMi
  have HMb := hide hMb
  obtain ⟨w0, hw0⟩ : ∃ w0, w.alloc (.cells (cb c) 30) = w0 := ⟨_, rfl⟩
  have hB0 : Below w.heap.size w w0 := by rw [← hw0]; exact b1 _ _ _
  have hc0 : Cb w0 w.heap.size c := by rw [← hw0]; exact at0 _ _
  have hcv : IntKind.i64.wrap (n : Int) = n := i64w _ (by omega)
  have hcw := wr1 n hnb.2
  have hcw2 := wr2 n hnb.2
  have hk0 := hc0.k
  have HB0 := hide hB0
  have HC0 := hide hc0
  have HW0 := hide hw0
  have HO := hide hO
  clear hS hE hO hL heb hB0 hc0 hM hMl hMi hMb hn
  obtain ⟨k0, k1, k2, k3, k4, k5, k6, k7, k8, k9, k10, k11, k12, k13⟩ := hk0
  rw [← hw0] at k0 k1 k2 k3 k4 k5 k6 k7 k8 k9 k10 k11 k12 k13
  clear hw0
  go_enter Try.func8, Try.ntmps8
  go_wp2_with (fail)
  rw [HW0.out]
  refine (HSz.out _).mono ?_
  rintro e1 w1 ⟨rfl, hB1⟩
  have HC1 : Hid (Cb w1 w.heap.size c) := (hB1.block _ HC0.out.lt).trans HC0.out
  have HB1 : Hid (Below w.heap.size w w1) := HB0.out.trans (hB1.mono HB0.out.size)
  clear k0 k1 k2 k3 k4 k5 k6 k7 k8 k9 k10 k11 k12 k13 hB1 HB0 HC0 HW0 HSz
  obtain ⟨k0, k1, k2, k3, k4, k5, k6, k7, k8, k9, k10, k11, k12, k13⟩ := HC1.out.k
  go_wp2_with (fail)
  refine (HGr.out _ HB1.out).mono ?_
  rintro e2 w2 ⟨ea, ec, rfl, hR2, hec, hex, hB2⟩
  have HC2 : Hid (Cb w2 w.heap.size c) := (hB2.block _ HC1.out.lt).trans HC1.out
  have HB2 : Hid (Below w.heap.size w w2) := HB1.out.trans (hB2.mono HB1.out.size)
  have HR2 := hide hR2
  have HEc := hide hec
  have HEx := hide hex
  clear k0 k1 k2 k3 k4 k5 k6 k7 k8 k9 k10 k11 k12 k13 hB2 hR2 hec hex HC1 HB1 HGr
  have k1 := HC2.out.k.2.1
  go_wp2_with (fail)
  refine (HSt.out _ HB2.out).mono ?_
  rintro e3 w3 ⟨sg, cap, rfl, hg3, hS3, hB3⟩
  have HR3 : Hid (Row3 .u32 w3 ea M) := HR2.out.on hB3 (Nat.le_refl _)
  have HB3 : Hid (Below w.heap.size w w3) := HB2.out.trans (hB3.mono HB2.out.size)
  have HS3 := hide hS3
  have HG3 : Hid (w2.heap.size ≤ sg ∧ w.heap.size ≤ w2.heap.size) := ⟨hg3, HB2.out.size⟩
  clear k1 hB3 hg3 hS3 HSt HC2
  have hmk : (Instr.makeSlice 32 (.int .i64 (2 * (n : Int))) (.int .i64 (2 * (n : Int)))).run Try.prog w3 = .ok (.slice (some ⟨w3.heap.size, 0, none⟩) (2 * n) (2 * n)) (w3.alloc (.cells (madeCells #[.int .u64 0] (2 * n)) 28)) := by
    have h := make_w w3 (2 * n) (by omega)
    rw [show ((2 * n : Nat) : Int) = 2 * (n : Int) by omega] at h
    exact h
  have hG4 := GU.new w3 (2 * n)
  obtain ⟨w4, hw4⟩ : ∃ w4, w3.alloc (.cells (madeCells #[.int .u64 0] (2 * n)) 28) = w4 := ⟨_, rfl⟩
  rw [hw4] at hmk hG4
  have hB4 : Below w3.heap.size w3 w4 := by rw [← hw4]; exact b1 _ _ _
  have HWc := hide (rwcc_any n M.length ec ea M rfl (by omega) (by have := HMb.out; omega) w4 (HR3.out.on hB4 (Nat.le_refl _)) HMi.out)
  obtain ⟨rb, hrb⟩ : ∃ rb, rb = w3.heap.size := ⟨_, rfl⟩
  rw [← hrb] at hmk hG4
  have HG4 := hide hG4
  have HB4 := hide hB4
  have Hrb := hide hrb
  clear hG4 hB4 hw4 hrb
  go_wp2_with (fail)
  refine HWc.out.mono ?_
  rintro e5 w5 ⟨rfl, U, ro, hF, hGl, hB5⟩
  have hR5 : Row3 .u32 w5 ea M := (HR3.out.on HB4.out (Nat.le_refl _)).on hB5 (Nat.le_refl _)
  have HCo := hide (rcore_any n ec ea M (by omega) (by have := HMb.out; omega) w5 hR5 HMi.out)
  obtain ⟨lb, hlb⟩ : ∃ lb, lb = w4.heap.size := ⟨_, rfl⟩
  rw [← hlb] at hGl ⊢
  have HGl := hide hGl
  have HFo := hide hF
  have HB5 := hide hB5
  have Hlb := hide hlb
  have HR5 := hide hR5
  clear hF hGl hB5 hlb hR5 HWc hmk
  go_wp2_with (fail)
  refine HCo.out.mono ?_
  rintro e6 w6 ⟨rfl, t, han, hGk, hB6⟩
  have hR6 : Row3 .u32 w6 ea M := HR5.out.on hB6 (Nat.le_refl _)
  have HCl := hide (rcolours_any n M.length ec ea M rfl (by omega) (by have := HMb.out; omega) w6 hR6 HMi.out)
  obtain ⟨kb, hkb⟩ : ∃ kb, kb = w5.heap.size := ⟨_, rfl⟩
  rw [← hkb] at hGk ⊢
  obtain ⟨K, hK⟩ : ∃ K, (it n M t).1 = K := ⟨_, rfl⟩
  have htc := tr_c han
  rw [hK] at hGk htc
  have HGk := hide hGk
  have HTc := hide htc
  have HB6 := hide hB6
  have Hkb := hide hkb
  have HR6 := hide hR6
  clear han hGk hB6 hkb hR6 hK htc HCo
  go_wp2_with (fail)
  refine HCl.out.mono ?_
  rintro e7 w7 ⟨tb, T, rfl, hGt, hT, htb, hB7⟩
  have HTl : Hid (Tr (AL n M) n ro) := tr_l HFo.out
  have HT2 : Hid (Tr (AC2 n M) n T) := tr_2 hT
  obtain ⟨S3, hS3⟩ := HS3.out
  have q1 := hS3.lt
  have q2 := HG4.out.lt
  have q3 := HGl.out.lt
  have q4 := HGk.out.lt
  have q5 := HB4.out.size
  have q6 := HB5.out.size
  have q7 := HB6.out.size
  have q8 := hB7.size
  have q9 := HB3.out.size
  have HD9 : Hid (Pd9 w sg rb lb kb tb ea M) := by
    have h1 := Hrb.out
    have h2 := Hlb.out
    have h3 := Hkb.out
    have h4 := HG3.out
    refine ⟨by omega, ⟨by omega, by omega⟩, ⟨by omega, by omega⟩, ⟨by omega, by omega⟩, fun h0 x hx => ?_, by omega, by omega⟩
    have := HEx.out x hx h0
    exact ⟨by omega, by omega⟩
  have hb47 : Below w4.heap.size w4 w7 := HB5.out.trans ((HB6.out.trans (hB7.mono q7)).mono q6)
  have hb37 : Below w3.heap.size w3 w7 := HB4.out.trans (hb47.mono q5)
  have HP : Hid (Pl w w7 n sg rb lb kb tb ea M ro K T) := ⟨⟨S3, hS3.of (hb37.block _ q1)⟩, ⟨_, HG4.out.of (hb47.block _ q2)⟩, HGl.out.of ((HB6.out.trans (hB7.mono q7)).block _ q3), HGk.out.of (hB7.block _ q4), hGt, HR6.out.on hB7 (Nat.le_refl _), HB3.out.trans (hb37.mono q9)⟩
  clear hGt hT htb hB7 hS3 q1 q2 q3 q4 q5 q6 q7 q8 q9 hb47 hb37 HCl HGl HGk HG4 HB4 HB5 HB6 HR3 HR5 HR6 HS3 HG3 HB3 HEx HFo Hrb Hlb Hkb HR2 HB2 S3 U t
  go_wp2_with (fail)
  go_loopw [12] (fun v wr => ∃ r : Nat, r ≤ 3 ∧ v = .int .i64 r ∧ Hid (Pl w wr n sg rb lb kb tb ea M ro K T)) (fun v _ => 3 - (intOf v).toNat)
  case atStart => exact ⟨0, by omega, rfl, HP⟩
  case round =>
    clear HP
    obtain ⟨r, hr, rfl, HP⟩ := hrel
    by_cases cr : r < 3
    · have hcr : (r : Int) < 3 := by omega
      obtain ⟨S, hS⟩ := HP.out.s
      have HPs : Hid (Ps w n sg rb lb kb tb ea M ro K T S wr) := ⟨HP.out, hS⟩
      clear HP hS
      have HFd := hide (feed_all ea ec M 0 wr (by have := HMb.out; omega) HEc.out HPs.out.1.e)
      go_wp2_with (fail)
      refine HFd.out.mono ?_
      rintro ewra wra ⟨g, Bt, Bf, rfl, hFd, hg, hBt, hBf, hBa⟩
      have hPa := HPs.out.bel hBa
      obtain ⟨U9, hU9⟩ := hPa.1.u
      have hrl := HPs.out.1.u
      have hr9 : rb < wr.heap.size := by obtain ⟨U, h⟩ := hrl; exact h.lt
      have HAu := hide (p11 n rb sg cap Bt Bf g M S U9 hnb.1 hnb.2 (by have := HMb.out; omega) HMi.out wra hU9 hFd hPa.2 (by omega) (by omega) (by omega) HD9.out.d1)
      clear HFd hrl
      go_wp2_with (fail)
      refine HAu.out.mono ?_
      rintro ewrb wrb ⟨o1, rfl, hP1, hUb, hCb⟩
      have hPb := hPa.aud HD9.out hCb hUb
      have hBc : Below wrb.heap.size wrb (wrb.alloc (.cells #[.bool (vR o1), .int .u32 (vV o1), .int .i64 (vK o1)] 35)) := b1 _ _ _
      have HP1 := hide hP1
      obtain ⟨wrc, hwwrc⟩ : ∃ wrc, wrb.alloc (.cells #[.bool (vR o1), .int .u32 (vV o1), .int .i64 (vK o1)] 35) = wrc := ⟨_, rfl⟩
      have HPs : Hid (Ps w n sg rb lb kb tb ea M ro K T S wrc) := by
        show Ps _ _ _ _ _ _ _ _ _ _ _ _ _ _
        rw [← hwwrc]; exact hPb.bel hBc
      obtain ⟨v1, hv1⟩ : ∃ v1, v1 = wrb.heap.size := ⟨_, rfl⟩
      have HV1 : Hid (Ver wrc v1 o1) := by
        show Ver _ _ _
        rw [← hwwrc, hv1]; exact at0 _ _
      have HW1 := hide hwwrc
      have Hv1 := hide hv1
      clear hFd hg hBt hBf hBa hPa hU9 hr9 HAu hP1 hUb hCb hPb hBc hwwrc hv1
      go_wp2_with (fail)
      rw [HW1.out, ← Hv1.out]
      clear HW1 Hv1
      have HFd := hide (feed_all ea ec M 0 wrc (by have := HMb.out; omega) HEc.out HPs.out.1.e)
      refine HFd.out.mono ?_
      rintro ewrca wrca ⟨g, Bt, Bf, rfl, hFd, hg, hBt, hBf, hBa⟩
      have hPa := HPs.out.bel hBa
      obtain ⟨U9, hU9⟩ := hPa.1.u
      have hrl := HPs.out.1.u
      have hr9 : rb < wrc.heap.size := by obtain ⟨U, h⟩ := hrl; exact h.lt
      have HAu := hide (p21 n rb sg cap Bt Bf g M S U9 hnb.1 hnb.2 (by have := HMb.out; omega) HMi.out wrca hU9 hFd hPa.2 (by omega) (by omega) (by omega) HD9.out.d1)
      clear HFd hrl
      go_wp2_with (fail)
      refine HAu.out.mono ?_
      rintro ewrcb wrcb ⟨o2, rfl, hP2, hUb, hCb⟩
      have hPb := hPa.aud HD9.out hCb hUb
      have hBc : Below wrcb.heap.size wrcb (wrcb.alloc (.cells #[.bool (vR o2), .int .u32 (vV o2), .int .i64 (vK o2)] 35)) := b1 _ _ _
      have HV1 := hide ((HV1.out.bel hBa).aud hU9 hCb)
      have HP2 := hide hP2
      obtain ⟨wrcc, hwwrcc⟩ : ∃ wrcc, wrcb.alloc (.cells #[.bool (vR o2), .int .u32 (vV o2), .int .i64 (vK o2)] 35) = wrcc := ⟨_, rfl⟩
      have HPs : Hid (Ps w n sg rb lb kb tb ea M ro K T S wrcc) := by
        show Ps _ _ _ _ _ _ _ _ _ _ _ _ _ _
        rw [← hwwrcc]; exact hPb.bel hBc
      obtain ⟨v2, hv2⟩ : ∃ v2, v2 = wrcb.heap.size := ⟨_, rfl⟩
      have HV2 : Hid (Ver wrcc v2 o2) := by
        show Ver _ _ _
        rw [← hwwrcc, hv2]; exact at0 _ _
      have HV1 : Hid (Ver wrcc v1 o1) := by
        show Ver _ _ _
        rw [← hwwrcc]; exact HV1.out.bel hBc
      have HW2 := hide hwwrcc
      have Hv2 := hide hv2
      clear hFd hg hBt hBf hBa hPa hU9 hr9 HAu hP2 hUb hCb hPb hBc hwwrcc hv2
      go_wp2_with (fail)
      rw [HW2.out, ← Hv2.out]
      clear HW2 Hv2
      have HFd := hide (feed_all ea ec M 0 wrcc (by have := HMb.out; omega) HEc.out HPs.out.1.e)
      refine HFd.out.mono ?_
      rintro ewrcca wrcca ⟨g, Bt, Bf, rfl, hFd, hg, hBt, hBf, hBa⟩
      have hPa := HPs.out.bel hBa
      obtain ⟨U9, hU9⟩ := hPa.1.u
      have hrl := HPs.out.1.u
      have hr9 : rb < wrcc.heap.size := by obtain ⟨U, h⟩ := hrl; exact h.lt
      have HAu := hide (p36 n rb sg cap Bt Bf g M S U9 hnb.1 hnb.2 (by have := HMb.out; omega) HMi.out wrcca hU9 hFd hPa.2 (by omega) (by omega) (by omega) HD9.out.d1)
      clear HFd hrl
      go_wp2_with (fail)
      refine HAu.out.mono ?_
      rintro ewrccb wrccb ⟨o3, rfl, hP3, hUb, hCb⟩
      have hPb := hPa.aud HD9.out hCb hUb
      have hBc : Below wrccb.heap.size wrccb (wrccb.alloc (.cells #[.bool (vR o3), .int .u32 (vV o3), .int .i64 (vK o3)] 35)) := b1 _ _ _
      have HV1 := hide ((HV1.out.bel hBa).aud hU9 hCb)
      have HV2 := hide ((HV2.out.bel hBa).aud hU9 hCb)
      have HP3 := hide hP3
      obtain ⟨wrccc, hwwrccc⟩ : ∃ wrccc, wrccb.alloc (.cells #[.bool (vR o3), .int .u32 (vV o3), .int .i64 (vK o3)] 35) = wrccc := ⟨_, rfl⟩
      have HPs : Hid (Ps w n sg rb lb kb tb ea M ro K T S wrccc) := by
        show Ps _ _ _ _ _ _ _ _ _ _ _ _ _ _
        rw [← hwwrccc]; exact hPb.bel hBc
      obtain ⟨v3, hv3⟩ : ∃ v3, v3 = wrccb.heap.size := ⟨_, rfl⟩
      have HV3 : Hid (Ver wrccc v3 o3) := by
        show Ver _ _ _
        rw [← hwwrccc, hv3]; exact at0 _ _
      have HV1 : Hid (Ver wrccc v1 o1) := by
        show Ver _ _ _
        rw [← hwwrccc]; exact HV1.out.bel hBc
      have HV2 : Hid (Ver wrccc v2 o2) := by
        show Ver _ _ _
        rw [← hwwrccc]; exact HV2.out.bel hBc
      have HW3 := hide hwwrccc
      have Hv3 := hide hv3
      clear hFd hg hBt hBf hBa hPa hU9 hr9 HAu hP3 hUb hCb hPb hBc hwwrccc hv3
      go_wp2_with (fail)
      rw [HW3.out, ← Hv3.out]
      clear HW3 Hv3
      have HNm := hide (num_any 0)
      refine (HNm.out _).mono ?_
      rintro en1 wn1 ⟨rfl, hn1⟩
      subst wn1
      go_wp2_with (fail)
      refine (HNm.out _).mono ?_
      rintro en2 wn2 ⟨rfl, hn2⟩
      subst wn2
      go_wp2_with (fail)
      refine (HNm.out _).mono ?_
      rintro en3 wn3 ⟨rfl, hn3⟩
      subst wn3
      clear HNm
      obtain ⟨w8, hw8⟩ : ∃ w8, wrccc = w8 := ⟨_, rfl⟩
      subst hw8
      have HPw1 : Hid (∀ W, Below wrccc.heap.size wrccc W → Calls Try.prog 16 #[.int .u32 (n : Int), .slice (some ⟨sg, 0, none⟩) n cap, .int .i64 0, .slice (some ⟨lb, 0, none⟩) n n] W fun e w' => e = .returned (.agg #[.bool (vR o1), .int .u32 (vV o1), .int .i64 (vK o1)]) ∧ Below wrccc.heap.size wrccc w') := fun W hW => by
        have h := HPs.out.bel hW
        refine (pw n sg cap lb (AL n M) S ro o1 hnb.1 hnb.2 HTl.out HP1.out W h.2 h.1.l).mono ?_
        rintro e w' ⟨rfl, hb⟩
        exact ⟨rfl, hW.trans (hb.mono hW.size)⟩
      have HPw2 : Hid (∀ W, Below wrccc.heap.size wrccc W → Calls Try.prog 16 #[.int .u32 (n : Int), .slice (some ⟨sg, 0, none⟩) n cap, .int .i64 0, .slice (some ⟨kb, 0, none⟩) n n] W fun e w' => e = .returned (.agg #[.bool (vR o2), .int .u32 (vV o2), .int .i64 (vK o2)]) ∧ Below wrccc.heap.size wrccc w') := fun W hW => by
        have h := HPs.out.bel hW
        refine (pw n sg cap kb (AC n M) S K o2 hnb.1 hnb.2 HTc.out HP2.out W h.2 h.1.k).mono ?_
        rintro e w' ⟨rfl, hb⟩
        exact ⟨rfl, hW.trans (hb.mono hW.size)⟩
      have HPw3 : Hid (∀ W, Below wrccc.heap.size wrccc W → Calls Try.prog 16 #[.int .u32 (n : Int), .slice (some ⟨sg, 0, none⟩) n cap, .int .i64 0, .slice (some ⟨tb, 0, none⟩) n n] W fun e w' => e = .returned (.agg #[.bool (vR o3), .int .u32 (vV o3), .int .i64 (vK o3)]) ∧ Below wrccc.heap.size wrccc w') := fun W hW => by
        have h := HPs.out.bel hW
        refine (pw n sg cap tb (AC2 n M) S T o3 hnb.1 hnb.2 HT2.out HP3.out W h.2 h.1.t).mono ?_
        rintro e w' ⟨rfl, hb⟩
        exact ⟨rfl, hW.trans (hb.mono hW.size)⟩
      have HS6 : Hid (∀ W, Below wrccc.heap.size wrccc W → S16p v1 v2 v3 (vR o1) (vR o2) (vR o3) (vV o1) (vV o2) (vV o3) (vK o1) (vK o2) (vK o3) W) := fun W hW => by
        obtain ⟨x1, x2, x3⟩ := c35 (HV1.out.bel hW)
        obtain ⟨y1, y2, y3⟩ := c35 (HV2.out.bel hW)
        obtain ⟨z1, z2, z3⟩ := c35 (HV3.out.bel hW)
        exact ⟨x1, x2, x3, y1, y2, y3, z1, z2, z3⟩
      obtain ⟨a0, ha0⟩ : ∃ z, vR o1 = z := ⟨_, rfl⟩
      obtain ⟨a1, ha1⟩ : ∃ z, vV o1 = z := ⟨_, rfl⟩
      obtain ⟨a2, ha2⟩ : ∃ z, vK o1 = z := ⟨_, rfl⟩
      obtain ⟨b0, hb0⟩ : ∃ z, vR o2 = z := ⟨_, rfl⟩
      obtain ⟨b1', hb1⟩ : ∃ z, vV o2 = z := ⟨_, rfl⟩
      obtain ⟨b2, hb2⟩ : ∃ z, vK o2 = z := ⟨_, rfl⟩
      obtain ⟨d0, hd0⟩ : ∃ z, vR o3 = z := ⟨_, rfl⟩
      obtain ⟨d1, hd1⟩ : ∃ z, vV o3 = z := ⟨_, rfl⟩
      obtain ⟨d2, hd2⟩ : ∃ z, vK o3 = z := ⟨_, rfl⟩
      rw [ha0, ha1, ha2, hb0, hb1, hb2, hd0, hd1, hd2] at HS6
      rw [ha0, ha1, ha2] at HPw1
      rw [hb0, hb1, hb2] at HPw2
      rw [hd0, hd1, hd2] at HPw3
      clear ha0 ha1 ha2 hb0 hb1 hb2 hd0 hd1 hd2
      go_wp2_with (fail)
      apply wp_cut (fun w' => Below wrccc.heap.size wrccc w')
      case h =>
        go_region_held3 (S16p v1 v2 v3 a0 b0 d0 a1 b1' d1 a2 b2 d2) ((first | with_reducible exact HS6.out _ (belowD (Below.refl _ _)) | with_reducible exact HS6.out _ HBx.out)) ((first
          | (go_at_call 16; with_reducible refine (HPw1.out _ (by repeat (first | with_reducible exact HBx.out | with_reducible exact Below.refl _ _ | with_reducible refine belowD ?_))).mono ?_; rintro e1 wx ⟨rfl, hBx⟩; have HBx := hide hBx; clear hBx)
          | (go_at_call 16; with_reducible refine (HPw2.out _ (by repeat (first | with_reducible exact HBx.out | with_reducible exact Below.refl _ _ | with_reducible refine belowD ?_))).mono ?_; rintro e1 wx ⟨rfl, hBx⟩; have HBx := hide hBx; clear hBx)
          | (go_at_call 16; with_reducible refine (HPw3.out _ (by repeat (first | with_reducible exact HBx.out | with_reducible exact Below.refl _ _ | with_reducible refine belowD ?_))).mono ?_; rintro e1 wx ⟨rfl, hBx⟩; have HBx := hide hBx; clear hBx)
          | fail "no arm"))
        all_goals exact ⟨rfl, HBx.out⟩
      case hq =>
        intro w9 hB9
        have HP9 := hide (HPs.out.1.bel hB9)
        clear hB9 HPs HPw1 HPw2 HPw3 HS6 HV1 HV2 HV3 HP1 HP2 HP3
        go_wp2_with (fail)
        go_loopw [19] (fun v wr => ∃ i : Nat, i ≤ n ∧ v = .int .i64 i ∧ Hid (Pl w wr n sg rb lb kb tb ea M ro K T)) (fun v _ => n - (intOf v).toNat)
        case atStart => exact ⟨0, Nat.zero_le _, rfl, HP9⟩
        case round =>
          clear HP9
          obtain ⟨i, hi, rfl, HQ⟩ := hrel
          by_cases ci : i < n
          · have hci : (i : Int) < (n : Int) := by omega
            have lx := HQ.out.l.cell i ci
            obtain ⟨S1, hS1⟩ := HQ.out.s
            have ac0 : wr.cell? ⟨sg, i * 8, none⟩ = some (.int .u64 (S1 i 0)) := hS1.c i ci 0 (by decide)
            have af0 : wr.frozen? ⟨sg, i * 8, none⟩ = false := hS1.fz _
            have ac1 : wr.cell? ⟨sg, i * 8 + 1, none⟩ = some (.int .u64 (S1 i 1)) := hS1.c i ci 1 (by decide)
            have af1 : wr.frozen? ⟨sg, i * 8 + 1, none⟩ = false := hS1.fz _
            have ac2 : wr.cell? ⟨sg, i * 8 + 2, none⟩ = some (.int .u64 (S1 i 2)) := hS1.c i ci 2 (by decide)
            have af2 : wr.frozen? ⟨sg, i * 8 + 2, none⟩ = false := hS1.fz _
            have ac3 : wr.cell? ⟨sg, i * 8 + 3, none⟩ = some (.int .u64 (S1 i 3)) := hS1.c i ci 3 (by decide)
            have af3 : wr.frozen? ⟨sg, i * 8 + 3, none⟩ = false := hS1.fz _
            have ac4 : wr.cell? ⟨sg, i * 8 + 4, none⟩ = some (.int .u64 (S1 i 4)) := hS1.c i ci 4 (by decide)
            have af4 : wr.frozen? ⟨sg, i * 8 + 4, none⟩ = false := hS1.fz _
            have ac5 : wr.cell? ⟨sg, i * 8 + 5, none⟩ = some (.int .u64 (S1 i 5)) := hS1.c i ci 5 (by decide)
            have af5 : wr.frozen? ⟨sg, i * 8 + 5, none⟩ = false := hS1.fz _
            have ac6 : wr.cell? ⟨sg, i * 8 + 6, none⟩ = some (.int .u64 (S1 i 6)) := hS1.c i ci 6 (by decide)
            have af6 : wr.frozen? ⟨sg, i * 8 + 6, none⟩ = false := hS1.fz _
            have ac7 : wr.cell? ⟨sg, i * 8 + 7, none⟩ = some (.int .u64 (S1 i 7)) := hS1.c i ci 7 (by decide)
            have af7 : wr.frozen? ⟨sg, i * 8 + 7, none⟩ = false := hS1.fz _
            obtain ⟨⟨S2, hS2⟩, hb2, ho2⟩ := hS1.put i (fun j => if j = 0 then ro i else 0) w.heap.size w HQ.out.b HD9.out.g1
            have hP2 : Pl w ((((((((wr.setCell ⟨sg, i * 8, none⟩ (.int .u64 (ro i))).setCell ⟨sg, i * 8 + 1, none⟩ (.int .u64 0)).setCell ⟨sg, i * 8 + 2, none⟩ (.int .u64 0)).setCell ⟨sg, i * 8 + 3, none⟩ (.int .u64 0)).setCell ⟨sg, i * 8 + 4, none⟩ (.int .u64 0)).setCell ⟨sg, i * 8 + 5, none⟩ (.int .u64 0)).setCell ⟨sg, i * 8 + 6, none⟩ (.int .u64 0)).setCell ⟨sg, i * 8 + 7, none⟩ (.int .u64 0)) n sg rb lb kb tb ea M ro K T := HQ.out.put HD9.out ⟨S2, hS2⟩ hb2 ho2
            have HP2 := hide hP2
            by_cases hr1 : r = 2
            · subst hr1
              clear hS1 hS2 hb2 ho2 hP2 HQ
              go_wp2
              all_goals exact ⟨⟨i + 1, ci, by go_num, HP2⟩, by simp [intOf]; omega⟩
            · by_cases hr2 : r = 1
              · subst hr2
                have kx : ((((((((wr.setCell ⟨sg, i * 8, none⟩ (.int .u64 (ro i))).setCell ⟨sg, i * 8 + 1, none⟩ (.int .u64 0)).setCell ⟨sg, i * 8 + 2, none⟩ (.int .u64 0)).setCell ⟨sg, i * 8 + 3, none⟩ (.int .u64 0)).setCell ⟨sg, i * 8 + 4, none⟩ (.int .u64 0)).setCell ⟨sg, i * 8 + 5, none⟩ (.int .u64 0)).setCell ⟨sg, i * 8 + 6, none⟩ (.int .u64 0)).setCell ⟨sg, i * 8 + 7, none⟩ (.int .u64 0)).cell? ⟨kb, i, none⟩ = some (.int .u64 (K i)) := hP2.k.cell i ci
                have bc0 : ((((((((wr.setCell ⟨sg, i * 8, none⟩ (.int .u64 (ro i))).setCell ⟨sg, i * 8 + 1, none⟩ (.int .u64 0)).setCell ⟨sg, i * 8 + 2, none⟩ (.int .u64 0)).setCell ⟨sg, i * 8 + 3, none⟩ (.int .u64 0)).setCell ⟨sg, i * 8 + 4, none⟩ (.int .u64 0)).setCell ⟨sg, i * 8 + 5, none⟩ (.int .u64 0)).setCell ⟨sg, i * 8 + 6, none⟩ (.int .u64 0)).setCell ⟨sg, i * 8 + 7, none⟩ (.int .u64 0)).cell? ⟨sg, i * 8, none⟩ = some (.int .u64 (S2 i 0)) := hS2.c i ci 0 (by decide)
                have bf0 : ((((((((wr.setCell ⟨sg, i * 8, none⟩ (.int .u64 (ro i))).setCell ⟨sg, i * 8 + 1, none⟩ (.int .u64 0)).setCell ⟨sg, i * 8 + 2, none⟩ (.int .u64 0)).setCell ⟨sg, i * 8 + 3, none⟩ (.int .u64 0)).setCell ⟨sg, i * 8 + 4, none⟩ (.int .u64 0)).setCell ⟨sg, i * 8 + 5, none⟩ (.int .u64 0)).setCell ⟨sg, i * 8 + 6, none⟩ (.int .u64 0)).setCell ⟨sg, i * 8 + 7, none⟩ (.int .u64 0)).frozen? ⟨sg, i * 8, none⟩ = false := hS2.fz _
                have bc1 : ((((((((wr.setCell ⟨sg, i * 8, none⟩ (.int .u64 (ro i))).setCell ⟨sg, i * 8 + 1, none⟩ (.int .u64 0)).setCell ⟨sg, i * 8 + 2, none⟩ (.int .u64 0)).setCell ⟨sg, i * 8 + 3, none⟩ (.int .u64 0)).setCell ⟨sg, i * 8 + 4, none⟩ (.int .u64 0)).setCell ⟨sg, i * 8 + 5, none⟩ (.int .u64 0)).setCell ⟨sg, i * 8 + 6, none⟩ (.int .u64 0)).setCell ⟨sg, i * 8 + 7, none⟩ (.int .u64 0)).cell? ⟨sg, i * 8 + 1, none⟩ = some (.int .u64 (S2 i 1)) := hS2.c i ci 1 (by decide)
                have bf1 : ((((((((wr.setCell ⟨sg, i * 8, none⟩ (.int .u64 (ro i))).setCell ⟨sg, i * 8 + 1, none⟩ (.int .u64 0)).setCell ⟨sg, i * 8 + 2, none⟩ (.int .u64 0)).setCell ⟨sg, i * 8 + 3, none⟩ (.int .u64 0)).setCell ⟨sg, i * 8 + 4, none⟩ (.int .u64 0)).setCell ⟨sg, i * 8 + 5, none⟩ (.int .u64 0)).setCell ⟨sg, i * 8 + 6, none⟩ (.int .u64 0)).setCell ⟨sg, i * 8 + 7, none⟩ (.int .u64 0)).frozen? ⟨sg, i * 8 + 1, none⟩ = false := hS2.fz _
                have bc2 : ((((((((wr.setCell ⟨sg, i * 8, none⟩ (.int .u64 (ro i))).setCell ⟨sg, i * 8 + 1, none⟩ (.int .u64 0)).setCell ⟨sg, i * 8 + 2, none⟩ (.int .u64 0)).setCell ⟨sg, i * 8 + 3, none⟩ (.int .u64 0)).setCell ⟨sg, i * 8 + 4, none⟩ (.int .u64 0)).setCell ⟨sg, i * 8 + 5, none⟩ (.int .u64 0)).setCell ⟨sg, i * 8 + 6, none⟩ (.int .u64 0)).setCell ⟨sg, i * 8 + 7, none⟩ (.int .u64 0)).cell? ⟨sg, i * 8 + 2, none⟩ = some (.int .u64 (S2 i 2)) := hS2.c i ci 2 (by decide)
                have bf2 : ((((((((wr.setCell ⟨sg, i * 8, none⟩ (.int .u64 (ro i))).setCell ⟨sg, i * 8 + 1, none⟩ (.int .u64 0)).setCell ⟨sg, i * 8 + 2, none⟩ (.int .u64 0)).setCell ⟨sg, i * 8 + 3, none⟩ (.int .u64 0)).setCell ⟨sg, i * 8 + 4, none⟩ (.int .u64 0)).setCell ⟨sg, i * 8 + 5, none⟩ (.int .u64 0)).setCell ⟨sg, i * 8 + 6, none⟩ (.int .u64 0)).setCell ⟨sg, i * 8 + 7, none⟩ (.int .u64 0)).frozen? ⟨sg, i * 8 + 2, none⟩ = false := hS2.fz _
                have bc3 : ((((((((wr.setCell ⟨sg, i * 8, none⟩ (.int .u64 (ro i))).setCell ⟨sg, i * 8 + 1, none⟩ (.int .u64 0)).setCell ⟨sg, i * 8 + 2, none⟩ (.int .u64 0)).setCell ⟨sg, i * 8 + 3, none⟩ (.int .u64 0)).setCell ⟨sg, i * 8 + 4, none⟩ (.int .u64 0)).setCell ⟨sg, i * 8 + 5, none⟩ (.int .u64 0)).setCell ⟨sg, i * 8 + 6, none⟩ (.int .u64 0)).setCell ⟨sg, i * 8 + 7, none⟩ (.int .u64 0)).cell? ⟨sg, i * 8 + 3, none⟩ = some (.int .u64 (S2 i 3)) := hS2.c i ci 3 (by decide)
                have bf3 : ((((((((wr.setCell ⟨sg, i * 8, none⟩ (.int .u64 (ro i))).setCell ⟨sg, i * 8 + 1, none⟩ (.int .u64 0)).setCell ⟨sg, i * 8 + 2, none⟩ (.int .u64 0)).setCell ⟨sg, i * 8 + 3, none⟩ (.int .u64 0)).setCell ⟨sg, i * 8 + 4, none⟩ (.int .u64 0)).setCell ⟨sg, i * 8 + 5, none⟩ (.int .u64 0)).setCell ⟨sg, i * 8 + 6, none⟩ (.int .u64 0)).setCell ⟨sg, i * 8 + 7, none⟩ (.int .u64 0)).frozen? ⟨sg, i * 8 + 3, none⟩ = false := hS2.fz _
                have bc4 : ((((((((wr.setCell ⟨sg, i * 8, none⟩ (.int .u64 (ro i))).setCell ⟨sg, i * 8 + 1, none⟩ (.int .u64 0)).setCell ⟨sg, i * 8 + 2, none⟩ (.int .u64 0)).setCell ⟨sg, i * 8 + 3, none⟩ (.int .u64 0)).setCell ⟨sg, i * 8 + 4, none⟩ (.int .u64 0)).setCell ⟨sg, i * 8 + 5, none⟩ (.int .u64 0)).setCell ⟨sg, i * 8 + 6, none⟩ (.int .u64 0)).setCell ⟨sg, i * 8 + 7, none⟩ (.int .u64 0)).cell? ⟨sg, i * 8 + 4, none⟩ = some (.int .u64 (S2 i 4)) := hS2.c i ci 4 (by decide)
                have bf4 : ((((((((wr.setCell ⟨sg, i * 8, none⟩ (.int .u64 (ro i))).setCell ⟨sg, i * 8 + 1, none⟩ (.int .u64 0)).setCell ⟨sg, i * 8 + 2, none⟩ (.int .u64 0)).setCell ⟨sg, i * 8 + 3, none⟩ (.int .u64 0)).setCell ⟨sg, i * 8 + 4, none⟩ (.int .u64 0)).setCell ⟨sg, i * 8 + 5, none⟩ (.int .u64 0)).setCell ⟨sg, i * 8 + 6, none⟩ (.int .u64 0)).setCell ⟨sg, i * 8 + 7, none⟩ (.int .u64 0)).frozen? ⟨sg, i * 8 + 4, none⟩ = false := hS2.fz _
                have bc5 : ((((((((wr.setCell ⟨sg, i * 8, none⟩ (.int .u64 (ro i))).setCell ⟨sg, i * 8 + 1, none⟩ (.int .u64 0)).setCell ⟨sg, i * 8 + 2, none⟩ (.int .u64 0)).setCell ⟨sg, i * 8 + 3, none⟩ (.int .u64 0)).setCell ⟨sg, i * 8 + 4, none⟩ (.int .u64 0)).setCell ⟨sg, i * 8 + 5, none⟩ (.int .u64 0)).setCell ⟨sg, i * 8 + 6, none⟩ (.int .u64 0)).setCell ⟨sg, i * 8 + 7, none⟩ (.int .u64 0)).cell? ⟨sg, i * 8 + 5, none⟩ = some (.int .u64 (S2 i 5)) := hS2.c i ci 5 (by decide)
                have bf5 : ((((((((wr.setCell ⟨sg, i * 8, none⟩ (.int .u64 (ro i))).setCell ⟨sg, i * 8 + 1, none⟩ (.int .u64 0)).setCell ⟨sg, i * 8 + 2, none⟩ (.int .u64 0)).setCell ⟨sg, i * 8 + 3, none⟩ (.int .u64 0)).setCell ⟨sg, i * 8 + 4, none⟩ (.int .u64 0)).setCell ⟨sg, i * 8 + 5, none⟩ (.int .u64 0)).setCell ⟨sg, i * 8 + 6, none⟩ (.int .u64 0)).setCell ⟨sg, i * 8 + 7, none⟩ (.int .u64 0)).frozen? ⟨sg, i * 8 + 5, none⟩ = false := hS2.fz _
                have bc6 : ((((((((wr.setCell ⟨sg, i * 8, none⟩ (.int .u64 (ro i))).setCell ⟨sg, i * 8 + 1, none⟩ (.int .u64 0)).setCell ⟨sg, i * 8 + 2, none⟩ (.int .u64 0)).setCell ⟨sg, i * 8 + 3, none⟩ (.int .u64 0)).setCell ⟨sg, i * 8 + 4, none⟩ (.int .u64 0)).setCell ⟨sg, i * 8 + 5, none⟩ (.int .u64 0)).setCell ⟨sg, i * 8 + 6, none⟩ (.int .u64 0)).setCell ⟨sg, i * 8 + 7, none⟩ (.int .u64 0)).cell? ⟨sg, i * 8 + 6, none⟩ = some (.int .u64 (S2 i 6)) := hS2.c i ci 6 (by decide)
                have bf6 : ((((((((wr.setCell ⟨sg, i * 8, none⟩ (.int .u64 (ro i))).setCell ⟨sg, i * 8 + 1, none⟩ (.int .u64 0)).setCell ⟨sg, i * 8 + 2, none⟩ (.int .u64 0)).setCell ⟨sg, i * 8 + 3, none⟩ (.int .u64 0)).setCell ⟨sg, i * 8 + 4, none⟩ (.int .u64 0)).setCell ⟨sg, i * 8 + 5, none⟩ (.int .u64 0)).setCell ⟨sg, i * 8 + 6, none⟩ (.int .u64 0)).setCell ⟨sg, i * 8 + 7, none⟩ (.int .u64 0)).frozen? ⟨sg, i * 8 + 6, none⟩ = false := hS2.fz _
                have bc7 : ((((((((wr.setCell ⟨sg, i * 8, none⟩ (.int .u64 (ro i))).setCell ⟨sg, i * 8 + 1, none⟩ (.int .u64 0)).setCell ⟨sg, i * 8 + 2, none⟩ (.int .u64 0)).setCell ⟨sg, i * 8 + 3, none⟩ (.int .u64 0)).setCell ⟨sg, i * 8 + 4, none⟩ (.int .u64 0)).setCell ⟨sg, i * 8 + 5, none⟩ (.int .u64 0)).setCell ⟨sg, i * 8 + 6, none⟩ (.int .u64 0)).setCell ⟨sg, i * 8 + 7, none⟩ (.int .u64 0)).cell? ⟨sg, i * 8 + 7, none⟩ = some (.int .u64 (S2 i 7)) := hS2.c i ci 7 (by decide)
                have bf7 : ((((((((wr.setCell ⟨sg, i * 8, none⟩ (.int .u64 (ro i))).setCell ⟨sg, i * 8 + 1, none⟩ (.int .u64 0)).setCell ⟨sg, i * 8 + 2, none⟩ (.int .u64 0)).setCell ⟨sg, i * 8 + 3, none⟩ (.int .u64 0)).setCell ⟨sg, i * 8 + 4, none⟩ (.int .u64 0)).setCell ⟨sg, i * 8 + 5, none⟩ (.int .u64 0)).setCell ⟨sg, i * 8 + 6, none⟩ (.int .u64 0)).setCell ⟨sg, i * 8 + 7, none⟩ (.int .u64 0)).frozen? ⟨sg, i * 8 + 7, none⟩ = false := hS2.fz _
                obtain ⟨hs3, hb3, ho3⟩ := hS2.put i (fun j => if j = 0 then K i else 0) w.heap.size w hb2 HD9.out.g1
                have hP3 : Pl w ((((((((((((((((wr.setCell ⟨sg, i * 8, none⟩ (.int .u64 (ro i))).setCell ⟨sg, i * 8 + 1, none⟩ (.int .u64 0)).setCell ⟨sg, i * 8 + 2, none⟩ (.int .u64 0)).setCell ⟨sg, i * 8 + 3, none⟩ (.int .u64 0)).setCell ⟨sg, i * 8 + 4, none⟩ (.int .u64 0)).setCell ⟨sg, i * 8 + 5, none⟩ (.int .u64 0)).setCell ⟨sg, i * 8 + 6, none⟩ (.int .u64 0)).setCell ⟨sg, i * 8 + 7, none⟩ (.int .u64 0)).setCell ⟨sg, i * 8, none⟩ (.int .u64 (K i))).setCell ⟨sg, i * 8 + 1, none⟩ (.int .u64 0)).setCell ⟨sg, i * 8 + 2, none⟩ (.int .u64 0)).setCell ⟨sg, i * 8 + 3, none⟩ (.int .u64 0)).setCell ⟨sg, i * 8 + 4, none⟩ (.int .u64 0)).setCell ⟨sg, i * 8 + 5, none⟩ (.int .u64 0)).setCell ⟨sg, i * 8 + 6, none⟩ (.int .u64 0)).setCell ⟨sg, i * 8 + 7, none⟩ (.int .u64 0)) n sg rb lb kb tb ea M ro K T := hP2.put HD9.out hs3 hb3 ho3
                have HP3 := hide hP3
                clear hS1 hS2 hb2 ho2 hP2 HQ HP2 hs3 hb3 ho3 hP3
                go_wp2
                all_goals exact ⟨⟨i + 1, ci, by go_num, HP3⟩, by simp [intOf]; omega⟩
              · have hr3 : r = 0 := by omega
                subst hr3
                by_cases co : i < on
                · have hco : (i : Int) < (on : Int) := by omega
                  obtain ⟨ox, hox, hoA⟩ := HO.out (by omega)
                  subst hox
                  have hA : At8 ((((((((wr.setCell ⟨sg, i * 8, none⟩ (.int .u64 (ro i))).setCell ⟨sg, i * 8 + 1, none⟩ (.int .u64 0)).setCell ⟨sg, i * 8 + 2, none⟩ (.int .u64 0)).setCell ⟨sg, i * 8 + 3, none⟩ (.int .u64 0)).setCell ⟨sg, i * 8 + 4, none⟩ (.int .u64 0)).setCell ⟨sg, i * 8 + 5, none⟩ (.int .u64 0)).setCell ⟨sg, i * 8 + 6, none⟩ (.int .u64 0)).setCell ⟨sg, i * 8 + 7, none⟩ (.int .u64 0)) ox on O := ⟨Nat.lt_of_lt_of_le hoA.1 hb2.size, fun v hv j hj => (hb2.cell (p := ox.add (v * 8 + j)) (by rw [add_block]; exact hoA.1)).trans (hoA.2 v hv j hj)⟩
                  obtain ⟨q0, q1, q2, q3, q4, q5, q6, q7⟩ := hA.k i co
                  have bc0 : ((((((((wr.setCell ⟨sg, i * 8, none⟩ (.int .u64 (ro i))).setCell ⟨sg, i * 8 + 1, none⟩ (.int .u64 0)).setCell ⟨sg, i * 8 + 2, none⟩ (.int .u64 0)).setCell ⟨sg, i * 8 + 3, none⟩ (.int .u64 0)).setCell ⟨sg, i * 8 + 4, none⟩ (.int .u64 0)).setCell ⟨sg, i * 8 + 5, none⟩ (.int .u64 0)).setCell ⟨sg, i * 8 + 6, none⟩ (.int .u64 0)).setCell ⟨sg, i * 8 + 7, none⟩ (.int .u64 0)).cell? ⟨sg, i * 8, none⟩ = some (.int .u64 (S2 i 0)) := hS2.c i ci 0 (by decide)
                  have bf0 : ((((((((wr.setCell ⟨sg, i * 8, none⟩ (.int .u64 (ro i))).setCell ⟨sg, i * 8 + 1, none⟩ (.int .u64 0)).setCell ⟨sg, i * 8 + 2, none⟩ (.int .u64 0)).setCell ⟨sg, i * 8 + 3, none⟩ (.int .u64 0)).setCell ⟨sg, i * 8 + 4, none⟩ (.int .u64 0)).setCell ⟨sg, i * 8 + 5, none⟩ (.int .u64 0)).setCell ⟨sg, i * 8 + 6, none⟩ (.int .u64 0)).setCell ⟨sg, i * 8 + 7, none⟩ (.int .u64 0)).frozen? ⟨sg, i * 8, none⟩ = false := hS2.fz _
                  have bc1 : ((((((((wr.setCell ⟨sg, i * 8, none⟩ (.int .u64 (ro i))).setCell ⟨sg, i * 8 + 1, none⟩ (.int .u64 0)).setCell ⟨sg, i * 8 + 2, none⟩ (.int .u64 0)).setCell ⟨sg, i * 8 + 3, none⟩ (.int .u64 0)).setCell ⟨sg, i * 8 + 4, none⟩ (.int .u64 0)).setCell ⟨sg, i * 8 + 5, none⟩ (.int .u64 0)).setCell ⟨sg, i * 8 + 6, none⟩ (.int .u64 0)).setCell ⟨sg, i * 8 + 7, none⟩ (.int .u64 0)).cell? ⟨sg, i * 8 + 1, none⟩ = some (.int .u64 (S2 i 1)) := hS2.c i ci 1 (by decide)
                  have bf1 : ((((((((wr.setCell ⟨sg, i * 8, none⟩ (.int .u64 (ro i))).setCell ⟨sg, i * 8 + 1, none⟩ (.int .u64 0)).setCell ⟨sg, i * 8 + 2, none⟩ (.int .u64 0)).setCell ⟨sg, i * 8 + 3, none⟩ (.int .u64 0)).setCell ⟨sg, i * 8 + 4, none⟩ (.int .u64 0)).setCell ⟨sg, i * 8 + 5, none⟩ (.int .u64 0)).setCell ⟨sg, i * 8 + 6, none⟩ (.int .u64 0)).setCell ⟨sg, i * 8 + 7, none⟩ (.int .u64 0)).frozen? ⟨sg, i * 8 + 1, none⟩ = false := hS2.fz _
                  have bc2 : ((((((((wr.setCell ⟨sg, i * 8, none⟩ (.int .u64 (ro i))).setCell ⟨sg, i * 8 + 1, none⟩ (.int .u64 0)).setCell ⟨sg, i * 8 + 2, none⟩ (.int .u64 0)).setCell ⟨sg, i * 8 + 3, none⟩ (.int .u64 0)).setCell ⟨sg, i * 8 + 4, none⟩ (.int .u64 0)).setCell ⟨sg, i * 8 + 5, none⟩ (.int .u64 0)).setCell ⟨sg, i * 8 + 6, none⟩ (.int .u64 0)).setCell ⟨sg, i * 8 + 7, none⟩ (.int .u64 0)).cell? ⟨sg, i * 8 + 2, none⟩ = some (.int .u64 (S2 i 2)) := hS2.c i ci 2 (by decide)
                  have bf2 : ((((((((wr.setCell ⟨sg, i * 8, none⟩ (.int .u64 (ro i))).setCell ⟨sg, i * 8 + 1, none⟩ (.int .u64 0)).setCell ⟨sg, i * 8 + 2, none⟩ (.int .u64 0)).setCell ⟨sg, i * 8 + 3, none⟩ (.int .u64 0)).setCell ⟨sg, i * 8 + 4, none⟩ (.int .u64 0)).setCell ⟨sg, i * 8 + 5, none⟩ (.int .u64 0)).setCell ⟨sg, i * 8 + 6, none⟩ (.int .u64 0)).setCell ⟨sg, i * 8 + 7, none⟩ (.int .u64 0)).frozen? ⟨sg, i * 8 + 2, none⟩ = false := hS2.fz _
                  have bc3 : ((((((((wr.setCell ⟨sg, i * 8, none⟩ (.int .u64 (ro i))).setCell ⟨sg, i * 8 + 1, none⟩ (.int .u64 0)).setCell ⟨sg, i * 8 + 2, none⟩ (.int .u64 0)).setCell ⟨sg, i * 8 + 3, none⟩ (.int .u64 0)).setCell ⟨sg, i * 8 + 4, none⟩ (.int .u64 0)).setCell ⟨sg, i * 8 + 5, none⟩ (.int .u64 0)).setCell ⟨sg, i * 8 + 6, none⟩ (.int .u64 0)).setCell ⟨sg, i * 8 + 7, none⟩ (.int .u64 0)).cell? ⟨sg, i * 8 + 3, none⟩ = some (.int .u64 (S2 i 3)) := hS2.c i ci 3 (by decide)
                  have bf3 : ((((((((wr.setCell ⟨sg, i * 8, none⟩ (.int .u64 (ro i))).setCell ⟨sg, i * 8 + 1, none⟩ (.int .u64 0)).setCell ⟨sg, i * 8 + 2, none⟩ (.int .u64 0)).setCell ⟨sg, i * 8 + 3, none⟩ (.int .u64 0)).setCell ⟨sg, i * 8 + 4, none⟩ (.int .u64 0)).setCell ⟨sg, i * 8 + 5, none⟩ (.int .u64 0)).setCell ⟨sg, i * 8 + 6, none⟩ (.int .u64 0)).setCell ⟨sg, i * 8 + 7, none⟩ (.int .u64 0)).frozen? ⟨sg, i * 8 + 3, none⟩ = false := hS2.fz _
                  have bc4 : ((((((((wr.setCell ⟨sg, i * 8, none⟩ (.int .u64 (ro i))).setCell ⟨sg, i * 8 + 1, none⟩ (.int .u64 0)).setCell ⟨sg, i * 8 + 2, none⟩ (.int .u64 0)).setCell ⟨sg, i * 8 + 3, none⟩ (.int .u64 0)).setCell ⟨sg, i * 8 + 4, none⟩ (.int .u64 0)).setCell ⟨sg, i * 8 + 5, none⟩ (.int .u64 0)).setCell ⟨sg, i * 8 + 6, none⟩ (.int .u64 0)).setCell ⟨sg, i * 8 + 7, none⟩ (.int .u64 0)).cell? ⟨sg, i * 8 + 4, none⟩ = some (.int .u64 (S2 i 4)) := hS2.c i ci 4 (by decide)
                  have bf4 : ((((((((wr.setCell ⟨sg, i * 8, none⟩ (.int .u64 (ro i))).setCell ⟨sg, i * 8 + 1, none⟩ (.int .u64 0)).setCell ⟨sg, i * 8 + 2, none⟩ (.int .u64 0)).setCell ⟨sg, i * 8 + 3, none⟩ (.int .u64 0)).setCell ⟨sg, i * 8 + 4, none⟩ (.int .u64 0)).setCell ⟨sg, i * 8 + 5, none⟩ (.int .u64 0)).setCell ⟨sg, i * 8 + 6, none⟩ (.int .u64 0)).setCell ⟨sg, i * 8 + 7, none⟩ (.int .u64 0)).frozen? ⟨sg, i * 8 + 4, none⟩ = false := hS2.fz _
                  have bc5 : ((((((((wr.setCell ⟨sg, i * 8, none⟩ (.int .u64 (ro i))).setCell ⟨sg, i * 8 + 1, none⟩ (.int .u64 0)).setCell ⟨sg, i * 8 + 2, none⟩ (.int .u64 0)).setCell ⟨sg, i * 8 + 3, none⟩ (.int .u64 0)).setCell ⟨sg, i * 8 + 4, none⟩ (.int .u64 0)).setCell ⟨sg, i * 8 + 5, none⟩ (.int .u64 0)).setCell ⟨sg, i * 8 + 6, none⟩ (.int .u64 0)).setCell ⟨sg, i * 8 + 7, none⟩ (.int .u64 0)).cell? ⟨sg, i * 8 + 5, none⟩ = some (.int .u64 (S2 i 5)) := hS2.c i ci 5 (by decide)
                  have bf5 : ((((((((wr.setCell ⟨sg, i * 8, none⟩ (.int .u64 (ro i))).setCell ⟨sg, i * 8 + 1, none⟩ (.int .u64 0)).setCell ⟨sg, i * 8 + 2, none⟩ (.int .u64 0)).setCell ⟨sg, i * 8 + 3, none⟩ (.int .u64 0)).setCell ⟨sg, i * 8 + 4, none⟩ (.int .u64 0)).setCell ⟨sg, i * 8 + 5, none⟩ (.int .u64 0)).setCell ⟨sg, i * 8 + 6, none⟩ (.int .u64 0)).setCell ⟨sg, i * 8 + 7, none⟩ (.int .u64 0)).frozen? ⟨sg, i * 8 + 5, none⟩ = false := hS2.fz _
                  have bc6 : ((((((((wr.setCell ⟨sg, i * 8, none⟩ (.int .u64 (ro i))).setCell ⟨sg, i * 8 + 1, none⟩ (.int .u64 0)).setCell ⟨sg, i * 8 + 2, none⟩ (.int .u64 0)).setCell ⟨sg, i * 8 + 3, none⟩ (.int .u64 0)).setCell ⟨sg, i * 8 + 4, none⟩ (.int .u64 0)).setCell ⟨sg, i * 8 + 5, none⟩ (.int .u64 0)).setCell ⟨sg, i * 8 + 6, none⟩ (.int .u64 0)).setCell ⟨sg, i * 8 + 7, none⟩ (.int .u64 0)).cell? ⟨sg, i * 8 + 6, none⟩ = some (.int .u64 (S2 i 6)) := hS2.c i ci 6 (by decide)
                  have bf6 : ((((((((wr.setCell ⟨sg, i * 8, none⟩ (.int .u64 (ro i))).setCell ⟨sg, i * 8 + 1, none⟩ (.int .u64 0)).setCell ⟨sg, i * 8 + 2, none⟩ (.int .u64 0)).setCell ⟨sg, i * 8 + 3, none⟩ (.int .u64 0)).setCell ⟨sg, i * 8 + 4, none⟩ (.int .u64 0)).setCell ⟨sg, i * 8 + 5, none⟩ (.int .u64 0)).setCell ⟨sg, i * 8 + 6, none⟩ (.int .u64 0)).setCell ⟨sg, i * 8 + 7, none⟩ (.int .u64 0)).frozen? ⟨sg, i * 8 + 6, none⟩ = false := hS2.fz _
                  have bc7 : ((((((((wr.setCell ⟨sg, i * 8, none⟩ (.int .u64 (ro i))).setCell ⟨sg, i * 8 + 1, none⟩ (.int .u64 0)).setCell ⟨sg, i * 8 + 2, none⟩ (.int .u64 0)).setCell ⟨sg, i * 8 + 3, none⟩ (.int .u64 0)).setCell ⟨sg, i * 8 + 4, none⟩ (.int .u64 0)).setCell ⟨sg, i * 8 + 5, none⟩ (.int .u64 0)).setCell ⟨sg, i * 8 + 6, none⟩ (.int .u64 0)).setCell ⟨sg, i * 8 + 7, none⟩ (.int .u64 0)).cell? ⟨sg, i * 8 + 7, none⟩ = some (.int .u64 (S2 i 7)) := hS2.c i ci 7 (by decide)
                  have bf7 : ((((((((wr.setCell ⟨sg, i * 8, none⟩ (.int .u64 (ro i))).setCell ⟨sg, i * 8 + 1, none⟩ (.int .u64 0)).setCell ⟨sg, i * 8 + 2, none⟩ (.int .u64 0)).setCell ⟨sg, i * 8 + 3, none⟩ (.int .u64 0)).setCell ⟨sg, i * 8 + 4, none⟩ (.int .u64 0)).setCell ⟨sg, i * 8 + 5, none⟩ (.int .u64 0)).setCell ⟨sg, i * 8 + 6, none⟩ (.int .u64 0)).setCell ⟨sg, i * 8 + 7, none⟩ (.int .u64 0)).frozen? ⟨sg, i * 8 + 7, none⟩ = false := hS2.fz _
                  obtain ⟨hs3, hb3, ho3⟩ := hS2.put i (O i) w.heap.size w hb2 HD9.out.g1
                  have hP3 : Pl w ((((((((((((((((wr.setCell ⟨sg, i * 8, none⟩ (.int .u64 (ro i))).setCell ⟨sg, i * 8 + 1, none⟩ (.int .u64 0)).setCell ⟨sg, i * 8 + 2, none⟩ (.int .u64 0)).setCell ⟨sg, i * 8 + 3, none⟩ (.int .u64 0)).setCell ⟨sg, i * 8 + 4, none⟩ (.int .u64 0)).setCell ⟨sg, i * 8 + 5, none⟩ (.int .u64 0)).setCell ⟨sg, i * 8 + 6, none⟩ (.int .u64 0)).setCell ⟨sg, i * 8 + 7, none⟩ (.int .u64 0)).setCell ⟨sg, i * 8, none⟩ (.int .u64 (O i 0))).setCell ⟨sg, i * 8 + 1, none⟩ (.int .u64 (O i 1))).setCell ⟨sg, i * 8 + 2, none⟩ (.int .u64 (O i 2))).setCell ⟨sg, i * 8 + 3, none⟩ (.int .u64 (O i 3))).setCell ⟨sg, i * 8 + 4, none⟩ (.int .u64 (O i 4))).setCell ⟨sg, i * 8 + 5, none⟩ (.int .u64 (O i 5))).setCell ⟨sg, i * 8 + 6, none⟩ (.int .u64 (O i 6))).setCell ⟨sg, i * 8 + 7, none⟩ (.int .u64 (O i 7))) n sg rb lb kb tb ea M ro K T := hP2.put HD9.out hs3 hb3 ho3
                  have HP3 := hide hP3
                  clear hS1 hS2 hb2 ho2 hP2 HQ HP2 hs3 hb3 ho3 hP3 hA hoA
                  go_wp2
                  all_goals exact ⟨⟨i + 1, ci, by go_num, HP3⟩, by simp [intOf]; omega⟩
                · have hco : ¬ (i : Int) < (on : Int) := by omega
                  clear hS1 hS2 hb2 ho2 hP2 HQ
                  go_wp2
                  all_goals exact ⟨⟨i + 1, ci, by go_num, HP2⟩, by simp [intOf]; omega⟩
          · have hin : n = i := by omega
            subst hin
            have HQ2 := HQ
            clear HQ ci hi
            go_wp2
            all_goals exact ⟨⟨r + 1, by omega, by go_num, HQ2⟩, by simp [intOf]; omega⟩
    · have hcr : ¬ (r : Int) < 3 := by omega
      have HEnd := hide HP.out.b
      clear HP
      go_wp2
      all_goals go_ret
      all_goals exact ⟨rfl, HEnd.out⟩
end Au
end Go.Proofs.Ytcepfmeoeepjdaa
