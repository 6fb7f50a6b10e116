import Derived.Test.YtgoigcpdfecfhaaGreatDoorCtL
import Derived.Test.YtgoigcpdfecfhaaGreatDoorMgF
namespace Go.Proofs.YtgoigcpdfecfhaaGreatDoor
namespace Au
open Go.RowKit
set_option linter.unusedVariables false
set_option maxRecDepth 8000
theorem wp_cutG {P : Program} {c : Code} {Q : Exit → Act → World → Prop} {a : Act} {w : World} (T : World → Prop) (A1 : Value → Act)
    (h : c.wp P (fun e a' w' => match e with | .normal => ∃ fv, a' = A1 fv ∧ T w' | _ => False) a w) (hq : ∀ fv w', T w' → Q .normal (A1 fv) w') : c.wp P Q a w := by
  refine Code.wp_mono ?_ h
  intro e a' w' hh
  cases e with
  | normal => obtain ⟨fv, rfl, ht⟩ := hh; exact hq fv w' ht
  | _ => exact hh.elim
set_option maxHeartbeats 16000000 in
theorem law3 (c : Cs) (L : List T3) (S : Nat → Nat → Int) (hN : c.N < 4294967296) (hsd : 0 ≤ c.seed ∧ c.seed < 18446744073709551616) (hL : c.en = L.length) (hs64 : c.sn * 64 ≤ 140737488351232) (hl12 : L.length * 12 ≤ 140737488351232) (hec : c.ea = none → c.ec = 0) (w : World) (hS : Row8 w c.sa c.sn S) (hE : Row3 .u32 w c.ea L) (hT : Tb w) :
    Calls Tryz.prog 3 #[.agg (cb c)] w fun e w' => e = .returned (.bool true) ∧ Below w.heap.size w w' := by
  obtain ⟨hrm, _⟩ := rm_b c
  obtain ⟨f, hf⟩ : ∃ f, ct 0 200 c.bh = f := ⟨_, rfl⟩
  obtain ⟨D1, hD1⟩ : ∃ D, dk (sz c.N) c.N c.sn (rm c) 1 0 L f = D := ⟨_, rfl⟩
  obtain ⟨D2, hD2⟩ : ∃ D, dk (rz c.N (rn c)) c.N c.sn (rm c) 2 0 L f = D := ⟨_, rfl⟩
  obtain ⟨o, hone1⟩ := one_of (P := AX c.N L c.seed S) D1 (fun _ _ => AX.one)
  obtain ⟨p, hone2⟩ := one_of (P := AR c.N L c.seed (rn c).toNat S) D2 (fun _ _ => AR.one)
  obtain ⟨b, x, y, hv1, hv1a, hv1b⟩ := vx_shape D1 o
  obtain ⟨b', x', y', hv2, hv2a, hv2b⟩ := vx_shape D2 p
  have hf0 : 0 ≤ f := by rw [← hf]; exact (ct_b 0 200 c.bh (by decide)).1
  obtain ⟨w0, hw0⟩ : ∃ w0, (w.alloc (.cells (cb c) 30)) = w0 := ⟨_, rfl⟩
  have hB0 : Below w.heap.size w w0 := by rw [← hw0]; exact b1 _ _ _
  have hc0 : Cb w0 w.heap.size c := by rw [← hw0]; exact at0 _ _
  have HG7 := hide (g8 c L S f D1 o b x y w hN hs64 hl12 hf0 hsd hT hD1 hone1 hv1)
  have HG15 := hide (g16 c L S f D2 p b' x' y' w hN hs64 hl12 hf0 hsd hT hD2 hone2 hv2)
  have HD1 : Hid (D1 = 0 → AX c.N L c.seed S o → ∀ W, Below w.heap.size w W → Calls Tryz.prog 13 #[.int .u32 (c.N : Int), .int .u64 c.seed, .slice c.ea c.en c.ec, .slice c.sa c.sn c.sc] W fun e w' => e = .returned (.agg #[.bool b, .int .u32 x, .int .i64 y]) ∧ Below W.heap.size W w') := fun h0 hP W hW =>
    d13 c L S f D1 o b x y w hf0 hl12 hsd hL hD1 hv1a hS hE h0 hP W hW
  have HD19 : Hid (D2 = 0 → AR c.N L c.seed (rn c).toNat S p → ∀ W, Below w.heap.size w W → Calls Tryz.prog 19 #[.int .u32 (c.N : Int), .int .i64 (rn c), .int .u64 c.seed, .slice c.ea c.en c.ec, .slice c.sa c.sn c.sc] W fun e w' => e = .returned (.agg #[.bool b', .int .u32 x', .int .i64 y']) ∧ Below W.heap.size W w') := fun h0 hP W hW =>
    d19 c L S f D2 p b' x' y' w hf0 hl12 hsd hL hD2 hv2a hS hE h0 hP W hW
  have HRo := hide (rounds_any c)
  have HRk := hide (ranked_any c hN)
  have HSz := hide (rsized_any c.N)
  have HFg : Hid (∀ wB, Below w.heap.size w wB → ∀ W, Below wB.heap.size wB W → Calls Tryz.prog 9 #[.slice c.ea c.en c.ec, .int .i64 f] W fun e w' => ∃ g Bt Bf, e = .returned (fe Bt Bf) ∧ Fd w' g Bt Bf L f ∧ wB.heap.size ≤ g ∧ wB.heap.size ≤ Bt ∧ wB.heap.size ≤ Bf ∧ Below wB.heap.size wB w' ∧ Below W.heap.size W w') := fun wB hB W hW => by
    rw [hL]
    have h6 := hW.size
    refine (feed_all c.ea c.ec L f W hl12 hec (hE.on (hB.trans (hW.mono hB.size)) (Nat.le_refl _))).mono ?_
    rintro e w' ⟨g, Bt, Bf, rfl, h1, h2, h3, h4, h5⟩
    exact ⟨g, Bt, Bf, rfl, h1, by omega, by omega, by omega, hW.trans (h5.mono hW.size), h5⟩
  have HSt := hide (states_any c.sa c.sn c.sc c.sn S hs64 hs64 w0 (hS.on hB0 (Nat.le_refl _)))
  have HBh := hide (behind_any c)
  rw [hf] at HBh
  have HAs1 : Hid (∀ wB, Below w.heap.size w wB → ∀ W, Below wB.heap.size wB W → Calls Tryz.prog 11 #[.agg (cb c), .int .i64 (sz c.N), .int .u32 (c.N : Int), .int .i64 (c.N : Int), .int .i64 0] W fun e w' => e = .returned (.int .i64 D1) ∧ Below wB.heap.size wB w') := fun wB hB W hW => by
    have h := asked_any c (sz c.N) 0 c.N 1 L hL (by omega) hN (by omega) (by omega) (Or.inl rfl) W (hE.on (hB.trans (hW.mono hB.size)) (Nat.le_refl _))
    rw [Nat.one_mul, hf, hD1] at h
    refine h.mono ?_
    rintro e w' ⟨rfl, hb⟩
    exact ⟨rfl, hW.trans (hb.mono hW.size)⟩
  have HAs2 : Hid (∀ wB, Below w.heap.size w wB → ∀ W, Below wB.heap.size wB W → Calls Tryz.prog 11 #[.agg (cb c), .int .i64 (rz c.N (rn c)), .int .u32 (c.N : Int), .int .i64 (2 * (c.N : Int)), .int .i64 0] W fun e w' => e = .returned (.int .i64 D2) ∧ Below wB.heap.size wB w') := fun wB hB W hW => by
    have h := asked_any c (rz c.N (rn c)) 0 c.N 2 L hL (by omega) hN (by omega) (by omega) (Or.inl rfl) W (hE.on (hB.trans (hW.mono hB.size)) (Nat.le_refl _))
    rw [show ((2 * c.N : Nat) : Int) = 2 * (c.N : Int) by omega, hf, hD2] at h
    refine h.mono ?_
    rintro e w' ⟨rfl, hb⟩
    exact ⟨rfl, hW.trans (hb.mono hW.size)⟩
  have HAg1 : Hid (∀ W, Calls Tryz.prog 14 #[.agg #[.bool b, .int .u32 x, .int .i64 y], .int .i64 D1, .agg #[.bool b, .int .u32 x, .int .i64 y], .int .i64 D1] W fun e w' => e = .returned (.bool true) ∧ Below W.heap.size W w') := fun W => by
    have h := agree_any D1 o b x y hv1a W
    rw [hv1] at h
    exact h
  have HAg2 : Hid (∀ bb xx yy, (D2 = 0 → bb = b' ∧ xx = x' ∧ yy = y') → ∀ W, Calls Tryz.prog 14 #[.agg #[.bool b', .int .u32 x', .int .i64 y'], .int .i64 D2, .agg #[.bool bb, .int .u32 xx, .int .i64 yy], .int .i64 D2] W fun e w' => e = .returned (.bool true) ∧ Below W.heap.size W w') := fun bb xx yy hb W => by
    have h := agree_any D2 p bb xx yy (fun h0 => by obtain ⟨rfl, rfl, rfl⟩ := hb h0; exact hv2a h0) W
    rw [hv2] at h
    exact h
  have HSpare1 : Hid (∀ W rb, Sp W rb c.N (rm c) → Calls Tryz.prog 15 #[.slice (some ⟨rb, 0, none⟩) (rm c) (rm c), .int .i64 (c.N : Int)] W fun e w' => e = .returned (.bool true) ∧ w' = W) := fun W rb h => spare_any rb (rm c) c.N hrm (by omega) W (fun j h1 h2 => h.cell j h1 h2)
  have HSpare : Hid (∀ W rb, Sp W rb (2 * c.N) (rm c) → Calls Tryz.prog 15 #[.slice (some ⟨rb, 0, none⟩) (rm c) (rm c), .int .i64 (2 * (c.N : Int))] W fun e w' => e = .returned (.bool true) ∧ w' = W) := fun W rb h => by
    have h0 := spare_any rb (rm c) (2 * c.N) hrm (by omega) W (fun j h1 h2 => h.cell j h1 h2)
    rw [show ((2 * c.N : Nat) : Int) = 2 * (c.N : Int) by omega] at h0
    exact h0
  have HKept : Hid (∀ sg cap, c.sn + 2 ≤ cap → ∀ W, Below w.heap.size w W → SR W sg (c.sn + 2) (mk c.sn c.sn S) → Calls Tryz.prog 20 #[.slice (some ⟨sg, 0, none⟩) c.sn cap, .slice c.sa c.sn c.sc] W fun e w' => e = .returned (.bool true) ∧ Below W.heap.size W w') := fun sg cap hcap W hW hr =>
    kept_any c.sa c.sn c.sc sg cap S hs64 hcap W (hS.on hW (Nat.le_refl _)) hr
  have hcv : IntKind.i64.wrap (c.N : Int) = c.N := i64w _ (by omega)
  have hcv2 : IntKind.i64.wrap (2 * (c.N : Int)) = 2 * (c.N : Int) := by
    rw [show 2 * (c.N : Int) = ((2 * c.N : Nat) : Int) by omega]; exact i64w _ (by omega)
  have hcw : wrap64 (c.N : Int) = c.N := by unfold wrap64; omega
  have hcw2 : wrap64 (2 * (c.N : Int)) = 2 * (c.N : Int) := cw2 c.N hN
  have HV1 := hide hv1b
  have hk0 := hc0.k
  have HC0 := hide hc0
  have HB0 := hide hB0
  have HW0 := hide hw0
  clear hS hE hc0 hB0 hone1 hone2 hv1 hv2 hv1a hv2a hv1b hv2b hD1 hD2 hf hf0 hL hec hsd hT
  obtain ⟨k0, k1, k2, _⟩ := hk0
  rw [← hw0] at k1
  clear hw0 k0 k2
  go_enter Tryz.func3, Tryz.ntmps3
  go_wp2_with (fail)
  rw [HW0.out]
  clear k1
  refine HSt.out.mono ?_
  rintro e1 w1 ⟨sg, cap, rfl, hcap, hsg, hSR, hB1⟩
  have hB01 : Below w.heap.size w w1 := HB0.out.trans (hB1.mono HB0.out.size)
  have hsz0 : w.heap.size < w0.heap.size := HC0.out.lt
  have hC1 : Cb w1 w.heap.size c := (hB1.block _ hsz0).trans HC0.out
  obtain ⟨d0, d1, d2, d3, d4, d5, d6, d7, d8, d9, d10, d11, d12, d13⟩ := hC1.k
  have HWd := hide (words_any c w1)
  have HC1 := hide hC1
  have HB01 := hide hB01
  have HSR := hide hSR
  have HSG : Hid (w0.heap.size ≤ sg ∧ w.heap.size < w0.heap.size) := ⟨hsg, hsz0⟩
  have HCap := hide hcap
  clear hcap hB1 hC1 hB01 hSR HSt HC0 HB0 hsg hsz0
  go_wp2_with (fail)
  refine HWd.out.mono ?_
  rintro e2 w2 ⟨rb, rfl, hrb, hG2, _, hB2⟩
  clear d0 d1 d2 d3 d4 d5 d6 d7 d8 d9 d10 d11 d12 d13
  have hs1 : sg < w1.heap.size := HSR.out.lt
  have HC2 : Hid (Cb w2 w.heap.size c) := (hB2.block _ (by have := HSG.out; omega)).trans HC1.out
  have HB02 : Hid (Below w.heap.size w w2) := HB01.out.trans (hB2.mono HB01.out.size)
  have HSR2 : Hid (SR w2 sg (c.sn + 2) (mk c.sn c.sn S)) := HSR.out.of (hB2.block _ hs1)
  have HR : Hid (w.heap.size < sg ∧ sg < rb ∧ rb < w2.heap.size) := ⟨by have := HSG.out; omega, by omega, hG2.lt⟩
  have HL4 := hide (HG7.out w2 sg cap rb HC2.out HSR2.out ⟨_, hG2, fun _ _ _ => rfl⟩ HB02.out HR.out.1 HR.out.2.1)
  have HFd := hide (HFg.out w2 HB02.out)
  clear hG2 hB2 hrb hs1 HC1 HB01 HSR HSG HWd HG7
  have HKg : Hid (∀ W, Below w2.heap.size w2 W → K14 w.heap.size c W) := fun W h => (show Cb W w.heap.size c from (h.block _ HC2.out.lt).trans HC2.out).k
  go_wp2_with (fail)
  apply wp_cutF (fun vb w' => T5 w c sg rb c.N S (D1 = 0 → AX c.N L c.seed S o) b x y vb w' ∧ w.heap.size ≤ vb) (fun vb fv => { tmps := #[.agg (cb c), .pointer (some ⟨w.heap.size, 0, none⟩), .bool false, .slice (some ⟨sg, 0, none⟩) c.sn cap, .slice (some ⟨rb, 0, none⟩) (rm c) (rm c), .pointer (some ⟨vb, 0, none⟩), .int .i64 D1, undef, undef, undef, undef, undef, .pointer (some ⟨w.heap.size, 1, none⟩), .slice c.sa c.sn c.sc, .pointer (some ⟨w.heap.size, 1, none⟩), .slice c.sa c.sn c.sc, .int .i64 (c.sn : Int), .slice (some ⟨sg, 0, none⟩) c.sn cap, .agg #[.int .u32 (c.N : Int), .slice c.sa c.sn c.sc, .slice c.ea c.en c.ec, .int .i64 c.bh, .int .i64 c.room, .int .u32 c.src, .slice c.qa c.qn c.qc, .int .i64 c.kind, .int .u32 c.rN, .int .u32 c.rA, .int .u32 c.rC, .int .u32 c.damp, .int .i64 c.rounds, .int .u64 c.seed], .slice (some ⟨rb, 0, none⟩) (rm c) (rm c), .tuple #[.agg #[.bool b, .int .u32 x, .int .i64 y], .int .i64 D1], .pointer (some ⟨w.heap.size, 0, none⟩), .int .u32 (c.N : Int), .pointer (some ⟨w.heap.size, 13, none⟩), .int .u64 c.seed, .pointer (some ⟨w.heap.size, 2, none⟩), .slice c.ea c.en c.ec, .agg #[.int .u32 (c.N : Int), .slice c.sa c.sn c.sc, .slice c.ea c.en c.ec, .int .i64 c.bh, .int .i64 c.room, .int .u32 c.src, .slice c.qa c.qn c.qc, .int .i64 c.kind, .int .u32 c.rN, .int .u32 c.rA, .int .u32 c.rC, .int .u32 c.damp, .int .i64 c.rounds, .int .u64 c.seed], .int .i64 f, fv, .slice (some ⟨sg, 0, none⟩) c.sn cap, .slice (some ⟨rb, 0, none⟩) (rm c) (rm c), .tuple #[.agg #[.bool b, .int .u32 x, .int .i64 y], .int .i64 D1], .agg #[.bool b, .int .u32 x, .int .i64 y], .int .i64 D1, undef, undef, undef, undef, undef, undef, undef, undef, undef, undef, undef, undef, undef, undef, undef, undef, undef, undef, undef, undef, undef, undef, undef, undef, undef, undef, undef, undef, undef, undef, undef, undef, undef, undef, undef, undef, undef, undef, undef, undef, undef, undef, undef, undef, undef, undef, undef, undef, undef, undef, undef, undef, undef, undef, undef, undef, undef, undef, undef, undef, undef, undef, undef, undef, undef, undef, undef, undef, undef, undef, undef, undef, undef, undef, undef, undef, undef, undef, undef, undef, undef, undef, undef, undef, undef, undef, undef, undef, undef, undef, undef, undef, undef, undef, undef, undef, undef, undef, undef], defers := [] })
  case h =>
    go_region_held3 (K14 w.heap.size c) ((first | with_reducible exact HK4.out | with_reducible exact HK5.out _ | with_reducible exact K14s HC4.out _ HVB.out _ _ _ | (refine HKg.out _ ?_; repeat (first | with_reducible exact HB3.out | with_reducible exact Below.refl _ _ | with_reducible refine belowD ?_ | with_reducible refine bA2 ?_ _)))) ((first
      | (go_at_call 10; refine (HBh.out _).mono ?_; rintro e1 w1 ⟨rfl, rfl⟩)
      | (go_at_call 9; refine (HFd.out _ (by repeat (first | with_reducible exact Below.refl _ _ | with_reducible refine belowD ?_ | with_reducible refine bA2 ?_ _))).mono ?_; rintro e3 w3 ⟨g, Bt, Bf, rfl, hFd3, hg3, ht3, hf3, hB3, hB3'⟩; have HB3 := hide hB3; have HF3 := hide (And.intro hFd3 (And.intro hg3 (And.intro ht3 hf3))); (first | (have HZ3 := hide ((z_a w2 _).b hB3'); clear hB3') | (have HZ3 := hide ((z_b w2 _).b hB3'); clear hB3') | clear hB3'); clear hFd3 hg3 ht3 hf3 hB3)
      | (go_at_call 8; refine (HL4.out _ g Bt Bf (by first | exact HF3.out.1 | exact HF3.out.1.al _) HF3.out.2.1 HF3.out.2.2.1 HF3.out.2.2.2 (by repeat (first | with_reducible exact HB3.out | with_reducible refine belowD ?_ | with_reducible refine bA2 ?_ _))).mono ?_; rintro e4 w4 ⟨rfl, hA4, hS4, hD4, hC4, hR4, hB4, hz4⟩; have HA4 := hide hA4; have HS4 := hide hS4; have HC4 := hide hC4; have HR4 := hide hR4; have HB4 := hide hB4; have HZ4 := hide hz4; (first | (have hz5 := HZ3.out.c hD4 (by have := HR.out; omega); have HVB := hide (nevb hz5 hC4); obtain ⟨m0, m1, m2, f0, f1, f2⟩ := z35 hz5; have HZ5 := hide hz5; clear hz5) | (have hz5 := (z_c w3).c hD4 (by have := HB3.out.size; have := HR.out; omega); have HVB := hide (nevb hz5 hC4); obtain ⟨m0, m1, m2, f0, f1, f2⟩ := z35 hz5; have HZ5 := hide hz5; clear hz5) | skip); clear hA4 hS4 hD4 hC4 hR4 hB4 hz4; have HK4 : Hid (K14 w.heap.size c w4) := HC4.out.k; have HK5 : Hid (∀ o, K14 w.heap.size c (w4.alloc o)) := fun o => (show Cb (w4.alloc o) w.heap.size c from keep o HC4.out).k)))
    · exact ⟨_, _, rfl, T5.new HA4.out HS4.out HC4.out HR4.out HB4.out, HB4.out.size⟩
    · exact ⟨_, _, rfl, T5.old HZ5.out (by have := HB3.out.size; have := HR.out; omega) HA4.out HS4.out HC4.out HR4.out HB4.out, (by have := HB3.out.size; have := HR.out; omega)⟩
    · exact ⟨_, _, rfl, T5.old HZ5.out (by have := HR.out; omega) HA4.out HS4.out HC4.out HR4.out HB4.out, (by have := HR.out; omega)⟩
    · exact ⟨_, _, rfl, T5.old HZ5.out (by have := HR.out; omega) HA4.out HS4.out HC4.out HR4.out HB4.out, (by have := HR.out; omega)⟩
  case hq =>
    rintro vb fv w5 ⟨⟨hv5, hA5, hS5, hC5, hR5, hB5⟩, hvb5⟩
    dsimp only
    have HV5 := hide hv5
    have HA5 := hide hA5
    have HS5 := hide hS5
    have HC5 := hide hC5
    have HR5 := hide hR5
    have HB5 := hide hB5
    have Hvb5 := hide hvb5
    clear hvb5
    clear hv5 hA5 hS5 hC5 hR5 hB5 HFd HL4 HC2 HB02 HSR2 HKg
    have HAsk := hide (HAs1.out w5 HB5.out)
    have HKg : Hid (∀ W, Below w5.heap.size w5 W → K14 w.heap.size c W) := fun W h => (show Cb W w.heap.size c from (h.block _ HC5.out.lt).trans HC5.out).k
    go_wp2_with (fail)
    apply wp_cut (fun w' => Below w5.heap.size w5 w')
    case h =>
      go_region_held3 (K14 w.heap.size c) ((refine HKg.out _ ?_; repeat (first | with_reducible exact HB6.out | with_reducible exact Below.refl _ _ | with_reducible refine belowD ?_ | with_reducible refine bA2 ?_ _))) ((first | (go_at_call 12; refine (HSz.out _).mono ?_; rintro e1 w1 ⟨rfl, rfl⟩) | (go_at_call 11; refine (HAsk.out _ (by repeat (first | with_reducible exact Below.refl _ _ | with_reducible refine belowD ?_ | with_reducible refine bA2 ?_ _))).mono ?_; rintro e6 w6 ⟨rfl, hB6⟩; have HB6 := hide hB6; clear hB6) | fail "no arm"))
      all_goals exact ⟨rfl, HB6.out⟩
    case hq =>
      intro w6 hB6
      have HB6 := hide hB6
      clear hB6 HAsk HKg
      obtain ⟨w7, hw7⟩ : ∃ w7, w6.alloc (.cells z3 35) = w7 := ⟨_, rfl⟩
      have HX7 : Hid (St w c S c.N sg rb vb w6.heap.size #[.bool b, .int .u32 x, .int .i64 y] z3 w7) := by
        have hb : Below w5.heap.size w5 w7 := by rw [← hw7]; exact bA2 HB6.out _
        have h1 := lt_of_some HV5.out
        have h2 := HB6.out.size
        have h3 := HB5.out.size
        exact ⟨(hb.block _ HC5.out.lt).trans HC5.out, HR5.out.of (hb.block _ HR5.out.lt), HS5.out.of (hb.block _ HS5.out.lt), (hb.block _ (lt_of_some HV5.out)).trans HV5.out, by rw [← hw7]; exact at0 _ _, HB5.out.trans (hb.mono HB5.out.size), Hvb5.out, by omega, by omega⟩
      clear HV5 HC5 HR5 HS5 HB5 HB6 Hvb5
      obtain ⟨ub, hub⟩ : ∃ ub, ub = w6.heap.size := ⟨_, rfl⟩
      rw [← hub] at HX7
      have HW7 := hide hw7
      have Hub := hide hub
      clear hw7 hub
      by_cases hD0 : D1 = 0
      · have hDb : (D1 == 0) = true := by simpa using hD0
        have HD0 := hide hD0
        clear hD0
        obtain ⟨k0, k1, k2, _, _, _, _, _, _, _, _, _, _, k13⟩ := HX7.out.hC.k
        rw [← HW7.out] at k0 k1 k2 k13
        have HDa := hide (HD1.out HD0.out (HA5.out HD0.out))
        clear HD1 HA5
        go_wp2_with (fail)
        rw [HW7.out, ← Hub.out]
        refine (HDa.out _ HX7.out.hB).mono ?_
        rintro e8 w8 ⟨rfl, hB8⟩
        have HX8 := hide (HX7.out.b hB8)
        obtain ⟨z0, z1, z2⟩ := c35 HX8.out.hU
        obtain ⟨f0, f1, f2⟩ := f35 HX8.out.hU
        obtain ⟨w9, hw9⟩ : ∃ w9, ((w8.setCell ⟨ub, 0, none⟩ (.bool b)).setCell ⟨ub, 1, none⟩ (.int .u32 x)).setCell ⟨ub, 2, none⟩ (.int .i64 y) = w9 := ⟨_, rfl⟩
        have HX9 : Hid (St w c S c.N sg rb vb ub #[.bool b, .int .u32 x, .int .i64 y] #[.bool b, .int .u32 x, .int .i64 y] w9) := by
          show St _ _ _ _ _ _ _ _ _ _ _
          rw [← hw9]; exact HX8.out.su rfl _ _ _
        obtain ⟨m0, m1, m2⟩ := c35 HX9.out.hV
        obtain ⟨q0, q1, q2⟩ := c35 HX9.out.hU
        clear hB8 HX7 HX8 k0 k1 k2 k13 HDa
        go_wp2_with (fail)
        clear m0 m1 m2 q0 q1 q2 z0 z1 z2 f0 f1 f2 hw9
        refine (HAg1.out _).mono ?_
        rintro e10 w10 ⟨rfl, hB10⟩
        have HX10 := hide (HX9.out.b hB10)
        have k10 := HX10.out.hC.k.1
        clear hB10 HX9
        go_wp2_with (fail)
        refine (HSpare1.out w10 rb HX10.out.hS).mono ?_
        rintro e11 w11 ⟨rfl, he11⟩
        subst w11
        have HX11 := hide HX10.out.wk
        have HKg : Hid (∀ W, Below w10.heap.size w10 W → K14 w.heap.size c W) := fun W h => (HX11.out.b h).hC.k
        have HFd := hide (HFg.out w10 HX11.out.hB)
        have HL4 := hide (HG15.out w10 sg cap rb HX10.out.hC HX10.out.hR HX10.out.hS HX10.out.hB HR.out.1 HR.out.2.1)
        clear k10 HX10
        go_wp2_with (fail)
        go_region_held3 (K14 w.heap.size c) ((first | with_reducible exact HK22.out | with_reducible exact K14s HX22.out.hC _ HVB22.out _ _ _ | (refine HKg.out _ ?_; repeat (first | with_reducible exact HB13.out | with_reducible exact Below.refl _ _ | with_reducible refine belowD ?_ | with_reducible refine bA2 ?_ _)))) ((first
          | (go_at_call 17; refine (HRo.out _).mono ?_; rintro e1 w1 ⟨rfl, rfl⟩)
          | (go_at_call 10; refine (HBh.out _).mono ?_; rintro e1 w1 ⟨rfl, rfl⟩)
          | (go_at_call 9; refine (HFd.out _ (by repeat (first | with_reducible exact Below.refl _ _ | with_reducible refine belowD ?_ | with_reducible refine bA2 ?_ _))).mono ?_; rintro e13 w13 ⟨g, Bt, Bf, rfl, hFd3, hg3, ht3, hf3, hB3, hB3'⟩; have HB13 := hide hB3; have HF3 := hide (And.intro hFd3 (And.intro hg3 (And.intro ht3 hf3))); clear hFd3 hg3 ht3 hf3 hB3 hB3')
          | (go_at_call 16; refine (HL4.out _ g Bt Bf (by first | exact HF3.out.1 | exact HF3.out.1.al _) HF3.out.2.1 HF3.out.2.2.1 HF3.out.2.2.2 (by repeat (first | with_reducible exact HB13.out | with_reducible refine belowD ?_ | with_reducible refine bA2 ?_ _))).mono ?_; rintro e22 w22 ⟨rfl, hA4, hS4, hD4, hC4, hR4, hB4, hz4⟩; have HX22 := hide (HX11.out.ch (by repeat (first | with_reducible exact HB13.out | with_reducible refine belowD ?_ | with_reducible refine bA2 ?_ _)) hD4 hC4 hR4 hS4 hB4); have HP2 := hide hA4; obtain ⟨m0, m1, m2⟩ := c35 HX22.out.hV; obtain ⟨f0, f1, f2⟩ := f35 HX22.out.hV; have HK22 : Hid (K14 w.heap.size c w22) := HX22.out.hC.k; have HVB22 := hide (ne_cb HX22.out.hC HX22.out.hV); clear hA4 hS4 hD4 hC4 hR4 hB4 hz4)
          | fail "no arm"))
        obtain ⟨w12, hw12⟩ : ∃ w12, ((w22.setCell ⟨vb, 0, none⟩ (.bool b')).setCell ⟨vb, 1, none⟩ (.int .u32 x')).setCell ⟨vb, 2, none⟩ (.int .i64 y') = w12 := ⟨_, rfl⟩
        rw [hw12]
        have HX12 : Hid (St w c S (2 * c.N) sg rb vb ub #[.bool b', .int .u32 x', .int .i64 y'] #[.bool b, .int .u32 x, .int .i64 y] w12) := by
          show St _ _ _ _ _ _ _ _ _ _ _
          rw [← hw12]; exact HX22.out.sv rfl _ _ _
        clear hw12 m0 m1 m2 f0 f1 f2 HX11 HX22 HK22 HVB22 HKg HFd HL4 HB13 HF3
        have HAsk := hide (HAs2.out w12 HX12.out.hB)
        have HRkk : Hid (∀ W, Below w12.heap.size w12 W → Calls Tryz.prog 18 #[.agg (cb c), .bool false] W fun e w' => e = .returned (.int .i64 (rz c.N (rn c))) ∧ Below w12.heap.size w12 w') := fun W hW => by
          refine (HRk.out W).mono ?_
          rintro e w' ⟨rfl, hb⟩
          exact ⟨rfl, hW.trans (hb.mono hW.size)⟩
        have HKg : Hid (∀ W, Below w12.heap.size w12 W → K14 w.heap.size c W) := fun W h => (HX12.out.b h).hC.k
        go_wp2_with (fail)
        apply wp_cut (fun w' => Below w12.heap.size w12 w')
        case h =>
          go_region_held3 (K14 w.heap.size c) ((refine HKg.out _ ?_; repeat (first | with_reducible exact HB6.out | with_reducible exact HB5.out | with_reducible exact Below.refl _ _ | with_reducible refine belowD ?_ | with_reducible refine bA2 ?_ _))) ((first | (go_at_call 18; refine (HRkk.out _ (by repeat (first | with_reducible exact Below.refl _ _ | with_reducible refine belowD ?_ | with_reducible refine bA2 ?_ _))).mono ?_; rintro e5 w5 ⟨rfl, hB5⟩; have HB5 := hide hB5; clear hB5) | (go_at_call 11; refine (HAsk.out _ HB5.out).mono ?_; rintro e6 w6 ⟨rfl, hB6⟩; have HB6 := hide hB6; clear hB6) | fail "no arm"))
          all_goals exact ⟨rfl, HB6.out⟩
        case hq =>
          intro w13 hB13
          have HX13 := hide (HX12.out.b hB13)
          clear hB13 HX12 HAsk HKg HRkk
          by_cases hE0 : D2 = 0
          · have hEb : (D2 == 0) = true := by simpa using hE0
            have HE0 := hide hE0
            clear hE0
            have HKg : Hid (∀ W, Below w13.heap.size w13 W → K14 w.heap.size c W) := fun W h => (HX13.out.b h).hC.k
            have HDd : Hid (∀ W, Below w13.heap.size w13 W → Calls Tryz.prog 19 #[.int .u32 (c.N : Int), .int .i64 (rn c), .int .u64 c.seed, .slice c.ea c.en c.ec, .slice c.sa c.sn c.sc] W fun e w' => e = .returned (.agg #[.bool b', .int .u32 x', .int .i64 y']) ∧ Below w13.heap.size w13 w') := fun W hW => by
              refine (HD19.out HE0.out (HP2.out HE0.out) W (HX13.out.b hW).hB).mono ?_
              rintro e w' ⟨rfl, h2⟩
              exact ⟨rfl, hW.trans (h2.mono hW.size)⟩
            go_wp2_with (fail)
            go_region_held3 (K14 w.heap.size c) ((first | with_reducible exact HK16.out | with_reducible exact K14s HX16.out.hC _ HUB16.out _ _ _ | (refine HKg.out _ ?_; repeat (first | with_reducible exact HB16.out | with_reducible exact Below.refl _ _ | with_reducible refine belowD ?_ | with_reducible refine bA2 ?_ _)))) ((first
              | (go_at_call 17; refine (HRo.out _).mono ?_; rintro e1 w1 ⟨rfl, rfl⟩)
              | (go_at_call 19; refine (HDd.out _ (by repeat (first | with_reducible exact Below.refl _ _ | with_reducible refine belowD ?_ | with_reducible refine bA2 ?_ _))).mono ?_; rintro e16 w16 ⟨rfl, hB16⟩; have HB16 := hide hB16; have HX16 := hide (HX13.out.b hB16); obtain ⟨z0, z1, z2⟩ := c35 HX16.out.hU; obtain ⟨f0, f1, f2⟩ := f35 HX16.out.hU; have HK16 : Hid (K14 w.heap.size c w16) := HX16.out.hC.k; have HUB16 := hide (ne_cb HX16.out.hC HX16.out.hU); clear hB16)
              | fail "no arm"))
            obtain ⟨w17, hw17⟩ : ∃ w17, ((w16.setCell ⟨ub, 0, none⟩ (.bool b')).setCell ⟨ub, 1, none⟩ (.int .u32 x')).setCell ⟨ub, 2, none⟩ (.int .i64 y') = w17 := ⟨_, rfl⟩
            rw [hw17]
            have HX17 : Hid (St w c S (2 * c.N) sg rb vb ub #[.bool b', .int .u32 x', .int .i64 y'] #[.bool b', .int .u32 x', .int .i64 y'] w17) := by
              show St _ _ _ _ _ _ _ _ _ _ _
              rw [← hw17]; exact HX16.out.su rfl _ _ _
            obtain ⟨m0, m1, m2⟩ := c35 HX17.out.hV
            obtain ⟨q0, q1, q2⟩ := c35 HX17.out.hU
            clear hw17 HX13 HX16 HK16 HUB16 HB16 HDd HKg z0 z1 z2 f0 f1 f2
            go_wp2_with (fail)
            clear m0 m1 m2 q0 q1 q2
            refine (HAg2.out _ _ _ ?_ _).mono ?_
            · exact fun _ => ⟨rfl, rfl, rfl⟩
            rintro e18 w18 ⟨rfl, hB18⟩
            have HX18 := hide (HX17.out.b hB18)
            have k9 := HX18.out.hC.k.2.1
            clear hB18 HX17
            go_wp2_with (fail)
            refine (HKept.out sg cap HCap.out w18 HX18.out.hB HX18.out.hR).mono ?_
            rintro e19 w19 ⟨rfl, hB19⟩
            have HX19 := hide (HX18.out.b hB19)
            have k10 := HX19.out.hC.k.1
            clear hB19 HX18 k9
            go_wp2_with (fail)
            refine (HSpare.out w19 rb HX19.out.hS).mono ?_
            rintro e20 w20 ⟨rfl, rfl⟩
            clear k10
            go_wp2
            all_goals go_ret
            all_goals exact ⟨rfl, HX19.out.hB⟩
          · have hEb : (D2 == 0) = false := by simpa using hE0
            have HE0 := hide hE0
            clear hE0
            have HX17 := HX13
            clear HX13
            obtain ⟨m0, m1, m2⟩ := c35 HX17.out.hV
            obtain ⟨q0, q1, q2⟩ := c35 HX17.out.hU
            go_wp2_with (fail)
            clear m0 m1 m2 q0 q1 q2
            refine (HAg2.out _ _ _ ?_ _).mono ?_
            · exact fun h => absurd h HE0.out
            rintro e18 w18 ⟨rfl, hB18⟩
            have HX18 := hide (HX17.out.b hB18)
            have k9 := HX18.out.hC.k.2.1
            clear hB18 HX17
            go_wp2_with (fail)
            refine (HKept.out sg cap HCap.out w18 HX18.out.hB HX18.out.hR).mono ?_
            rintro e19 w19 ⟨rfl, hB19⟩
            have HX19 := hide (HX18.out.b hB19)
            have k10 := HX19.out.hC.k.1
            clear hB19 HX18 k9
            go_wp2_with (fail)
            refine (HSpare.out w19 rb HX19.out.hS).mono ?_
            rintro e20 w20 ⟨rfl, rfl⟩
            clear k10
            go_wp2
            all_goals go_ret
            all_goals exact ⟨rfl, HX19.out.hB⟩
      · have hDb : (D1 == 0) = false := by simpa using hD0
        have HD0 := hide hD0
        clear hD0
        obtain ⟨eb, ex, ey⟩ := HV1.out HD0.out
        have HX9 : Hid (St w c S c.N sg rb vb ub #[.bool b, .int .u32 x, .int .i64 y] #[.bool b, .int .u32 x, .int .i64 y] w7) := by
          have h := HX7.out
          rw [show z3 = #[Value.bool b, .int .u32 x, .int .i64 y] by rw [eb, ex, ey]] at h
          exact h
        clear eb ex ey HX7
        obtain ⟨m0, m1, m2⟩ := c35 HX9.out.hV
        obtain ⟨q0, q1, q2⟩ := c35 HX9.out.hU
        rw [← HW7.out] at m0 m1 m2 q0 q1 q2
        rw [Hub.out] at q0 q1 q2
        go_wp2_with (fail)
        rw [HW7.out]
        clear m0 m1 m2 q0 q1 q2
        rw [← Hub.out]
        refine (HAg1.out _).mono ?_
        rintro e10 w10 ⟨rfl, hB10⟩
        have HX10 := hide (HX9.out.b hB10)
        have k10 := HX10.out.hC.k.1
        clear hB10 HX9
        go_wp2_with (fail)
        refine (HSpare1.out w10 rb HX10.out.hS).mono ?_
        rintro e11 w11 ⟨rfl, he11⟩
        subst w11
        have HX11 := hide HX10.out.wk
        have HKg : Hid (∀ W, Below w10.heap.size w10 W → K14 w.heap.size c W) := fun W h => (HX11.out.b h).hC.k
        have HFd := hide (HFg.out w10 HX11.out.hB)
        have HL4 := hide (HG15.out w10 sg cap rb HX10.out.hC HX10.out.hR HX10.out.hS HX10.out.hB HR.out.1 HR.out.2.1)
        clear k10 HX10
        go_wp2_with (fail)
        go_region_held3 (K14 w.heap.size c) ((first | with_reducible exact HK22.out | with_reducible exact K14s HX22.out.hC _ HVB22.out _ _ _ | (refine HKg.out _ ?_; repeat (first | with_reducible exact HB13.out | with_reducible exact Below.refl _ _ | with_reducible refine belowD ?_ | with_reducible refine bA2 ?_ _)))) ((first
          | (go_at_call 17; refine (HRo.out _).mono ?_; rintro e1 w1 ⟨rfl, rfl⟩)
          | (go_at_call 10; refine (HBh.out _).mono ?_; rintro e1 w1 ⟨rfl, rfl⟩)
          | (go_at_call 9; refine (HFd.out _ (by repeat (first | with_reducible exact Below.refl _ _ | with_reducible refine belowD ?_ | with_reducible refine bA2 ?_ _))).mono ?_; rintro e13 w13 ⟨g, Bt, Bf, rfl, hFd3, hg3, ht3, hf3, hB3, hB3'⟩; have HB13 := hide hB3; have HF3 := hide (And.intro hFd3 (And.intro hg3 (And.intro ht3 hf3))); clear hFd3 hg3 ht3 hf3 hB3 hB3')
          | (go_at_call 16; refine (HL4.out _ g Bt Bf (by first | exact HF3.out.1 | exact HF3.out.1.al _) HF3.out.2.1 HF3.out.2.2.1 HF3.out.2.2.2 (by repeat (first | with_reducible exact HB13.out | with_reducible refine belowD ?_ | with_reducible refine bA2 ?_ _))).mono ?_; rintro e22 w22 ⟨rfl, hA4, hS4, hD4, hC4, hR4, hB4, hz4⟩; have HX22 := hide (HX11.out.ch (by repeat (first | with_reducible exact HB13.out | with_reducible refine belowD ?_ | with_reducible refine bA2 ?_ _)) hD4 hC4 hR4 hS4 hB4); have HP2 := hide hA4; obtain ⟨m0, m1, m2⟩ := c35 HX22.out.hV; obtain ⟨f0, f1, f2⟩ := f35 HX22.out.hV; have HK22 : Hid (K14 w.heap.size c w22) := HX22.out.hC.k; have HVB22 := hide (ne_cb HX22.out.hC HX22.out.hV); clear hA4 hS4 hD4 hC4 hR4 hB4 hz4)
          | fail "no arm"))
        obtain ⟨w12, hw12⟩ : ∃ w12, ((w22.setCell ⟨vb, 0, none⟩ (.bool b')).setCell ⟨vb, 1, none⟩ (.int .u32 x')).setCell ⟨vb, 2, none⟩ (.int .i64 y') = w12 := ⟨_, rfl⟩
        rw [hw12]
        have HX12 : Hid (St w c S (2 * c.N) sg rb vb ub #[.bool b', .int .u32 x', .int .i64 y'] #[.bool b, .int .u32 x, .int .i64 y] w12) := by
          show St _ _ _ _ _ _ _ _ _ _ _
          rw [← hw12]; exact HX22.out.sv rfl _ _ _
        clear hw12 m0 m1 m2 f0 f1 f2 HX11 HX22 HK22 HVB22 HKg HFd HL4 HB13 HF3
        have HAsk := hide (HAs2.out w12 HX12.out.hB)
        have HRkk : Hid (∀ W, Below w12.heap.size w12 W → Calls Tryz.prog 18 #[.agg (cb c), .bool false] W fun e w' => e = .returned (.int .i64 (rz c.N (rn c))) ∧ Below w12.heap.size w12 w') := fun W hW => by
          refine (HRk.out W).mono ?_
          rintro e w' ⟨rfl, hb⟩
          exact ⟨rfl, hW.trans (hb.mono hW.size)⟩
        have HKg : Hid (∀ W, Below w12.heap.size w12 W → K14 w.heap.size c W) := fun W h => (HX12.out.b h).hC.k
        go_wp2_with (fail)
        apply wp_cut (fun w' => Below w12.heap.size w12 w')
        case h =>
          go_region_held3 (K14 w.heap.size c) ((refine HKg.out _ ?_; repeat (first | with_reducible exact HB6.out | with_reducible exact HB5.out | with_reducible exact Below.refl _ _ | with_reducible refine belowD ?_ | with_reducible refine bA2 ?_ _))) ((first | (go_at_call 18; refine (HRkk.out _ (by repeat (first | with_reducible exact Below.refl _ _ | with_reducible refine belowD ?_ | with_reducible refine bA2 ?_ _))).mono ?_; rintro e5 w5 ⟨rfl, hB5⟩; have HB5 := hide hB5; clear hB5) | (go_at_call 11; refine (HAsk.out _ HB5.out).mono ?_; rintro e6 w6 ⟨rfl, hB6⟩; have HB6 := hide hB6; clear hB6) | fail "no arm"))
          all_goals exact ⟨rfl, HB6.out⟩
        case hq =>
          intro w13 hB13
          have HX13 := hide (HX12.out.b hB13)
          clear hB13 HX12 HAsk HKg HRkk
          by_cases hE0 : D2 = 0
          · have hEb : (D2 == 0) = true := by simpa using hE0
            have HE0 := hide hE0
            clear hE0
            have HKg : Hid (∀ W, Below w13.heap.size w13 W → K14 w.heap.size c W) := fun W h => (HX13.out.b h).hC.k
            have HDd : Hid (∀ W, Below w13.heap.size w13 W → Calls Tryz.prog 19 #[.int .u32 (c.N : Int), .int .i64 (rn c), .int .u64 c.seed, .slice c.ea c.en c.ec, .slice c.sa c.sn c.sc] W fun e w' => e = .returned (.agg #[.bool b', .int .u32 x', .int .i64 y']) ∧ Below w13.heap.size w13 w') := fun W hW => by
              refine (HD19.out HE0.out (HP2.out HE0.out) W (HX13.out.b hW).hB).mono ?_
              rintro e w' ⟨rfl, h2⟩
              exact ⟨rfl, hW.trans (h2.mono hW.size)⟩
            go_wp2_with (fail)
            go_region_held3 (K14 w.heap.size c) ((first | with_reducible exact HK16.out | with_reducible exact K14s HX16.out.hC _ HUB16.out _ _ _ | (refine HKg.out _ ?_; repeat (first | with_reducible exact HB16.out | with_reducible exact Below.refl _ _ | with_reducible refine belowD ?_ | with_reducible refine bA2 ?_ _)))) ((first
              | (go_at_call 17; refine (HRo.out _).mono ?_; rintro e1 w1 ⟨rfl, rfl⟩)
              | (go_at_call 19; refine (HDd.out _ (by repeat (first | with_reducible exact Below.refl _ _ | with_reducible refine belowD ?_ | with_reducible refine bA2 ?_ _))).mono ?_; rintro e16 w16 ⟨rfl, hB16⟩; have HB16 := hide hB16; have HX16 := hide (HX13.out.b hB16); obtain ⟨z0, z1, z2⟩ := c35 HX16.out.hU; obtain ⟨f0, f1, f2⟩ := f35 HX16.out.hU; have HK16 : Hid (K14 w.heap.size c w16) := HX16.out.hC.k; have HUB16 := hide (ne_cb HX16.out.hC HX16.out.hU); clear hB16)
              | fail "no arm"))
            obtain ⟨w17, hw17⟩ : ∃ w17, ((w16.setCell ⟨ub, 0, none⟩ (.bool b')).setCell ⟨ub, 1, none⟩ (.int .u32 x')).setCell ⟨ub, 2, none⟩ (.int .i64 y') = w17 := ⟨_, rfl⟩
            rw [hw17]
            have HX17 : Hid (St w c S (2 * c.N) sg rb vb ub #[.bool b', .int .u32 x', .int .i64 y'] #[.bool b', .int .u32 x', .int .i64 y'] w17) := by
              show St _ _ _ _ _ _ _ _ _ _ _
              rw [← hw17]; exact HX16.out.su rfl _ _ _
            obtain ⟨m0, m1, m2⟩ := c35 HX17.out.hV
            obtain ⟨q0, q1, q2⟩ := c35 HX17.out.hU
            clear hw17 HX13 HX16 HK16 HUB16 HB16 HDd HKg z0 z1 z2 f0 f1 f2
            go_wp2_with (fail)
            clear m0 m1 m2 q0 q1 q2
            refine (HAg2.out _ _ _ ?_ _).mono ?_
            · exact fun _ => ⟨rfl, rfl, rfl⟩
            rintro e18 w18 ⟨rfl, hB18⟩
            have HX18 := hide (HX17.out.b hB18)
            have k9 := HX18.out.hC.k.2.1
            clear hB18 HX17
            go_wp2_with (fail)
            refine (HKept.out sg cap HCap.out w18 HX18.out.hB HX18.out.hR).mono ?_
            rintro e19 w19 ⟨rfl, hB19⟩
            have HX19 := hide (HX18.out.b hB19)
            have k10 := HX19.out.hC.k.1
            clear hB19 HX18 k9
            go_wp2_with (fail)
            refine (HSpare.out w19 rb HX19.out.hS).mono ?_
            rintro e20 w20 ⟨rfl, rfl⟩
            clear k10
            go_wp2
            all_goals go_ret
            all_goals exact ⟨rfl, HX19.out.hB⟩
          · have hEb : (D2 == 0) = false := by simpa using hE0
            have HE0 := hide hE0
            clear hE0
            have HX17 := HX13
            clear HX13
            obtain ⟨m0, m1, m2⟩ := c35 HX17.out.hV
            obtain ⟨q0, q1, q2⟩ := c35 HX17.out.hU
            go_wp2_with (fail)
            clear m0 m1 m2 q0 q1 q2
            refine (HAg2.out _ _ _ ?_ _).mono ?_
            · exact fun h => absurd h HE0.out
            rintro e18 w18 ⟨rfl, hB18⟩
            have HX18 := hide (HX17.out.b hB18)
            have k9 := HX18.out.hC.k.2.1
            clear hB18 HX17
            go_wp2_with (fail)
            refine (HKept.out sg cap HCap.out w18 HX18.out.hB HX18.out.hR).mono ?_
            rintro e19 w19 ⟨rfl, hB19⟩
            have HX19 := hide (HX18.out.b hB19)
            have k10 := HX19.out.hC.k.1
            clear hB19 HX18 k9
            go_wp2_with (fail)
            refine (HSpare.out w19 rb HX19.out.hS).mono ?_
            rintro e20 w20 ⟨rfl, rfl⟩
            clear k10
            go_wp2
            all_goals go_ret
            all_goals exact ⟨rfl, HX19.out.hB⟩
theorem law3x (c : Cs) (L : List T3) (S : Nat → Nat → Int) (Q : List Nat) (W : World) (hOk : Ok W c L S Q) (hT : Tb W) : Calls Tryz.prog 3 #[.agg (cb c)] W fun e w' => e = .returned (.bool true) ∧ Below W.heap.size W w' := by
  refine law3 c L (fun v i => if v < c.sn then S v i else 0) hOk.N hOk.seed hOk.en hOk.s64 hOk.l12 hOk.ec W (fun h0 => ?_) hOk.e hT
  obtain ⟨x, e, a, b⟩ := hOk.s h0
  exact ⟨x, e, a, fun v hv i hi => by simp only [hv, if_true]; exact b v hv i hi⟩
end Au
end Go.Proofs.YtgoigcpdfecfhaaGreatDoor
