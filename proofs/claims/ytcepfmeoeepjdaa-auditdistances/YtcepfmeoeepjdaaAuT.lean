import Derived.Test.YtcepfmeoeepjdaaAuS
namespace Go.Proofs.Ytcepfmeoeepjdaa
namespace Au
open Go.RowKit
set_option linter.unusedVariables false
set_option maxRecDepth 8000
theorem bA2 {w w' : World} (h : Below w.heap.size w w') (o : Obj) : Below w.heap.size w (w'.alloc o) := bA h h.size o
theorem Fd.al {w : World} {g Bt Bf : Nat} {L : List T3} {f : Int} (h : Fd w g Bt Bf L f) (o : Obj) : Fd (w.alloc o) g Bt Bf L f := h.of (Below.heap_alloc _ _ _ h.lt.1) (Below.heap_alloc _ _ _ h.lt.2.1) (Below.heap_alloc _ _ _ h.lt.2.2)
theorem z35 {vb : Nat} {w4 : World} (hz : w4.heap[vb]? = some (.cells #[.bool false, .int .u32 0, .int .i64 0] 35 (0, 0))) : w4.cell? ⟨vb, 0, none⟩ = some (.bool false) ∧ w4.cell? ⟨vb, 1, none⟩ = some (.int .u32 0) ∧ w4.cell? ⟨vb, 2, none⟩ = some (.int .i64 0) ∧ w4.frozen? ⟨vb, 0, none⟩ = false ∧ w4.frozen? ⟨vb, 1, none⟩ = false ∧ w4.frozen? ⟨vb, 2, none⟩ = false :=
  ⟨(cell_of_row _ _ _ _ _ _ hz).trans rfl, (cell_of_row _ _ _ _ _ _ hz).trans rfl, (cell_of_row _ _ _ _ _ _ hz).trans rfl, frozen_of_row _ _ _ _ _ hz, frozen_of_row _ _ _ _ _ hz, frozen_of_row _ _ _ _ _ hz⟩
abbrev Zc (w : World) (vb : Nat) : Prop := w.heap[vb]? = some (.cells #[.bool false, .int .u32 0, .int .i64 0] 35 (0, 0))
theorem z_a (w : World) (o : Obj) : Zc ((w.alloc (.cells #[.bool false, .int .u32 0, .int .i64 0] 35)).alloc o).drew w.heap.size := keep _ (at0 _ _)
theorem z_b (w : World) (o : Obj) : Zc ((w.alloc o).alloc (.cells #[.bool false, .int .u32 0, .int .i64 0] 35)).drew (w.heap.size + 1) := by
  have := at0 (w.alloc o) (.cells #[.bool false, .int .u32 0, .int .i64 0] 35)
  rw [World.size_alloc] at this
  exact this
theorem z_c (w : World) : Zc (w.alloc (.cells #[.bool false, .int .u32 0, .int .i64 0] 35)) w.heap.size := at0 _ _
theorem Zc.b {w w' : World} {vb : Nat} (h : Zc w vb) (hb : Below w.heap.size w w') : Zc w' vb := (hb.block _ (lt_of_some h)).trans h
theorem Zc.c {w w' : World} {vb rb : Nat} (h : Zc w vb) (hb : Ch (fun k => k = rb) w w') (hr : vb ≠ rb) : Zc w' vb := (hb.block _ (lt_of_some h) hr).trans h
theorem nevb {w : World} {vb b : Nat} {c : Cs} (h : Zc w vb) (hc : Cb w b c) : b ≠ vb := fun e => by
  subst e
  have h1 : w.heap[b]? = some (.cells (cb c) 30 (0, 0)) := hc
  rw [h] at h1
  simp at h1
theorem K14s {w : World} {b : Nat} {c : Cs} (h : Cb w b c) (vb : Nat) (hv : b ≠ vb) (x y z : Value) : K14 b c (((w.setCell ⟨vb, 0, none⟩ x).setCell ⟨vb, 1, none⟩ y).setCell ⟨vb, 2, none⟩ z) := (show Cb _ b c from (Below.heap_setCell _ _ _ _ hv).trans ((Below.heap_setCell _ _ _ _ hv).trans ((Below.heap_setCell _ _ _ _ hv).trans h))).k
theorem wp_cutF {P : Program} {c : Code} {Q : Exit → Act → World → Prop} {a : Act} {w : World} (T : Nat → World → Prop) (A1 : Nat → Value → Act)
    (h : c.wp P (fun e a' w' => match e with | .normal => ∃ vb fv, a' = A1 vb fv ∧ T vb w' | _ => False) a w) (hq : ∀ vb fv w', T vb w' → Q .normal (A1 vb fv) w') : c.wp P Q a w := by
  refine Code.wp_mono ?_ h
  intro e a' w' hh
  cases e with
  | normal => obtain ⟨vb, fv, rfl, ht⟩ := hh; exact hq vb fv w' ht
  | _ => exact hh.elim
theorem c35 {w : World} {vb : Nat} {p q r : Value} (h : w.heap[vb]? = some (.cells #[p, q, r] 35 (0, 0))) : w.cell? ⟨vb, 0, none⟩ = some p ∧ w.cell? ⟨vb, 1, none⟩ = some q ∧ w.cell? ⟨vb, 2, none⟩ = some r :=
  ⟨(cell_of_row _ _ _ _ _ _ h).trans rfl, (cell_of_row _ _ _ _ _ _ h).trans rfl, (cell_of_row _ _ _ _ _ _ h).trans rfl⟩
/-- What stands behind an audit's call. -/
def T5 (w : World) (c : Cs) (sg rb need : Nat) (S : Nat → Nat → Int) (P : Prop) (b : Bool) (x y : Int) (vb : Nat) (w' : World) : Prop := w'.heap[vb]? = some (.cells #[.bool b, .int .u32 x, .int .i64 y] 35 (0, 0)) ∧ P ∧ Sp w' rb need (rm c) ∧ Cb w' w.heap.size c ∧ SR w' sg (c.sn + 2) (mk c.sn c.sn S) ∧ Below w.heap.size w w'
theorem T5.new {w w4 : World} {c : Cs} {sg rb need : Nat} {S : Nat → Nat → Int} {P : Prop} {b : Bool} {x y : Int} (hP : P) (h1 : Sp w4 rb need (rm c)) (h2 : Cb w4 w.heap.size c) (h3 : SR w4 sg (c.sn + 2) (mk c.sn c.sn S)) (h4 : Below w.heap.size w w4) : T5 w c sg rb need S P b x y w4.heap.size (w4.alloc (.cells #[.bool b, .int .u32 x, .int .i64 y] 35)) :=
  ⟨at0 _ _, hP, h1.of (Below.heap_alloc _ _ _ h1.lt), keep _ h2, h3.of (Below.heap_alloc _ _ _ h3.lt), bA2 h4 _⟩
theorem T5.old {w w4 : World} {c : Cs} {sg rb need vb : Nat} {S : Nat → Nat → Int} {P : Prop} {b : Bool} {x y : Int} (hz : Zc w4 vb) (hv : w.heap.size ≤ vb) (hP : P) (h1 : Sp w4 rb need (rm c)) (h2 : Cb w4 w.heap.size c) (h3 : SR w4 sg (c.sn + 2) (mk c.sn c.sn S)) (h4 : Below w.heap.size w w4) : T5 w c sg rb need S P b x y vb (((w4.setCell ⟨vb, 0, none⟩ (.bool b)).setCell ⟨vb, 1, none⟩ (.int .u32 x)).setCell ⟨vb, 2, none⟩ (.int .i64 y)) := by
  rw [sets3 hz rfl]
  have n1 : rb ≠ vb := fun e => by
    subst e
    obtain ⟨U, ⟨C, g, _⟩, _⟩ := h1
    rw [hz] at g; simp at g
  have n2 : sg ≠ vb := fun e => by
    subst e
    obtain ⟨C, g, _⟩ := h3
    rw [hz] at g; simp at g
  have n3 := nevb hz h2
  exact ⟨setRow_heap _ _ _ _ _ _ hz, hP, h1.of (setRow_other _ _ _ _ n1), (setRow_other _ _ _ _ n3).trans h2, h3.of (setRow_other _ _ _ _ n2), below_setRow h4 hv _⟩
theorem ret_t {x : Bool} (h : x = true) : Ending.returned (.bool x) = .returned (.bool true) := by rw [h]
set_option maxHeartbeats 4000000 in
theorem law3 (c : Cs) (L : List T3) (S : Nat → Nat → Int) (hL : c.en = L.length) (hs64 : c.sn * 64 ≤ 140737488351232) (hl12 : L.length * 12 ≤ 140737488351232) (hN : c.N < 4294967296) (hec : c.ea = none → c.ec = 0) (w : World) (hS : Row8 w c.sa c.sn S) (hE : Row3 .u32 w c.ea L) :
    Calls Try.prog 3 #[.agg (cb c)] w fun e w' => e = .returned (.bool true) ∧ Below w.heap.size w w' := by
  obtain ⟨hrm, _⟩ := rm_b c
  obtain ⟨D, hD⟩ : ∃ D, dk (sz c.N) c.N c.sn (rm c) 1 0 L (ct 0 200 c.bh) = D := ⟨_, rfl⟩
  obtain ⟨o, hone⟩ := one_of (P := AL c.N L S) D (fun _ _ => AL.one)
  obtain ⟨b, x, y, hv, hv0, hv1⟩ := vx_shape D o
  obtain ⟨f, hf⟩ : ∃ f, ct 0 200 c.bh = f := ⟨_, rfl⟩
  rw [hf] at hD
  obtain ⟨w0, hw0⟩ : ∃ w0, (w.alloc (.cells (cb c) 30)) = w0 := ⟨_, rfl⟩
  have hB0 : Below w.heap.size w w0 := by rw [← hw0]; exact b1 _ _ _
  have hc0 : Cb w0 w.heap.size c := by rw [← hw0]; exact at0 _ _
  have HLab : Hid (∀ W sg cap rb g Bt Bf, SR W sg (c.sn + 2) (mk c.sn c.sn S) → GU W rb (rm c) (fun _ => 99) → Fd W g Bt Bf L f → rb ≠ g → rb ≠ Bt → rb ≠ Bf → rb ≠ sg → Calls Try.prog 11 #[.int .u32 (c.N : Int), fe Bt Bf, .slice (some ⟨sg, 0, none⟩) c.sn cap, .slice (some ⟨rb, 0, none⟩) (rm c) (rm c)] W fun e w' => e = .returned (.tuple #[.agg #[.bool b, .int .u32 x, .int .i64 y], .int .i64 D]) ∧ (D = 0 → AL c.N L S o) ∧ Sp w' rb c.N (rm c) ∧ Ch (fun k => k = rb) W w') := fun W sg cap rb g Bt Bf h1 h2 h3 r1 r2 r3 r4 => by
    refine (labels_any c.N (rm c) rb sg c.sn cap Bt Bf g L f S (fun _ => 99) hN (by omega) hrm (by omega) W h2 (fun _ _ _ => rfl) h3 (h1.mono (by omega) (fun v hv => mk_self _ _ v hv)) r1 r2 r3 r4).mono ?_
    rintro e w' ⟨E, o', rfl, a, b', c', d⟩
    obtain ⟨k1, k2⟩ := hone E o' (a.trans hD) b'
    rw [k1, hv]
    have hED : E = D := a.trans hD
    subst hED
    exact ⟨rfl, k2, c', d⟩
  have HSt := hide (states_any c.sa c.sn c.sc c.sn S hs64 hs64 w0 (hS.on hB0 (Nat.le_refl _)))
  have hk0 := hc0.k
  have HS := hide hS
  have HE := hide hE
  have HC0 := hide hc0
  have HB0 := hide hB0
  have HW0 := hide hw0
  have Hone := hide hone
  have Hv := hide (And.intro hv0 hv1)
  have Hvx := hide hv
  have HD := hide hD
  have Hf := hide hf
  have HLn := hide hL
  have Hec := hide hec
  clear hS hE hc0 hB0 hone hv hv0 hv1 hD hf hL hec
  obtain ⟨k0, k1, k2, _⟩ := hk0
  rw [← hw0] at k1
  clear hw0 k0 k2
  go_enter Try.func3, Try.ntmps3
  go_wp2_with (fail)
  rw [HW0.out]
  clear k1
  refine HSt.out.mono ?_
  rintro e1 w1 ⟨sg, cap, rfl, hcap, hsg, hSR, hB1⟩
  have hB01 : Below w.heap.size w w1 := HB0.out.trans (hB1.mono HB0.out.size)
  have hsz0 : w.heap.size < w0.heap.size := HC0.out.lt
  have hC1 : Cb w1 w.heap.size c := (hB1.block _ hsz0).trans HC0.out
  obtain ⟨d0, d1, d2, d3, d4, d5, d6, d7, d8, d9, d10, d11, d12, d13⟩ := hC1.k
  have HWd := hide (words_any c w1)
  have HC1 := hide hC1
  have HB01 := hide hB01
  have HSR := hide hSR
  have HSG : Hid (w0.heap.size ≤ sg ∧ w.heap.size < w0.heap.size) := ⟨hsg, hsz0⟩
  clear hB1 hC1 hB01 hSR HSt HC0 HB0 hsg hsz0
  go_wp2_with (fail)
  refine HWd.out.mono ?_
  rintro e2 w2 ⟨rb, rfl, hrb, hG2, _, hB2⟩
  clear d0 d1 d2 d3 d4 d5 d6 d7 d8 d9 d10 d11 d12 d13
  have hs1 : sg < w1.heap.size := HSR.out.lt
  have HC2 : Hid (Cb w2 w.heap.size c) := (hB2.block _ (by have := HSG.out; omega)).trans HC1.out
  have HB02 : Hid (Below w.heap.size w w2) := HB01.out.trans (hB2.mono HB01.out.size)
  have HSR2 : Hid (SR w2 sg (c.sn + 2) (mk c.sn c.sn S)) := HSR.out.of (hB2.block _ hs1)
  have HG2 := hide hG2
  have HR : Hid (w.heap.size < sg ∧ sg < rb ∧ rb < w2.heap.size) := ⟨by have := HSG.out; omega, by omega, hG2.lt⟩
  clear hG2 hB2 hrb hs1 HC1 HB01 HSR HSG HWd
  have HKg : Hid (∀ W, Below w2.heap.size w2 W → K14 w.heap.size c W) := fun W h => (show Cb W w.heap.size c from (h.block _ HC2.out.lt).trans HC2.out).k
  have HBh := hide (behind_any c)
  have HFd : Hid (∀ W, Below w2.heap.size w2 W → Calls Try.prog 12 #[.slice c.ea c.en c.ec, .int .i64 f] W fun e w' => ∃ g Bt Bf, e = .returned (fe Bt Bf) ∧ Fd w' g Bt Bf L f ∧ w2.heap.size ≤ g ∧ w2.heap.size ≤ Bt ∧ w2.heap.size ≤ Bf ∧ Below w2.heap.size w2 w' ∧ Below W.heap.size W w') := fun W hW => by
    rw [HLn.out]
    have h6 := hW.size
    refine (feed_all c.ea c.ec L f W hl12 Hec.out (HE.out.on (HB02.out.trans (hW.mono HB02.out.size)) (Nat.le_refl _))).mono ?_
    rintro e w' ⟨g, Bt, Bf, rfl, h1, h2, h3, h4, h5⟩
    exact ⟨g, Bt, Bf, rfl, h1, by omega, by omega, by omega, hW.trans (h5.mono h6), h5⟩
  rw [Hf.out] at HBh
  have HL4 : Hid (∀ W g Bt Bf, Fd W g Bt Bf L f → w2.heap.size ≤ g → w2.heap.size ≤ Bt → w2.heap.size ≤ Bf → Below w2.heap.size w2 W → Calls Try.prog 11 #[.int .u32 (c.N : Int), fe Bt Bf, .slice (some ⟨sg, 0, none⟩) c.sn cap, .slice (some ⟨rb, 0, none⟩) (rm c) (rm c)] W fun e w' => e = .returned (.tuple #[.agg #[.bool b, .int .u32 x, .int .i64 y], .int .i64 D]) ∧ (D = 0 → AL c.N L S o) ∧ Sp w' rb c.N (rm c) ∧ Ch (fun k => k = rb) W w' ∧ Cb w' w.heap.size c ∧ SR w' sg (c.sn + 2) (mk c.sn c.sn S) ∧ Below w.heap.size w w' ∧ w2.heap.size ≤ w'.heap.size) := fun W g Bt Bf h1 h2 h3 h4 h5 => by
    obtain ⟨a1, a2, a3⟩ := HR.out
    refine (HLab.out W sg cap rb g Bt Bf (HSR2.out.of (h5.block _ (by omega))) (HG2.out.of (h5.block _ a3)) h1 (by omega) (by omega) (by omega) (by omega)).mono ?_
    rintro e w4 ⟨rfl, q1, q2, q3⟩
    have hs3 := h5.size
    have hs4 := q3.size
    refine ⟨rfl, q1, q2, q3, ((q3.block _ (by omega) (by omega)).trans (h5.block _ (by omega))).trans HC2.out, HSR2.out.of ((q3.block _ (by omega) (by omega)).trans (h5.block _ (by omega))), ?_, by omega⟩
    have hx : Below w.heap.size w W := HB02.out.trans (h5.mono (by omega))
    exact hx.trans (q3.below (fun k hk h => by omega) (by omega))
  have HRow := HS
  clear HLab HS
  go_wp2_with (fail)
  apply wp_cutF (T5 w c sg rb c.N S (D = 0 → AL c.N L S o) b x y) (fun vb fv => { tmps := #[.agg (cb c), .pointer (some ⟨w.heap.size, 0, none⟩), .bool false, .slice (some ⟨sg, 0, none⟩) c.sn cap, .slice (some ⟨rb, 0, none⟩) (rm c) (rm c), .pointer (some ⟨vb, 0, none⟩), .int .i64 D, undef, undef, undef, undef, undef, .pointer (some ⟨w.heap.size, 1, none⟩), .slice c.sa c.sn c.sc, .pointer (some ⟨w.heap.size, 1, none⟩), .slice c.sa c.sn c.sc, .int .i64 (c.sn : Int), .slice (some ⟨sg, 0, none⟩) c.sn cap, .agg #[.int .u32 (c.N : Int), .slice c.sa c.sn c.sc, .slice c.ea c.en c.ec, .int .i64 c.bh, .int .i64 c.room, .int .u32 c.src, .slice c.qa c.qn c.qc, .int .i64 c.kind, .int .u32 c.rN, .int .u32 c.rA, .int .u32 c.rC, .int .u32 c.damp, .int .i64 c.rounds, .int .u64 c.seed], .slice (some ⟨rb, 0, none⟩) (rm c) (rm c), .tuple #[.agg #[.bool b, .int .u32 x, .int .i64 y], .int .i64 D], .pointer (some ⟨w.heap.size, 0, none⟩), .int .u32 (c.N : Int), .pointer (some ⟨w.heap.size, 2, none⟩), .slice c.ea c.en c.ec, .agg #[.int .u32 (c.N : Int), .slice c.sa c.sn c.sc, .slice c.ea c.en c.ec, .int .i64 c.bh, .int .i64 c.room, .int .u32 c.src, .slice c.qa c.qn c.qc, .int .i64 c.kind, .int .u32 c.rN, .int .u32 c.rA, .int .u32 c.rC, .int .u32 c.damp, .int .i64 c.rounds, .int .u64 c.seed], .int .i64 f, fv, .slice (some ⟨sg, 0, none⟩) c.sn cap, .slice (some ⟨rb, 0, none⟩) (rm c) (rm c), .tuple #[.agg #[.bool b, .int .u32 x, .int .i64 y], .int .i64 D], .agg #[.bool b, .int .u32 x, .int .i64 y], .int .i64 D, undef, undef, undef, undef, undef, undef, undef, undef, undef, undef, undef, undef, undef, undef, undef, undef, undef, undef, undef, undef, undef, undef, undef, undef, undef, undef, undef, undef, undef, undef, undef, undef, undef, undef, undef, undef, undef, undef, undef, undef, undef, undef, undef], defers := [] })
  case h =>
    go_region_held3 (K14 w.heap.size c) ((first | with_reducible exact HK4.out | with_reducible exact HK5.out _ | with_reducible exact K14s HC4.out _ HVB.out _ _ _ | (refine HKg.out _ ?_; repeat (first | with_reducible exact HB3.out | with_reducible exact Below.refl _ _ | with_reducible refine belowD ?_ | with_reducible refine bA2 ?_ _)))) ((first
      | (go_at_call 13; refine (HBh.out _).mono ?_; rintro e1 w1 ⟨rfl, rfl⟩)
      | (go_at_call 12; refine (HFd.out _ (by repeat (first | with_reducible exact Below.refl _ _ | with_reducible refine belowD ?_ | with_reducible refine bA2 ?_ _))).mono ?_; rintro e3 w3 ⟨g, Bt, Bf, rfl, hFd3, hg3, ht3, hf3, hB3, hB3'⟩; have HB3 := hide hB3; have HF3 := hide (And.intro hFd3 (And.intro hg3 (And.intro ht3 hf3))); (first | (have HZ3 := hide ((z_a w2 _).b hB3'); clear hB3') | (have HZ3 := hide ((z_b w2 _).b hB3'); clear hB3') | clear hB3'); clear hFd3 hg3 ht3 hf3 hB3)
      | (go_at_call 11; refine (HL4.out _ g Bt Bf (by first | exact HF3.out.1 | exact HF3.out.1.al _) HF3.out.2.1 HF3.out.2.2.1 HF3.out.2.2.2 (by repeat (first | with_reducible exact HB3.out | with_reducible refine belowD ?_ | with_reducible refine bA2 ?_ _))).mono ?_; rintro e4 w4 ⟨rfl, hA4, hS4, hD4, hC4, hR4, hB4, hz4⟩; have HA4 := hide hA4; have HS4 := hide hS4; have HC4 := hide hC4; have HR4 := hide hR4; have HB4 := hide hB4; have HZ4 := hide hz4; (first | (have hz5 := HZ3.out.c hD4 (by have := HR.out; omega); have HVB := hide (nevb hz5 hC4); obtain ⟨m0, m1, m2, f0, f1, f2⟩ := z35 hz5; have HZ5 := hide hz5; clear hz5) | (have hz5 := (z_c w3).c hD4 (by have := HB3.out.size; have := HR.out; omega); have HVB := hide (nevb hz5 hC4); obtain ⟨m0, m1, m2, f0, f1, f2⟩ := z35 hz5; have HZ5 := hide hz5; clear hz5) | skip); clear hA4 hS4 hD4 hC4 hR4 hB4 hz4; have HK4 : Hid (K14 w.heap.size c w4) := HC4.out.k; have HK5 : Hid (∀ o, K14 w.heap.size c (w4.alloc o)) := fun o => (show Cb (w4.alloc o) w.heap.size c from keep o HC4.out).k)))
    · exact ⟨_, _, rfl, T5.new HA4.out HS4.out HC4.out HR4.out HB4.out⟩
    · exact ⟨_, _, rfl, T5.old HZ5.out (by have := HB3.out.size; have := HR.out; omega) HA4.out HS4.out HC4.out HR4.out HB4.out⟩
    · exact ⟨_, _, rfl, T5.old HZ5.out (by have := HR.out; omega) HA4.out HS4.out HC4.out HR4.out HB4.out⟩
    · exact ⟨_, _, rfl, T5.old HZ5.out (by have := HR.out; omega) HA4.out HS4.out HC4.out HR4.out HB4.out⟩
  case hq =>
    rintro vb fv w5 ⟨hv5, hA5, hS5, hC5, hR5, hB5⟩
    dsimp only
    have HV5 := hide hv5
    have HA5 := hide hA5
    have HS5 := hide hS5
    have HC5 := hide hC5
    have HR5 := hide hR5
    have HB5 := hide hB5
    have H15 := hide (rsized_any c.N)
    have HAsk : Hid (∀ W, Below w5.heap.size w5 W → Calls Try.prog 14 #[.agg (cb c), .int .i64 (sz c.N), .int .u32 (c.N : Int), .int .i64 (c.N : Int), .int .i64 0] W fun e w' => e = .returned (.int .i64 D) ∧ Below w5.heap.size w5 w') := fun W hW => by
      have h := asked_any c (sz c.N) 0 c.N 1 L HLn.out (by omega) hN (by omega) (by omega) (Or.inl rfl) W (HE.out.on (HB5.out.trans (hW.mono HB5.out.size)) (Nat.le_refl _))
      rw [Nat.one_mul, Hf.out, HD.out] at h
      refine h.mono ?_
      rintro e w' ⟨rfl, hb⟩
      exact ⟨rfl, hW.trans (hb.mono hW.size)⟩
    have HKg : Hid (∀ W, Below w5.heap.size w5 W → K14 w.heap.size c W) := fun W h => (show Cb W w.heap.size c from (h.block _ HC5.out.lt).trans HC5.out).k
    have hcv : IntKind.i64.wrap (c.N : Int) = c.N := i64w _ (by omega)
    clear hv5 hA5 hS5 hC5 hR5 hB5 HFd HL4 HBh HC2 HB02 HSR2 HG2
    go_wp2_with (fail)
    apply wp_cut (fun w' => Below w5.heap.size w5 w')
    case h =>
      go_region_held3 (K14 w.heap.size c) ((refine HKg.out _ ?_; repeat (first | with_reducible exact HB6.out | with_reducible exact Below.refl _ _ | with_reducible refine belowD ?_))) ((first | (go_at_call 15; refine (H15.out _).mono ?_; rintro e1 w1 ⟨rfl, rfl⟩) | (go_at_call 14; refine (HAsk.out _ (by repeat (first | with_reducible exact Below.refl _ _ | with_reducible refine belowD ?_))).mono ?_; rintro e6 w6 ⟨rfl, hB6⟩; have HB6 := hide hB6; clear hB6)))
      all_goals exact ⟨rfl, HB6.out⟩
    case hq =>
      intro w6 hB6
      have HB6 := hide hB6
      clear hB6 HAsk H15 HKg
      obtain ⟨w7, hw7⟩ : ∃ w7, w6.alloc (.cells z3 35) = w7 := ⟨_, rfl⟩
      have HB57 : Hid (Below w5.heap.size w5 w7) := by
        show Below _ _ _
        rw [← hw7]; exact bA2 HB6.out _
      have HZ7 : Hid (Zc w7 w6.heap.size) := by
        show Zc _ _
        rw [← hw7]; exact at0 _ _
      have HAg : Hid (∀ W, Calls Try.prog 18 #[.agg #[.bool b, .int .u32 x, .int .i64 y], .int .i64 D, .agg #[.bool b, .int .u32 x, .int .i64 y], .int .i64 D] W fun e w' => e = .returned (.bool true) ∧ Below W.heap.size W w') := fun W => by
        have h := agree_any D o b x y Hv.out.1 W
        rw [Hvx.out] at h
        exact h
      have HW7 := hide hw7
      clear hw7
      by_cases hD0 : D = 0
      · have hDb : (D == 0) = true := by simpa using hD0
        have hak : ak (sz c.N) c.N c.sn (rm c) 1 = 0 := by
          have h := HD.out
          unfold dk at h
          split at h
          · rename_i h1; rw [hD0] at h; exact absurd h h1
          · rename_i h1; simpa using h1
        obtain ⟨_, hsn, hrl⟩ := ak_zero hak
        rw [Nat.one_mul] at hrl
        have hfa : fa c.N 0 L f = 0 := by
          have h := HD.out
          rw [dk_eq hak] at h
          exact h.trans hD0
        have hgd := fa_good (by rw [← Hf.out]; exact (ct_b 0 200 c.bh (by decide)).1) hfa
        obtain ⟨eb, ex, ey⟩ := Hv.out.1 hD0
        have HKg : Hid (∀ W, Below w7.heap.size w7 W → K14 w.heap.size c W) := fun W h => (show Cb W w.heap.size c from (h.block _ (Nat.lt_of_lt_of_le HC5.out.lt HB57.out.size)).trans ((HB57.out.block _ HC5.out.lt).trans HC5.out)).k
        have HRw : Hid (∀ W, Below w7.heap.size w7 W → Row8 W c.sa c.sn S ∧ Row3 .u32 W c.ea L) := fun W h => by
          have h1 : Below w.heap.size w W := HB5.out.trans ((HB57.out.trans (h.mono HB57.out.size)).mono HB5.out.size)
          exact ⟨HRow.out.on h1 (Nat.le_refl _), HE.out.on h1 (Nat.le_refl _)⟩
        have H17 : Hid (Calls Try.prog 17 #[.int .u32 (c.N : Int), .slice c.ea c.en c.ec] w7.drew fun e w' => e = .returned (.slice (some ⟨w7.heap.size, 0, none⟩) c.N c.N) ∧ (∃ U ro, Fo c.N (prs L) U ro ∧ GU w' w7.heap.size c.N ro) ∧ Below w7.heap.size w7 w') := by
          have hb : Below w7.heap.size w7 w7.drew := belowD (Below.refl _ _)
          have h := rwcc_any c.N c.en c.ec c.ea L HLn.out (by omega) (by rw [HLn.out]; omega) w7.drew (HRw.out _ hb).2 hgd
          refine h.mono ?_
          rintro e w' ⟨rfl, U, ro, h1, h2, h3⟩
          exact ⟨rfl, ⟨U, ro, h1, h2⟩, hb.trans h3⟩
        have H16 : Hid (∀ W, Below w7.heap.size w7 W → (∃ U ro, Fo c.N (prs L) U ro ∧ GU W w7.heap.size c.N ro) → Calls Try.prog 16 #[.int .u32 (c.N : Int), .slice c.sa c.sn c.sc, .int .i64 0, .slice (some ⟨w7.heap.size, 0, none⟩) c.N c.N] W fun e w' => e = .returned (.agg #[.bool b, .int .u32 x, .int .i64 y]) ∧ Below w7.heap.size w7 w') := fun W hW ⟨U, ro, h1, h2⟩ => by
          have hr := (HRw.out W hW).1
          rw [hsn] at hr ⊢
          refine (words18_any c.N c.sc w7.heap.size c.sa S ro (by omega) W hr h2).mono ?_
          rintro e w' ⟨o', rfl, hl, hb⟩
          have ho : o' = o := AL.one ⟨U, ro, h1, hl.ext (fun v r => by simp)⟩ (HA5.out hD0)
          subst ho
          rw [eb, ex, ey]
          exact ⟨rfl, hW.trans (hb.mono hW.size)⟩
        clear hak hsn hrl hfa hgd eb ex ey HRw hD0
        go_wp2_with (fail)
        rw [HW7.out]
        apply wp_cut (fun w' => Below w5.heap.size w5 w' ∧ w'.heap[w6.heap.size]? = some (.cells #[.bool b, .int .u32 x, .int .i64 y] 35 (0, 0)))
        case h =>
          go_region_held3 (K14 w.heap.size c) ((first | with_reducible exact K14s HC9.out _ HVB.out _ _ _ | (refine HKg.out _ ?_; repeat (first | with_reducible exact HB9.out | with_reducible exact HB8.out | with_reducible exact Below.refl _ _ | with_reducible refine belowD ?_)))) ((first | (go_at_call 17; refine H17.out.mono ?_; rintro e8 w8 ⟨rfl, hF8, hB8⟩; have HB8 := hide hB8; have HF8 := hide hF8; clear hB8 hF8) | (go_at_call 16; refine (H16.out _ HB8.out HF8.out).mono ?_; rintro e9 w9 ⟨rfl, hB9⟩; have hz9 : Zc w9 w6.heap.size := HZ7.out.b hB9; obtain ⟨m0, m1, m2, f0, f1, f2⟩ := z35 hz9; have HZ9 := hide hz9; have HB9 := hide hB9; have HC9 : Hid (Cb w9 w.heap.size c) := (hB9.block _ (Nat.lt_of_lt_of_le HC5.out.lt HB57.out.size)).trans ((HB57.out.block _ HC5.out.lt).trans HC5.out); have HVB := hide (nevb hz9 HC9.out); clear hz9 hB9)))
          all_goals exact ⟨rfl, by rw [sets3 HZ9.out rfl]; exact ⟨below_setRow (HB57.out.trans (HB9.out.mono HB57.out.size)) HB6.out.size _, setRow_heap _ _ _ _ _ _ HZ9.out⟩⟩
        case hq =>
          rintro w8 ⟨hB58, hZ8⟩
          have HB58 := hide hB58
          have HZ8 := hide hZ8
          clear hB58 hZ8 H16 H17 HKg HW7 HZ7 HB57 HB6
          have HV8 : Hid (w8.heap[vb]? = some (.cells #[.bool b, .int .u32 x, .int .i64 y] 35 (0, 0))) := (HB58.out.block _ (lt_of_some HV5.out)).trans HV5.out
          have HC8 : Hid (Cb w8 w.heap.size c) := (HB58.out.block _ HC5.out.lt).trans HC5.out
          have HR8 : Hid (SR w8 sg (c.sn + 2) (mk c.sn c.sn S)) := HR5.out.of (HB58.out.block _ HR5.out.lt)
          have HS8 : Hid (Sp w8 rb c.N (rm c)) := HS5.out.of (HB58.out.block _ HS5.out.lt)
          have HB8 : Hid (Below w.heap.size w w8) := HB5.out.trans (HB58.out.mono HB5.out.size)
          obtain ⟨m0, m1, m2⟩ := c35 HV8.out
          obtain ⟨n0, n1, n2⟩ := c35 HZ8.out
          clear HV5 HC5 HR5 HS5 HB5 HB58
          go_wp2_with (fail)
          refine (HAg.out _).mono ?_
          rintro e9 w9 ⟨rfl, hB9⟩
          have HC9 : Hid (Cb w9 w.heap.size c) := (hB9.block _ HC8.out.lt).trans HC8.out
          have HR9 : Hid (SR w9 sg (c.sn + 2) (mk c.sn c.sn S)) := HR8.out.of (hB9.block _ HR8.out.lt)
          have HS9 : Hid (Sp w9 rb c.N (rm c)) := HS8.out.of (hB9.block _ HS8.out.lt)
          have HB9 : Hid (Below w.heap.size w w9) := HB8.out.trans (hB9.mono HB8.out.size)
          have k9 := HC9.out.k.2.1
          have HKp := hide (kept_any c.sa c.sn c.sc sg cap S hs64 hcap w9 (HRow.out.on HB9.out (Nat.le_refl _)) HR9.out)
          clear hB9 HC8 HR8 HS8 HB8 m0 m1 m2 n0 n1 n2 HV8 HZ8 HAg
          go_wp2_with (fail)
          refine HKp.out.mono ?_
          rintro e10 w10 ⟨rfl, hB10⟩
          have HC10 : Hid (Cb w10 w.heap.size c) := (hB10.block _ HC9.out.lt).trans HC9.out
          have HS10 : Hid (Sp w10 rb c.N (rm c)) := HS9.out.of (hB10.block _ HS9.out.lt)
          have HB10 : Hid (Below w.heap.size w w10) := HB9.out.trans (hB10.mono HB9.out.size)
          have k10 := HC10.out.k.1
          have HSp := hide (spare_any rb (rm c) c.N hrm (by omega) w10 (fun j h1 h2 => HS10.out.cell j h1 h2))
          clear hB10 HC9 HR9 HS9 HB9 k9 HKp HS10
          go_wp2_with (fail)
          refine HSp.out.mono ?_
          rintro e11 w11 ⟨rfl, rfl⟩
          clear k10 HSp HC10
          go_wp2
          all_goals go_ret
          all_goals exact ⟨rfl, HB10.out⟩
      · have hDb : (D == 0) = false := by simpa using hD0
        obtain ⟨eb, ex, ey⟩ := Hv.out.2 hD0
        have HB58 := HB57
        have HZ8 : Hid (w7.heap[w6.heap.size]? = some (.cells #[.bool b, .int .u32 x, .int .i64 y] 35 (0, 0))) := by
          show _ = _
          rw [eb, ex, ey]; exact HZ7.out
        clear eb ex ey HB57 HZ7 hD0
        have hw := HW7.out
        subst hw
        clear HW7 HB6
        have HV8 : Hid ((w6.alloc (.cells #[.bool false, .int .u32 0, .int .i64 0] 35)).heap[vb]? = some (.cells #[.bool b, .int .u32 x, .int .i64 y] 35 (0, 0))) := (HB58.out.block _ (lt_of_some HV5.out)).trans HV5.out
        have HC8 : Hid (Cb (w6.alloc (.cells #[.bool false, .int .u32 0, .int .i64 0] 35)) w.heap.size c) := (HB58.out.block _ HC5.out.lt).trans HC5.out
        have HR8 : Hid (SR (w6.alloc (.cells #[.bool false, .int .u32 0, .int .i64 0] 35)) sg (c.sn + 2) (mk c.sn c.sn S)) := HR5.out.of (HB58.out.block _ HR5.out.lt)
        have HS8 : Hid (Sp (w6.alloc (.cells #[.bool false, .int .u32 0, .int .i64 0] 35)) rb c.N (rm c)) := HS5.out.of (HB58.out.block _ HS5.out.lt)
        have HB8 : Hid (Below w.heap.size w (w6.alloc (.cells #[.bool false, .int .u32 0, .int .i64 0] 35))) := HB5.out.trans (HB58.out.mono HB5.out.size)
        obtain ⟨m0, m1, m2⟩ := c35 HV8.out
        obtain ⟨n0, n1, n2⟩ := c35 HZ8.out
        clear HV5 HC5 HR5 HS5 HB5 HB58
        go_wp2_with (fail)
        refine (HAg.out _).mono ?_
        rintro e9 w9 ⟨rfl, hB9⟩
        have HC9 : Hid (Cb w9 w.heap.size c) := (hB9.block _ HC8.out.lt).trans HC8.out
        have HR9 : Hid (SR w9 sg (c.sn + 2) (mk c.sn c.sn S)) := HR8.out.of (hB9.block _ HR8.out.lt)
        have HS9 : Hid (Sp w9 rb c.N (rm c)) := HS8.out.of (hB9.block _ HS8.out.lt)
        have HB9 : Hid (Below w.heap.size w w9) := HB8.out.trans (hB9.mono HB8.out.size)
        have k9 := HC9.out.k.2.1
        have HKp := hide (kept_any c.sa c.sn c.sc sg cap S hs64 hcap w9 (HRow.out.on HB9.out (Nat.le_refl _)) HR9.out)
        clear hB9 HC8 HR8 HS8 HB8 m0 m1 m2 n0 n1 n2 HV8 HZ8 HAg
        go_wp2_with (fail)
        refine HKp.out.mono ?_
        rintro e10 w10 ⟨rfl, hB10⟩
        have HC10 : Hid (Cb w10 w.heap.size c) := (hB10.block _ HC9.out.lt).trans HC9.out
        have HS10 : Hid (Sp w10 rb c.N (rm c)) := HS9.out.of (hB10.block _ HS9.out.lt)
        have HB10 : Hid (Below w.heap.size w w10) := HB9.out.trans (hB10.mono HB9.out.size)
        have k10 := HC10.out.k.1
        have HSp := hide (spare_any rb (rm c) c.N hrm (by omega) w10 (fun j h1 h2 => HS10.out.cell j h1 h2))
        clear hB10 HC9 HR9 HS9 HB9 k9 HKp HS10
        go_wp2_with (fail)
        refine HSp.out.mono ?_
        rintro e11 w11 ⟨rfl, rfl⟩
        clear k10 HSp HC10
        go_wp2
        all_goals go_ret
        all_goals exact ⟨rfl, HB10.out⟩
end Au
end Go.Proofs.Ytcepfmeoeepjdaa
