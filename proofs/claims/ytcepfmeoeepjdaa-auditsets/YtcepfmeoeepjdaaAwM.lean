import Derived.Test.YtcepfmeoeepjdaaAwL
import Derived.Test.YtcepfmeoeepjdaaAuT
import Derived.Test.YtcepfmeoeepjdaaAuU
namespace Go.Proofs.Ytcepfmeoeepjdaa
namespace Au
open Go.RowKit
set_option linter.unusedVariables false
set_option maxRecDepth 8000
/-- The two verdicts. -/
theorem ne35 {w : World} {v u : Nat} {a b c p q r : Value} (h : w.heap[v]? = some (.cells #[a, b, c] 35 (0, 0))) (hu : w.heap.size ≤ u) : v ≠ u := fun e => by have := lt_of_some h; omega
theorem sets_other {w : World} {u v : Nat} (h : v ≠ u) (a b c : Value) : (((w.setCell ⟨u, 0, none⟩ a).setCell ⟨u, 1, none⟩ b).setCell ⟨u, 2, none⟩ c).heap[v]? = w.heap[v]? := (Below.heap_setCell _ _ _ _ h).trans ((Below.heap_setCell _ _ _ _ h).trans (Below.heap_setCell _ _ _ _ h))
theorem Ch.sets {w : World} {u : Nat} (a b c : Value) : Ch (fun k => k = u) w (((w.setCell ⟨u, 0, none⟩ a).setCell ⟨u, 1, none⟩ b).setCell ⟨u, 2, none⟩ c) := (((Ch.refl (fun k => k = u) w).set _ _ (Or.inl rfl)).set _ _ (Or.inl rfl)).set _ _ (Or.inl rfl)
set_option maxHeartbeats 8000000 in
theorem law5 (c : Cs) (n A C : Nat) (L : List T3) (S : Nat → Nat → Int) (hrN : c.rN = (n : Int)) (hrA : c.rA = (A : Int)) (hrC : c.rC = (C : Int)) (hn : n < 4294967296) (hA : A < 4294967296) (hsr : ∀ v, 0 ≤ S v 0 ∧ S v 0 < 18446744073709551616) (hL : c.en = L.length) (hs64 : c.sn * 64 ≤ 140737488351232) (hl12 : L.length * 12 ≤ 140737488351232) (hec : c.ea = none → c.ec = 0) (w : World) (hS : Row8 w c.sa c.sn S) (hE : Row3 .u32 w c.ea L) :
    Calls Try.prog 5 #[.agg (cb c)] w fun e w' => e = .returned (.bool true) ∧ Below w.heap.size w w' := by
  obtain ⟨hrm, _⟩ := rm_b c
  obtain ⟨D, hD⟩ : ∃ D, dk (ck n A C) n c.sn (rm c) 1 0 L (ct 0 200 c.bh) = D := ⟨_, rfl⟩
  obtain ⟨o, hone23⟩ := one_of (P := Lm (PI S n (ah S n A C L))) D (fun _ _ => Lm.one)
  obtain ⟨p, hone26⟩ := one_of (P := Lm (PC S n A C L (tw S n A C L))) D (fun _ _ => Lm.one)
  obtain ⟨b, x, y, hv23, hv23a, hv23b⟩ := vx_shape D o
  obtain ⟨b', x', y', hv26, hv26a, hv26b⟩ := vx_shape D p
  obtain ⟨f, hf⟩ : ∃ f, ct 0 200 c.bh = f := ⟨_, rfl⟩
  rw [hf] at hD
  obtain ⟨w0, hw0⟩ : ∃ w0, (w.alloc (.cells (cb c) 30)) = w0 := ⟨_, rfl⟩
  have hB0 : Below w.heap.size w w0 := by rw [← hw0]; exact b1 _ _ _
  have hc0 : Cb w0 w.heap.size c := by rw [← hw0]; exact at0 _ _
  have HG23 : Hid (∀ wB sg cap rb, Cb wB w.heap.size c → SR wB sg (c.sn + 2) (mk c.sn c.sn S) → Sp wB rb n (rm c) → Below w.heap.size w wB → w.heap.size < sg → sg < rb → rb < wB.heap.size → sg < wB.heap.size → ∀ W g Bt Bf, Fd W g Bt Bf L f → wB.heap.size ≤ g → wB.heap.size ≤ Bt → wB.heap.size ≤ Bf → Below wB.heap.size wB W → Calls Try.prog 23 #[.agg #[.int .u32 c.rN, .int .u32 c.rA, .int .u32 c.rC], fe Bt Bf, .slice (some ⟨sg, 0, none⟩) c.sn cap, .slice (some ⟨rb, 0, none⟩) (rm c) (rm c)] W fun e w' => e = .returned (.tuple #[.agg #[.bool b, .int .u32 x, .int .i64 y], .int .i64 D]) ∧ (D = 0 → Lm (PI S n (ah S n A C L)) o) ∧ Sp w' rb n (rm c) ∧ Ch (fun k => k = rb) W w' ∧ Cb w' w.heap.size c ∧ SR w' sg (c.sn + 2) (mk c.sn c.sn S) ∧ Below w.heap.size w w' ∧ wB.heap.size ≤ w'.heap.size) := fun wB sg cap rb hC hR hS hB l1 l2 l3 l4 W g Bt Bf hF hg ht hf hW => by
    obtain ⟨U0, u1, u2⟩ := hS
    have hsz := hW.size
    have hcl := hC.lt
    have hk : #[Value.int .u32 c.rN, .int .u32 c.rA, .int .u32 c.rC] = rk n A C := by rw [hrN, hrA, hrC]
    rw [hk]
    have hR0 : SR W sg c.sn S := (hR.of (hW.block _ l4)).mono (by omega) (fun v hv => mk_self _ _ v hv)
    have hU0 : GU W rb (rm c) U0 := u1.of (hW.block _ l3)
    refine (indep_any n (rm c) rb sg c.sn cap Bt Bf g A C L f S U0 hn hA (by omega) hrm (by omega) W hU0 u2 hF hR0 (by omega) (by omega) (by omega) (by omega)).mono ?_
    rintro e w' ⟨E, o', rfl, q1, q2, q3, q4⟩
    obtain ⟨k1, k2⟩ := hone23 E o' (q1.trans hD) q2
    have hED : E = D := q1.trans hD
    subst hED
    have hs4 := q4.size
    rw [k1, hv23]
    have hx : Below w.heap.size w W := hB.trans (hW.mono (by omega))
    exact ⟨rfl, k2, q3, q4, ((q4.block _ (by omega) (by omega)).trans (hW.block _ (by omega))).trans hC, hR.of ((q4.block _ (by omega) (by omega)).trans (hW.block _ (by omega))), hx.trans (q4.below (fun k hk h => by omega) (by omega)), by omega⟩
  have HG26 : Hid (∀ wB sg cap rb, Cb wB w.heap.size c → SR wB sg (c.sn + 2) (mk c.sn c.sn S) → Sp wB rb n (rm c) → Below w.heap.size w wB → w.heap.size < sg → sg < rb → rb < wB.heap.size → sg < wB.heap.size → ∀ W g Bt Bf, Fd W g Bt Bf L f → wB.heap.size ≤ g → wB.heap.size ≤ Bt → wB.heap.size ≤ Bf → Below wB.heap.size wB W → Calls Try.prog 26 #[.agg #[.int .u32 c.rN, .int .u32 c.rA, .int .u32 c.rC], fe Bt Bf, .slice (some ⟨sg, 0, none⟩) c.sn cap, .slice (some ⟨rb, 0, none⟩) (rm c) (rm c)] W fun e w' => e = .returned (.tuple #[.agg #[.bool b', .int .u32 x', .int .i64 y'], .int .i64 D]) ∧ (D = 0 → Lm (PC S n A C L (tw S n A C L)) p) ∧ Sp w' rb n (rm c) ∧ Ch (fun k => k = rb) W w' ∧ Cb w' w.heap.size c ∧ SR w' sg (c.sn + 2) (mk c.sn c.sn S) ∧ Below w.heap.size w w' ∧ wB.heap.size ≤ w'.heap.size) := fun wB sg cap rb hC hR hS hB l1 l2 l3 l4 W g Bt Bf hF hg ht hf hW => by
    obtain ⟨U0, u1, u2⟩ := hS
    have hsz := hW.size
    have hcl := hC.lt
    have hk : #[Value.int .u32 c.rN, .int .u32 c.rA, .int .u32 c.rC] = rk n A C := by rw [hrN, hrA, hrC]
    rw [hk]
    have hR0 : SR W sg c.sn S := (hR.of (hW.block _ l4)).mono (by omega) (fun v hv => mk_self _ _ v hv)
    have hU0 : GU W rb (rm c) U0 := u1.of (hW.block _ l3)
    refine (coloured_any n (rm c) rb sg c.sn cap Bt Bf g A C L f S U0 (fun v _ => hsr v) hn hA (by omega) hrm (by omega) W hU0 u2 hF hR0 (by omega) (by omega) (by omega) (by omega)).mono ?_
    rintro e w' ⟨E, o', rfl, q1, q2, q3, q4⟩
    obtain ⟨k1, k2⟩ := hone26 E o' (q1.trans hD) q2
    have hED : E = D := q1.trans hD
    subst hED
    have hs4 := q4.size
    rw [k1, hv26]
    have hx : Below w.heap.size w W := hB.trans (hW.mono (by omega))
    exact ⟨rfl, k2, q3, q4, ((q4.block _ (by omega) (by omega)).trans (hW.block _ (by omega))).trans hC, hR.of ((q4.block _ (by omega) (by omega)).trans (hW.block _ (by omega))), hx.trans (q4.below (fun k hk h => by omega) (by omega)), by omega⟩
  have HD25 : Hid (D = 0 → Lm (PI S n (ah S n A C L)) o → ∀ W, Below w.heap.size w W → Calls Try.prog 25 #[.agg #[.int .u32 c.rN, .int .u32 c.rA, .int .u32 c.rC], .slice c.ea c.en c.ec, .slice c.sa c.sn c.sc] W fun e w' => e = .returned (.agg #[.bool b, .int .u32 x, .int .i64 y]) ∧ Below W.heap.size W w') := fun hD0 hP W hW => by
    have hk : #[Value.int .u32 c.rN, .int .u32 c.rA, .int .u32 c.rC] = rk n A C := by rw [hrN, hrA, hrC]
    rw [hk, hL]
    have hak : ak (ck n A C) n c.sn (rm c) 1 = 0 := by
      have h := hD
      unfold dk at h
      split at h
      · rename_i h1; rw [hD0] at h; exact absurd h h1
      · rename_i h1; simpa using h1
    obtain ⟨hck, hsn, hrl⟩ := ak_zero hak
    rw [Nat.one_mul] at hrl
    have ho : Ord n A C := by
      unfold ck at hck
      split at hck
      · assumption
      · cases hck
    have hfa : fa n 0 L f = 0 := by
      have h := hD
      rw [dk_eq hak] at h
      exact h.trans hD0
    have hgd := fa_good (by rw [← hf]; exact (ct_b 0 200 c.bh (by decide)).1) hfa
    obtain ⟨eb, ex, ey⟩ := hv23a hD0
    have hr := hS.on hW (Nat.le_refl _)
    rw [hsn] at hr ⊢
    refine (rindep_any n A C c.ec c.sc c.ea c.sa L S ho (by omega) (by omega) W (hE.on hW (Nat.le_refl _)) hr hgd).mono ?_
    rintro e w' ⟨o', rfl, hl, hb⟩
    obtain rfl : o' = o := hl.one hP
    rw [eb, ex, ey]
    exact ⟨rfl, hb⟩
  have HD27 : Hid (D = 0 → Lm (PC S n A C L (tw S n A C L)) p → ∀ W, Below w.heap.size w W → Calls Try.prog 27 #[.agg #[.int .u32 c.rN, .int .u32 c.rA, .int .u32 c.rC], .slice c.ea c.en c.ec, .slice c.sa c.sn c.sc] W fun e w' => e = .returned (.agg #[.bool b', .int .u32 x', .int .i64 y']) ∧ Below W.heap.size W w') := fun hD0 hP W hW => by
    have hk : #[Value.int .u32 c.rN, .int .u32 c.rA, .int .u32 c.rC] = rk n A C := by rw [hrN, hrA, hrC]
    rw [hk, hL]
    have hak : ak (ck n A C) n c.sn (rm c) 1 = 0 := by
      have h := hD
      unfold dk at h
      split at h
      · rename_i h1; rw [hD0] at h; exact absurd h h1
      · rename_i h1; simpa using h1
    obtain ⟨hck, hsn, hrl⟩ := ak_zero hak
    rw [Nat.one_mul] at hrl
    have ho : Ord n A C := by
      unfold ck at hck
      split at hck
      · assumption
      · cases hck
    have hfa : fa n 0 L f = 0 := by
      have h := hD
      rw [dk_eq hak] at h
      exact h.trans hD0
    have hgd := fa_good (by rw [← hf]; exact (ct_b 0 200 c.bh (by decide)).1) hfa
    obtain ⟨eb, ex, ey⟩ := hv26a hD0
    have hr := hS.on hW (Nat.le_refl _)
    rw [hsn] at hr ⊢
    refine (rcol_any n A C c.ec c.sc c.ea c.sa L S ho (by omega) (by omega) W (hE.on hW (Nat.le_refl _)) hr hgd (fun v _ => hsr v)).mono ?_
    rintro e w' ⟨o', rfl, hl, hb⟩
    obtain rfl : o' = p := hl.one hP
    rw [eb, ex, ey]
    exact ⟨rfl, hb⟩
  have HFg : Hid (∀ wB, Below w.heap.size w wB → ∀ W, Below wB.heap.size wB W → Calls Try.prog 12 #[.slice c.ea c.en c.ec, .int .i64 f] W fun e w' => ∃ g Bt Bf, e = .returned (fe Bt Bf) ∧ Fd w' g Bt Bf L f ∧ wB.heap.size ≤ g ∧ wB.heap.size ≤ Bt ∧ wB.heap.size ≤ Bf ∧ Below wB.heap.size wB w' ∧ Below W.heap.size W w') := fun wB hB W hW => by
    rw [hL]
    have h6 := hW.size
    refine (feed_all c.ea c.ec L f W hl12 hec (hE.on (hB.trans (hW.mono hB.size)) (Nat.le_refl _))).mono ?_
    rintro e w' ⟨g, Bt, Bf, rfl, h1, h2, h3, h4, h5⟩
    exact ⟨g, Bt, Bf, rfl, h1, by omega, by omega, by omega, hW.trans (h5.mono h6), h5⟩
  have HSt := hide (states_any c.sa c.sn c.sc c.sn S hs64 hs64 w0 (hS.on hB0 (Nat.le_refl _)))
  have HBh := hide (behind_any c)
  rw [hf] at HBh
  have HAs : Hid (∀ wB, Below w.heap.size w wB → ∀ W, Below wB.heap.size wB W → Calls Try.prog 14 #[.agg (cb c), .int .i64 (ck n A C), .int .u32 c.rN, .int .i64 c.rN, .int .i64 0] W fun e w' => e = .returned (.int .i64 D) ∧ Below wB.heap.size wB w') := fun wB hB W hW => by
    have h := asked_any c (ck n A C) 0 n 1 L hL (by omega) hn (by omega) (by omega) (Or.inl rfl) W (hE.on (hB.trans (hW.mono hB.size)) (Nat.le_refl _))
    rw [Nat.one_mul, hf, hD] at h
    rw [hrN]
    refine h.mono ?_
    rintro e w' ⟨rfl, hb⟩
    exact ⟨rfl, hW.trans (hb.mono hW.size)⟩
  have H24 : Hid (∀ wB W, Below wB.heap.size wB W → Calls Try.prog 24 #[.agg #[.int .u32 c.rN, .int .u32 c.rA, .int .u32 c.rC]] W fun e w' => e = .returned (.int .i64 (ck n A C)) ∧ Below wB.heap.size wB w') := fun wB W hW => by
    have hk : #[Value.int .u32 c.rN, .int .u32 c.rA, .int .u32 c.rC] = rk n A C := by rw [hrN, hrA, hrC]
    rw [hk]
    refine (rordered_any n A C hn hA W).mono ?_
    rintro e w' ⟨rfl, hb⟩
    exact ⟨rfl, hW.trans (hb.mono hW.size)⟩
  have HAg23 : Hid (∀ W, Calls Try.prog 18 #[.agg #[.bool b, .int .u32 x, .int .i64 y], .int .i64 D, .agg #[.bool b, .int .u32 x, .int .i64 y], .int .i64 D] W fun e w' => e = .returned (.bool true) ∧ Below W.heap.size W w') := fun W => by
    have h := agree_any D o b x y hv23a W
    rw [hv23] at h
    exact h
  have HAg26 : Hid (∀ W, Calls Try.prog 18 #[.agg #[.bool b', .int .u32 x', .int .i64 y'], .int .i64 D, .agg #[.bool b', .int .u32 x', .int .i64 y'], .int .i64 D] W fun e w' => e = .returned (.bool true) ∧ Below W.heap.size W w') := fun W => by
    have h := agree_any D p b' x' y' hv26a W
    rw [hv26] at h
    exact h
  have hcv : IntKind.i64.wrap c.rN = c.rN := by rw [hrN]; exact i64w _ (by omega)
  have hcw : wrap64 c.rN = c.rN := by rw [hrN]; unfold wrap64; omega
  have hr0 : 0 ≤ c.rN := by omega
  have hr1 : c.rN < 4294967296 := by omega
  have HNr := hide hrN
  have HV23 := hide hv23b
  have HV26 := hide hv26b
  have hk0 := hc0.k
  have HS := hide hS
  have HC0 := hide hc0
  have HB0 := hide hB0
  have HW0 := hide hw0
  clear hS hE hc0 hB0 hone23 hone26 hv23 hv26 hv23a hv26a hv23b hv26b hD hf hL hec hrN hrA hrC hsr
  obtain ⟨k0, k1, k2, _⟩ := hk0
  rw [← hw0] at k1
  clear hw0 k0 k2
  go_enter Try.func5, Try.ntmps5
  go_wp2_with (fail)
  rw [HW0.out]
  clear k1
  refine HSt.out.mono ?_
  rintro e1 w1 ⟨sg, cap, rfl, hcap, hsg, hSR, hB1⟩
  have hB01 : Below w.heap.size w w1 := HB0.out.trans (hB1.mono HB0.out.size)
  have hsz0 : w.heap.size < w0.heap.size := HC0.out.lt
  have hC1 : Cb w1 w.heap.size c := (hB1.block _ hsz0).trans HC0.out
  obtain ⟨d0, d1, d2, d3, d4, d5, d6, d7, d8, d9, d10, d11, d12, d13⟩ := hC1.k
  have HWd := hide (words_any c w1)
  have HC1 := hide hC1
  have HB01 := hide hB01
  have HSR := hide hSR
  have HSG : Hid (w0.heap.size ≤ sg ∧ w.heap.size < w0.heap.size) := ⟨hsg, hsz0⟩
  clear hB1 hC1 hB01 hSR HSt HC0 HB0 hsg hsz0
  go_wp2_with (fail)
  refine HWd.out.mono ?_
  rintro e2 w2 ⟨rb, rfl, hrb, hG2, _, hB2⟩
  clear d0 d1 d2 d3 d4 d5 d6 d7 d8 d9 d10 d11 d12 d13
  have hs1 : sg < w1.heap.size := HSR.out.lt
  have HC2 : Hid (Cb w2 w.heap.size c) := (hB2.block _ (by have := HSG.out; omega)).trans HC1.out
  have HB02 : Hid (Below w.heap.size w w2) := HB01.out.trans (hB2.mono HB01.out.size)
  have HSR2 : Hid (SR w2 sg (c.sn + 2) (mk c.sn c.sn S)) := HSR.out.of (hB2.block _ hs1)
  have HR : Hid (w.heap.size < sg ∧ sg < rb ∧ rb < w2.heap.size) := ⟨by have := HSG.out; omega, by omega, hG2.lt⟩
  have HL4 := hide (HG23.out w2 sg cap rb HC2.out HSR2.out ⟨_, hG2, fun _ _ _ => rfl⟩ HB02.out HR.out.1 HR.out.2.1 HR.out.2.2 HSR2.out.lt)
  have HFd := hide (HFg.out w2 HB02.out)
  clear hG2 hB2 hrb hs1 HC1 HB01 HSR HSG HWd HG23
  have HKg : Hid (∀ W, Below w2.heap.size w2 W → K14 w.heap.size c W) := fun W h => (show Cb W w.heap.size c from (h.block _ HC2.out.lt).trans HC2.out).k
  go_wp2_with (fail)
  apply wp_cutF (fun vb w' => T5 w c sg rb n S (D = 0 → Lm (PI S n (ah S n A C L)) o) b x y vb w' ∧ w.heap.size ≤ vb) (fun vb fv => { tmps := #[.agg (cb c), .pointer (some ⟨w.heap.size, 0, none⟩), .bool false, .slice (some ⟨sg, 0, none⟩) c.sn cap, .slice (some ⟨rb, 0, none⟩) (rm c) (rm c), .pointer (some ⟨vb, 0, none⟩), .int .i64 D, undef, undef, undef, undef, undef, .pointer (some ⟨w.heap.size, 1, none⟩), .slice c.sa c.sn c.sc, .pointer (some ⟨w.heap.size, 1, none⟩), .slice c.sa c.sn c.sc, .int .i64 (c.sn : Int), .slice (some ⟨sg, 0, none⟩) c.sn cap, .agg #[.int .u32 (c.N : Int), .slice c.sa c.sn c.sc, .slice c.ea c.en c.ec, .int .i64 c.bh, .int .i64 c.room, .int .u32 c.src, .slice c.qa c.qn c.qc, .int .i64 c.kind, .int .u32 c.rN, .int .u32 c.rA, .int .u32 c.rC, .int .u32 c.damp, .int .i64 c.rounds, .int .u64 c.seed], .slice (some ⟨rb, 0, none⟩) (rm c) (rm c), .tuple #[.agg #[.bool b, .int .u32 x, .int .i64 y], .int .i64 D], .pointer (some ⟨w.heap.size, 8, none⟩), .agg #[.int .u32 c.rN, .int .u32 c.rA, .int .u32 c.rC], .pointer (some ⟨w.heap.size, 2, none⟩), .slice c.ea c.en c.ec, .agg #[.int .u32 (c.N : Int), .slice c.sa c.sn c.sc, .slice c.ea c.en c.ec, .int .i64 c.bh, .int .i64 c.room, .int .u32 c.src, .slice c.qa c.qn c.qc, .int .i64 c.kind, .int .u32 c.rN, .int .u32 c.rA, .int .u32 c.rC, .int .u32 c.damp, .int .i64 c.rounds, .int .u64 c.seed], .int .i64 f, fv, .slice (some ⟨sg, 0, none⟩) c.sn cap, .slice (some ⟨rb, 0, none⟩) (rm c) (rm c), .tuple #[.agg #[.bool b, .int .u32 x, .int .i64 y], .int .i64 D], .agg #[.bool b, .int .u32 x, .int .i64 y], .int .i64 D, undef, undef, undef, undef, undef, undef, undef, undef, undef, undef, undef, undef, undef, undef, undef, undef, undef, undef, undef, undef, undef, undef, undef, undef, undef, undef, undef, undef, undef, undef, undef, undef, undef, undef, undef, undef, undef, undef, undef, undef, undef, undef, undef, undef, undef, undef, undef, undef, undef, undef, undef, undef, undef, undef, undef, undef, undef, undef, undef, undef, undef, undef, undef, undef, undef, undef, undef, undef, undef, undef, undef, undef], defers := [] })
  case h =>
    go_region_held3 (K14 w.heap.size c) ((first | with_reducible exact HK4.out | with_reducible exact HK5.out _ | with_reducible exact K14s HC4.out _ HVB.out _ _ _ | (refine HKg.out _ ?_; repeat (first | with_reducible exact HB3.out | with_reducible exact Below.refl _ _ | with_reducible refine belowD ?_ | with_reducible refine bA2 ?_ _)))) ((first
      | (go_at_call 13; refine (HBh.out _).mono ?_; rintro e1 w1 ⟨rfl, rfl⟩)
      | (go_at_call 12; refine (HFd.out _ (by repeat (first | with_reducible exact Below.refl _ _ | with_reducible refine belowD ?_ | with_reducible refine bA2 ?_ _))).mono ?_; rintro e3 w3 ⟨g, Bt, Bf, rfl, hFd3, hg3, ht3, hf3, hB3, hB3'⟩; have HB3 := hide hB3; have HF3 := hide (And.intro hFd3 (And.intro hg3 (And.intro ht3 hf3))); (first | (have HZ3 := hide ((z_a w2 _).b hB3'); clear hB3') | (have HZ3 := hide ((z_b w2 _).b hB3'); clear hB3') | clear hB3'); clear hFd3 hg3 ht3 hf3 hB3)
      | (go_at_call 23; refine (HL4.out _ g Bt Bf (by first | exact HF3.out.1 | exact HF3.out.1.al _) HF3.out.2.1 HF3.out.2.2.1 HF3.out.2.2.2 (by repeat (first | with_reducible exact HB3.out | with_reducible refine belowD ?_ | with_reducible refine bA2 ?_ _))).mono ?_; rintro e4 w4 ⟨rfl, hA4, hS4, hD4, hC4, hR4, hB4, hz4⟩; have HA4 := hide hA4; have HS4 := hide hS4; have HC4 := hide hC4; have HR4 := hide hR4; have HB4 := hide hB4; have HZ4 := hide hz4; (first | (have hz5 := HZ3.out.c hD4 (by have := HR.out; omega); have HVB := hide (nevb hz5 hC4); obtain ⟨m0, m1, m2, f0, f1, f2⟩ := z35 hz5; have HZ5 := hide hz5; clear hz5) | (have hz5 := (z_c w3).c hD4 (by have := HB3.out.size; have := HR.out; omega); have HVB := hide (nevb hz5 hC4); obtain ⟨m0, m1, m2, f0, f1, f2⟩ := z35 hz5; have HZ5 := hide hz5; clear hz5) | skip); clear hA4 hS4 hD4 hC4 hR4 hB4 hz4; have HK4 : Hid (K14 w.heap.size c w4) := HC4.out.k; have HK5 : Hid (∀ o, K14 w.heap.size c (w4.alloc o)) := fun o => (show Cb (w4.alloc o) w.heap.size c from keep o HC4.out).k)))
    · exact ⟨_, _, rfl, T5.new HA4.out HS4.out HC4.out HR4.out HB4.out, HB4.out.size⟩
    · exact ⟨_, _, rfl, T5.old HZ5.out (by have := HB3.out.size; have := HR.out; omega) HA4.out HS4.out HC4.out HR4.out HB4.out, (by have := HB3.out.size; have := HR.out; omega)⟩
    · exact ⟨_, _, rfl, T5.old HZ5.out (by have := HR.out; omega) HA4.out HS4.out HC4.out HR4.out HB4.out, (by have := HR.out; omega)⟩
    · exact ⟨_, _, rfl, T5.old HZ5.out (by have := HR.out; omega) HA4.out HS4.out HC4.out HR4.out HB4.out, (by have := HR.out; omega)⟩
  case hq =>
    rintro vb fv w5 ⟨⟨hv5, hA5, hS5, hC5, hR5, hB5⟩, hvb5⟩
    dsimp only
    have HV5 := hide hv5
    have HA5 := hide hA5
    have HS5 := hide hS5
    have HC5 := hide hC5
    have HR5 := hide hR5
    have HB5 := hide hB5
    have HKg : Hid (∀ W, Below w5.heap.size w5 W → K14 w.heap.size c W) := fun W h => (show Cb W w.heap.size c from (h.block _ HC5.out.lt).trans HC5.out).k
    have HAsk := hide (HAs.out w5 HB5.out)
    have H24a := hide (H24.out w5)
    have Hvb5 := hide hvb5
    clear hvb5 hv5 hA5 hS5 hC5 hR5 hB5 HFd HL4 HC2 HB02 HSR2 HAs H24
    go_wp2_with (fail)
    apply wp_cut (fun w' => Below w5.heap.size w5 w')
    case h =>
      go_region_held3 (K14 w.heap.size c) ((refine HKg.out _ ?_; repeat (first | with_reducible exact HB6.out | with_reducible exact HB24.out | with_reducible exact Below.refl _ _ | with_reducible refine belowD ?_))) ((first | (go_at_call 24; refine (H24a.out _ (by repeat (first | with_reducible exact Below.refl _ _ | with_reducible refine belowD ?_))).mono ?_; rintro e1 w1 ⟨rfl, hB24⟩; have HB24 := hide hB24; clear hB24) | (go_at_call 14; refine (HAsk.out _ HB24.out).mono ?_; rintro e6 w6 ⟨rfl, hB6⟩; have HB6 := hide hB6; clear hB6)))
      all_goals exact ⟨rfl, HB6.out⟩
    case hq =>
      intro w6 hB6
      have HB6 := hide hB6
      clear hB6 HAsk H24a HKg
      obtain ⟨w7, hw7⟩ : ∃ w7, w6.alloc (.cells z3 35) = w7 := ⟨_, rfl⟩
      have HB57 : Hid (Below w5.heap.size w5 w7) := by
        show Below _ _ _
        rw [← hw7]; exact bA2 HB6.out _
      have HZ7 : Hid (Zc w7 w6.heap.size) := by
        show Zc _ _
        rw [← hw7]; exact at0 _ _
      have HC7 : Hid (Cb w7 w.heap.size c) := (HB57.out.block _ HC5.out.lt).trans HC5.out
      have HR7 : Hid (SR w7 sg (c.sn + 2) (mk c.sn c.sn S)) := HR5.out.of (HB57.out.block _ HR5.out.lt)
      have HS7 : Hid (Sp w7 rb n (rm c)) := HS5.out.of (HB57.out.block _ HS5.out.lt)
      have HV7 : Hid (w7.heap[vb]? = some (.cells #[.bool b, .int .u32 x, .int .i64 y] 35 (0, 0))) := (HB57.out.block _ (lt_of_some HV5.out)).trans HV5.out
      have HB7 : Hid (Below w.heap.size w w7) := HB5.out.trans (HB57.out.mono HB5.out.size)
      have HVU : Hid (vb ≠ w6.heap.size ∧ w.heap.size ≤ w6.heap.size ∧ sg ≠ w6.heap.size ∧ rb ≠ w6.heap.size ∧ w.heap.size ≠ w6.heap.size) := by
        have h1 := lt_of_some HV5.out
        have h2 := HB6.out.size
        have h3 := HB5.out.size
        have h4 := HR5.out.lt
        have h5 := HS5.out.lt
        have h6 := HC5.out.lt
        exact ⟨by omega, by omega, by omega, by omega, by omega⟩
      have HVB : Hid (vb ≠ w.heap.size ∧ vb ≠ sg ∧ vb ≠ rb ∧ w.heap.size ≤ vb) := by
        have h1 := HV5.out
        refine ⟨fun e => ?_, fun e => ?_, fun e => ?_, Hvb5.out⟩
        · subst e
          have h2 : w5.heap[w.heap.size]? = some (.cells (cb c) 30 (0, 0)) := HC5.out
          rw [h1] at h2; simp at h2
        · subst e
          obtain ⟨Q, h2, _⟩ := HR5.out
          rw [h1] at h2; simp at h2
        · subst e
          obtain ⟨U, ⟨Q, h2, _⟩, _⟩ := HS5.out
          rw [h1] at h2; simp at h2
      clear HV5 HC5 HR5 HS5 HB5 HB57 HB6
      obtain ⟨ub, hub⟩ : ∃ ub, ub = w6.heap.size := ⟨_, rfl⟩
      rw [← hub] at HZ7 HVU
      have HW7 := hide hw7
      have Hub := hide hub
      clear hw7 hub
      by_cases hD0 : D = 0
      · have hDb : (D == 0) = true := by simpa using hD0
        have HD0 := hide hD0
        clear hD0
        obtain ⟨k0, k1, k2, k3, k4, k5, k6, k7, k8, k9, k10, _⟩ := HC7.out.k
        rw [← HW7.out] at k1 k2 k8 k9 k10
        have HDa := hide (HD25.out HD0.out (HA5.out HD0.out) _ HB7.out)
        clear k0 k3 k4 k5 k6 k7 HD25 HA5
        go_wp2_with (fail)
        rw [HW7.out, ← Hub.out]
        refine HDa.out.mono ?_
        rintro e8 w8 ⟨rfl, hB8⟩
        have HC8 : Hid (Cb w8 w.heap.size c) := (hB8.block _ HC7.out.lt).trans HC7.out
        have HR8 : Hid (SR w8 sg (c.sn + 2) (mk c.sn c.sn S)) := HR7.out.of (hB8.block _ HR7.out.lt)
        have HS8 : Hid (Sp w8 rb n (rm c)) := HS7.out.of (hB8.block _ HS7.out.lt)
        have HV8 : Hid (w8.heap[vb]? = some (.cells #[.bool b, .int .u32 x, .int .i64 y] 35 (0, 0))) := (hB8.block _ (lt_of_some HV7.out)).trans HV7.out
        have HZ8 : Hid (Zc w8 ub) := HZ7.out.b hB8
        have HB8 : Hid (Below w.heap.size w w8) := HB7.out.trans (hB8.mono HB7.out.size)
        obtain ⟨z0, z1, z2, f0, f1, f2⟩ := z35 HZ8.out
        obtain ⟨w9, hw9⟩ : ∃ w9, ((w8.setCell ⟨ub, 0, none⟩ (.bool b)).setCell ⟨ub, 1, none⟩ (.int .u32 x)).setCell ⟨ub, 2, none⟩ (.int .i64 y) = w9 := ⟨_, rfl⟩
        have HE9 : Hid (Cb w9 w.heap.size c ∧ SR w9 sg (c.sn + 2) (mk c.sn c.sn S) ∧ Sp w9 rb n (rm c) ∧ w9.heap[vb]? = w8.heap[vb]? ∧ w9.heap[ub]? = some (.cells #[.bool b, .int .u32 x, .int .i64 y] 35 (0, 0)) ∧ Below w.heap.size w w9) := by
          obtain ⟨n1, n2, n3, n4, n5⟩ := HVU.out
          obtain ⟨p1, p2, p3, p4⟩ := HVB.out
          have hC : Ch (fun k => k = ub) w8 w9 := by rw [← hw9]; exact Ch.sets _ _ _
          refine ⟨(hC.block _ HC8.out.lt (by omega)).trans HC8.out, HR8.out.on hC (by omega), HS8.out.of (hC.block _ HS8.out.lt (by omega)), hC.block _ (lt_of_some HV8.out) (by omega), ?_, HB8.out.trans (hC.below (fun k hk e => by omega) HB8.out.size)⟩
          rw [← hw9, sets3 HZ8.out rfl]
          exact setRow_heap _ _ _ _ _ _ HZ8.out
        have HC9 := hide HE9.out.1
        have HR9 := hide HE9.out.2.1
        have HS9 := hide HE9.out.2.2.1
        have HV9 := hide (HE9.out.2.2.2.1.trans HV8.out)
        have HZ9 := hide HE9.out.2.2.2.2.1
        have HB9 := hide HE9.out.2.2.2.2.2
        obtain ⟨m0, m1, m2⟩ := c35 HV9.out
        obtain ⟨q0, q1, q2⟩ := c35 HZ9.out
        clear HE9
        clear hB8 HC7 HR7 HS7 HV7 HZ7 HB7 HC8 HR8 HS8 HV8 HZ8 HB8 k1 k2 k8 k9 k10 HDa
        go_wp2_with (fail)
        clear m0 m1 m2 q0 q1 q2 z0 z1 z2 f0 f1 f2 hw9
        refine (HAg23.out _).mono ?_
        rintro e10 w10 ⟨rfl, hB10⟩
        have HC10 : Hid (Cb w10 w.heap.size c) := (hB10.block _ HC9.out.lt).trans HC9.out
        have HR10 : Hid (SR w10 sg (c.sn + 2) (mk c.sn c.sn S)) := HR9.out.of (hB10.block _ HR9.out.lt)
        have HS10 : Hid (Sp w10 rb n (rm c)) := HS9.out.of (hB10.block _ HS9.out.lt)
        have HV10 := hide ((hB10.block _ (lt_of_some HV9.out)).trans HV9.out)
        have HZ10 := hide ((hB10.block _ (lt_of_some HZ9.out)).trans HZ9.out)
        have HB10 : Hid (Below w.heap.size w w10) := HB9.out.trans (hB10.mono HB9.out.size)
        clear hB10 HC9 HR9 HS9 HV9 HZ9 HB9
        have HKg : Hid (∀ W, Below w10.heap.size w10 W → K14 w.heap.size c W) := fun W h => (show Cb W w.heap.size c from (h.block _ HC10.out.lt).trans HC10.out).k
        have HFd := hide (HFg.out w10 HB10.out)
        have HL4 := hide (HG26.out w10 sg cap rb HC10.out HR10.out HS10.out HB10.out HR.out.1 HR.out.2.1 HS10.out.lt HR10.out.lt)
        clear HAg23 HFg HG26
        go_wp2_with (fail)
        go_region_held3 (K14 w.heap.size c) ((first | with_reducible exact HK14.out | with_reducible exact K14s HC14.out _ HVB.out.1.symm _ _ _ | (refine HKg.out _ ?_; repeat (first | with_reducible exact HB13.out | with_reducible exact Below.refl _ _ | with_reducible refine belowD ?_ | with_reducible refine bA2 ?_ _)))) ((first
          | (go_at_call 13; refine (HBh.out _).mono ?_; rintro e1 w1 ⟨rfl, rfl⟩)
          | (go_at_call 12; refine (HFd.out _ (by repeat (first | with_reducible exact Below.refl _ _ | with_reducible refine belowD ?_ | with_reducible refine bA2 ?_ _))).mono ?_; rintro e13 w13 ⟨g, Bt, Bf, rfl, hFd3, hg3, ht3, hf3, hB3, hB3'⟩; have HB13 := hide hB3; have HF3 := hide (And.intro hFd3 (And.intro hg3 (And.intro ht3 hf3))); clear hFd3 hg3 ht3 hf3 hB3 hB3')
          | (go_at_call 26; refine (HL4.out _ g Bt Bf HF3.out.1 HF3.out.2.1 HF3.out.2.2.1 HF3.out.2.2.2 HB13.out).mono ?_; rintro e14 w14 ⟨rfl, hA4, hS4, hD4, hC4, hR4, hB4, hz4⟩; have HV14 : Hid (w14.heap[vb]? = some (.cells #[.bool b, .int .u32 x, .int .i64 y] 35 (0, 0))) := ((hD4.block _ (Nat.lt_of_lt_of_le (lt_of_some HV10.out) HB13.out.size) HVB.out.2.2.1).trans (HB13.out.block _ (lt_of_some HV10.out))).trans HV10.out; have HZ14 : Hid (w14.heap[ub]? = some (.cells #[.bool b, .int .u32 x, .int .i64 y] 35 (0, 0))) := ((hD4.block _ (Nat.lt_of_lt_of_le (lt_of_some HZ10.out) HB13.out.size) HVU.out.2.2.2.1.symm).trans (HB13.out.block _ (lt_of_some HZ10.out))).trans HZ10.out; have HA14 := hide hA4; have HS14 := hide hS4; have HC14 := hide hC4; have HR14 := hide hR4; have HB14 := hide hB4; obtain ⟨m0, m1, m2⟩ := c35 HV14.out; have f0 : w14.frozen? ⟨vb, 0, none⟩ = false := frozen_of_row _ _ _ _ _ HV14.out; have f1 : w14.frozen? ⟨vb, 1, none⟩ = false := frozen_of_row _ _ _ _ _ HV14.out; have f2 : w14.frozen? ⟨vb, 2, none⟩ = false := frozen_of_row _ _ _ _ _ HV14.out; clear hA4 hS4 hD4 hC4 hR4 hB4 hz4; have HK14 : Hid (K14 w.heap.size c w14) := HC14.out.k)))
        obtain ⟨w15, hw15⟩ : ∃ w15, ((w14.setCell ⟨vb, 0, none⟩ (.bool b')).setCell ⟨vb, 1, none⟩ (.int .u32 x')).setCell ⟨vb, 2, none⟩ (.int .i64 y') = w15 := ⟨_, rfl⟩
        rw [hw15]
        clear m0 m1 m2 f0 f1 f2
        have HE15 : Hid (Cb w15 w.heap.size c ∧ SR w15 sg (c.sn + 2) (mk c.sn c.sn S) ∧ Sp w15 rb n (rm c) ∧ w15.heap[ub]? = w14.heap[ub]? ∧ w15.heap[vb]? = some (.cells #[.bool b', .int .u32 x', .int .i64 y'] 35 (0, 0)) ∧ Below w.heap.size w w15) := by
          obtain ⟨n1, n2, n3, n4, n5⟩ := HVU.out
          obtain ⟨p1, p2, p3, p4⟩ := HVB.out
          have hC : Ch (fun k => k = vb) w14 w15 := by rw [← hw15]; exact Ch.sets _ _ _
          refine ⟨(hC.block _ HC14.out.lt (by omega)).trans HC14.out, HR14.out.on hC (by omega), HS14.out.of (hC.block _ HS14.out.lt (by omega)), hC.block _ (lt_of_some HZ14.out) (by omega), ?_, HB14.out.trans (hC.below (fun k hk e => by omega) HB14.out.size)⟩
          rw [← hw15, sets3 HV14.out rfl]
          exact setRow_heap _ _ _ _ _ _ HV14.out
        have HC15 := hide HE15.out.1
        have HR15 := hide HE15.out.2.1
        have HS15 := hide HE15.out.2.2.1
        have HZ15 := hide (HE15.out.2.2.2.1.trans HZ14.out)
        have HV15 := hide HE15.out.2.2.2.2.1
        have HB15 := hide HE15.out.2.2.2.2.2
        obtain ⟨m0, m1, m2⟩ := c35 HV15.out
        obtain ⟨q0, q1, q2⟩ := c35 HZ15.out
        clear HE15
        clear m0 m1 m2 q0 q1 q2 HC14 HR14 HS14 HV14 HZ14 HB14 HK14 HKg HL4 HFd HB13 HF3 HC10 HR10 HS10 HV10 HZ10 HB10 hw15
        obtain ⟨k0, k1, k2, k3, k4, k5, k6, k7, k8, k9, k10, _⟩ := HC15.out.k
        have HDb := hide (HD27.out HD0.out (HA14.out HD0.out) _ HB15.out)
        clear k0 k3 k4 k5 k6 k7
        go_wp2_with (fail)
        refine HDb.out.mono ?_
        rintro e16 w16 ⟨rfl, hB16⟩
        have HC16 : Hid (Cb w16 w.heap.size c) := (hB16.block _ HC15.out.lt).trans HC15.out
        have HR16 : Hid (SR w16 sg (c.sn + 2) (mk c.sn c.sn S)) := HR15.out.of (hB16.block _ HR15.out.lt)
        have HS16 : Hid (Sp w16 rb n (rm c)) := HS15.out.of (hB16.block _ HS15.out.lt)
        have HV16 := hide ((hB16.block _ (lt_of_some HV15.out)).trans HV15.out)
        have HZ16 := hide ((hB16.block _ (lt_of_some HZ15.out)).trans HZ15.out)
        have HB16 : Hid (Below w.heap.size w w16) := HB15.out.trans (hB16.mono HB15.out.size)
        clear hB16 HC15 HR15 HS15 HV15 HZ15 HB15
        obtain ⟨z0, z1, z2⟩ := c35 HZ16.out
        have f0 : w16.frozen? ⟨ub, 0, none⟩ = false := frozen_of_row _ _ _ _ _ HZ16.out
        have f1 : w16.frozen? ⟨ub, 1, none⟩ = false := frozen_of_row _ _ _ _ _ HZ16.out
        have f2 : w16.frozen? ⟨ub, 2, none⟩ = false := frozen_of_row _ _ _ _ _ HZ16.out
        obtain ⟨w17, hw17⟩ : ∃ w17, ((w16.setCell ⟨ub, 0, none⟩ (.bool b')).setCell ⟨ub, 1, none⟩ (.int .u32 x')).setCell ⟨ub, 2, none⟩ (.int .i64 y') = w17 := ⟨_, rfl⟩
        have HE17 : Hid (Cb w17 w.heap.size c ∧ SR w17 sg (c.sn + 2) (mk c.sn c.sn S) ∧ Sp w17 rb n (rm c) ∧ w17.heap[vb]? = w16.heap[vb]? ∧ w17.heap[ub]? = some (.cells #[.bool b', .int .u32 x', .int .i64 y'] 35 (0, 0)) ∧ Below w.heap.size w w17) := by
          obtain ⟨n1, n2, n3, n4, n5⟩ := HVU.out
          obtain ⟨p1, p2, p3, p4⟩ := HVB.out
          have hC : Ch (fun k => k = ub) w16 w17 := by rw [← hw17]; exact Ch.sets _ _ _
          refine ⟨(hC.block _ HC16.out.lt (by omega)).trans HC16.out, HR16.out.on hC (by omega), HS16.out.of (hC.block _ HS16.out.lt (by omega)), hC.block _ (lt_of_some HV16.out) (by omega), ?_, HB16.out.trans (hC.below (fun k hk e => by omega) HB16.out.size)⟩
          rw [← hw17, sets3 HZ16.out rfl]
          exact setRow_heap _ _ _ _ _ _ HZ16.out
        have HC17 := hide HE17.out.1
        have HR17 := hide HE17.out.2.1
        have HS17 := hide HE17.out.2.2.1
        have HV17 := hide (HE17.out.2.2.2.1.trans HV16.out)
        have HZ17 := hide HE17.out.2.2.2.2.1
        have HB17 := hide HE17.out.2.2.2.2.2
        obtain ⟨m0, m1, m2⟩ := c35 HV17.out
        obtain ⟨q0, q1, q2⟩ := c35 HZ17.out
        clear HE17
        clear k1 k2 k8 k9 k10 HDb
        go_wp2_with (fail)
        clear m0 m1 m2 q0 q1 q2 z0 z1 z2 f0 f1 f2 hw17 HC16 HR16 HS16 HV16 HZ16 HB16
        refine (HAg26.out _).mono ?_
        rintro e18 w18 ⟨rfl, hB18⟩
        have HC18 : Hid (Cb w18 w.heap.size c) := (hB18.block _ HC17.out.lt).trans HC17.out
        have HR18 : Hid (SR w18 sg (c.sn + 2) (mk c.sn c.sn S)) := HR17.out.of (hB18.block _ HR17.out.lt)
        have HS18 : Hid (Sp w18 rb n (rm c)) := HS17.out.of (hB18.block _ HS17.out.lt)
        have HV18 := hide ((hB18.block _ (lt_of_some HV17.out)).trans HV17.out)
        have HZ18 := hide ((hB18.block _ (lt_of_some HZ17.out)).trans HZ17.out)
        have HB18 : Hid (Below w.heap.size w w18) := HB17.out.trans (hB18.mono HB17.out.size)
        clear hB18 HC17 HR17 HS17 HV17 HZ17 HB17
        have k9 := HC18.out.k.2.1
        have HKp := hide (kept_any c.sa c.sn c.sc sg cap S hs64 hcap w18 (HS.out.on HB18.out (Nat.le_refl _)) HR18.out)
        clear HAg26
        go_wp2_with (fail)
        refine HKp.out.mono ?_
        rintro e19 w19 ⟨rfl, hB19⟩
        have HC19 : Hid (Cb w19 w.heap.size c) := (hB19.block _ HC18.out.lt).trans HC18.out
        have HR19 : Hid (SR w19 sg (c.sn + 2) (mk c.sn c.sn S)) := HR18.out.of (hB19.block _ HR18.out.lt)
        have HS19 : Hid (Sp w19 rb n (rm c)) := HS18.out.of (hB19.block _ HS18.out.lt)
        have HV19 := hide ((hB19.block _ (lt_of_some HV18.out)).trans HV18.out)
        have HZ19 := hide ((hB19.block _ (lt_of_some HZ18.out)).trans HZ18.out)
        have HB19 : Hid (Below w.heap.size w w19) := HB18.out.trans (hB19.mono HB18.out.size)
        clear hB19 HC18 HR18 HS18 HV18 HZ18 HB18
        have k10 := HC19.out.k.2.2.2.2.2.2.2.2.1
        have HSp : Hid (Calls Try.prog 20 #[.slice (some ⟨rb, 0, none⟩) (rm c) (rm c), .int .i64 c.rN] w19 fun e w' => e = .returned (.bool true) ∧ w' = w19) := by
          show Calls _ _ _ _ _
          rw [HNr.out]
          exact spare_any rb (rm c) n hrm (by omega) w19 (fun j h1 h2 => HS19.out.cell j h1 h2)
        clear k9 HKp
        go_wp2_with (fail)
        refine HSp.out.mono ?_
        rintro e20 w20 ⟨rfl, rfl⟩
        clear k10 HSp
        go_wp2
        all_goals go_ret
        all_goals exact ⟨rfl, HB19.out⟩
      · have hDb : (D == 0) = false := by simpa using hD0
        have HD0 := hide hD0
        clear hD0
        obtain ⟨eb, ex, ey⟩ := HV23.out HD0.out
        obtain ⟨m0, m1, m2⟩ := c35 HV7.out
        have HC9 := HC7
        have HR9 := HR7
        have HS9 := HS7
        have HV9 := HV7
        have HB9 := HB7
        have HZ9 : Hid (w7.heap[ub]? = some (.cells #[.bool b, .int .u32 x, .int .i64 y] 35 (0, 0))) := by
          show _ = _
          rw [eb, ex, ey]; exact HZ7.out
        obtain ⟨q0, q1, q2⟩ := c35 HZ9.out
        rw [← HW7.out] at m0 m1 m2 q0 q1 q2
        rw [Hub.out] at q0 q1 q2
        clear HC7 HR7 HS7 HV7 HB7 HZ7 eb ex ey
        obtain ⟨w9, hw9⟩ : ∃ w9, w9 = w7 := ⟨_, rfl⟩
        rw [← hw9] at HC9 HR9 HS9 HV9 HB9 HZ9 HW7
        go_wp2_with (fail)
        rw [HW7.out, ← Hub.out]
        clear m0 m1 m2 q0 q1 q2 hw9
        refine (HAg23.out _).mono ?_
        rintro e10 w10 ⟨rfl, hB10⟩
        have HC10 : Hid (Cb w10 w.heap.size c) := (hB10.block _ HC9.out.lt).trans HC9.out
        have HR10 : Hid (SR w10 sg (c.sn + 2) (mk c.sn c.sn S)) := HR9.out.of (hB10.block _ HR9.out.lt)
        have HS10 : Hid (Sp w10 rb n (rm c)) := HS9.out.of (hB10.block _ HS9.out.lt)
        have HV10 := hide ((hB10.block _ (lt_of_some HV9.out)).trans HV9.out)
        have HZ10 := hide ((hB10.block _ (lt_of_some HZ9.out)).trans HZ9.out)
        have HB10 : Hid (Below w.heap.size w w10) := HB9.out.trans (hB10.mono HB9.out.size)
        clear hB10 HC9 HR9 HS9 HV9 HZ9 HB9
        have HKg : Hid (∀ W, Below w10.heap.size w10 W → K14 w.heap.size c W) := fun W h => (show Cb W w.heap.size c from (h.block _ HC10.out.lt).trans HC10.out).k
        have HFd := hide (HFg.out w10 HB10.out)
        have HL4 := hide (HG26.out w10 sg cap rb HC10.out HR10.out HS10.out HB10.out HR.out.1 HR.out.2.1 HS10.out.lt HR10.out.lt)
        clear HAg23 HFg HG26
        go_wp2_with (fail)
        go_region_held3 (K14 w.heap.size c) ((first | with_reducible exact HK14.out | with_reducible exact K14s HC14.out _ HVB.out.1.symm _ _ _ | (refine HKg.out _ ?_; repeat (first | with_reducible exact HB13.out | with_reducible exact Below.refl _ _ | with_reducible refine belowD ?_ | with_reducible refine bA2 ?_ _)))) ((first
          | (go_at_call 13; refine (HBh.out _).mono ?_; rintro e1 w1 ⟨rfl, rfl⟩)
          | (go_at_call 12; refine (HFd.out _ (by repeat (first | with_reducible exact Below.refl _ _ | with_reducible refine belowD ?_ | with_reducible refine bA2 ?_ _))).mono ?_; rintro e13 w13 ⟨g, Bt, Bf, rfl, hFd3, hg3, ht3, hf3, hB3, hB3'⟩; have HB13 := hide hB3; have HF3 := hide (And.intro hFd3 (And.intro hg3 (And.intro ht3 hf3))); clear hFd3 hg3 ht3 hf3 hB3 hB3')
          | (go_at_call 26; refine (HL4.out _ g Bt Bf HF3.out.1 HF3.out.2.1 HF3.out.2.2.1 HF3.out.2.2.2 HB13.out).mono ?_; rintro e14 w14 ⟨rfl, hA4, hS4, hD4, hC4, hR4, hB4, hz4⟩; have HV14 : Hid (w14.heap[vb]? = some (.cells #[.bool b, .int .u32 x, .int .i64 y] 35 (0, 0))) := ((hD4.block _ (Nat.lt_of_lt_of_le (lt_of_some HV10.out) HB13.out.size) HVB.out.2.2.1).trans (HB13.out.block _ (lt_of_some HV10.out))).trans HV10.out; have HZ14 : Hid (w14.heap[ub]? = some (.cells #[.bool b, .int .u32 x, .int .i64 y] 35 (0, 0))) := ((hD4.block _ (Nat.lt_of_lt_of_le (lt_of_some HZ10.out) HB13.out.size) HVU.out.2.2.2.1.symm).trans (HB13.out.block _ (lt_of_some HZ10.out))).trans HZ10.out; have HA14 := hide hA4; have HS14 := hide hS4; have HC14 := hide hC4; have HR14 := hide hR4; have HB14 := hide hB4; obtain ⟨m0, m1, m2⟩ := c35 HV14.out; have f0 : w14.frozen? ⟨vb, 0, none⟩ = false := frozen_of_row _ _ _ _ _ HV14.out; have f1 : w14.frozen? ⟨vb, 1, none⟩ = false := frozen_of_row _ _ _ _ _ HV14.out; have f2 : w14.frozen? ⟨vb, 2, none⟩ = false := frozen_of_row _ _ _ _ _ HV14.out; clear hA4 hS4 hD4 hC4 hR4 hB4 hz4; have HK14 : Hid (K14 w.heap.size c w14) := HC14.out.k)))
        obtain ⟨w15, hw15⟩ : ∃ w15, ((w14.setCell ⟨vb, 0, none⟩ (.bool b')).setCell ⟨vb, 1, none⟩ (.int .u32 x')).setCell ⟨vb, 2, none⟩ (.int .i64 y') = w15 := ⟨_, rfl⟩
        rw [hw15]
        clear m0 m1 m2 f0 f1 f2
        have HE15 : Hid (Cb w15 w.heap.size c ∧ SR w15 sg (c.sn + 2) (mk c.sn c.sn S) ∧ Sp w15 rb n (rm c) ∧ w15.heap[ub]? = w14.heap[ub]? ∧ w15.heap[vb]? = some (.cells #[.bool b', .int .u32 x', .int .i64 y'] 35 (0, 0)) ∧ Below w.heap.size w w15) := by
          obtain ⟨n1, n2, n3, n4, n5⟩ := HVU.out
          obtain ⟨p1, p2, p3, p4⟩ := HVB.out
          have hC : Ch (fun k => k = vb) w14 w15 := by rw [← hw15]; exact Ch.sets _ _ _
          refine ⟨(hC.block _ HC14.out.lt (by omega)).trans HC14.out, HR14.out.on hC (by omega), HS14.out.of (hC.block _ HS14.out.lt (by omega)), hC.block _ (lt_of_some HZ14.out) (by omega), ?_, HB14.out.trans (hC.below (fun k hk e => by omega) HB14.out.size)⟩
          rw [← hw15, sets3 HV14.out rfl]
          exact setRow_heap _ _ _ _ _ _ HV14.out
        have HC15 := hide HE15.out.1
        have HR15 := hide HE15.out.2.1
        have HS15 := hide HE15.out.2.2.1
        have HZ15 := hide (HE15.out.2.2.2.1.trans HZ14.out)
        have HV15 := hide HE15.out.2.2.2.2.1
        have HB15 := hide HE15.out.2.2.2.2.2
        obtain ⟨m0, m1, m2⟩ := c35 HV15.out
        obtain ⟨q0, q1, q2⟩ := c35 HZ15.out
        clear HE15
        clear m0 m1 m2 q0 q1 q2 HC14 HR14 HS14 HV14 HZ14 HB14 HK14 HKg HL4 HFd HB13 HF3 HC10 HR10 HS10 HV10 HZ10 HB10 hw15
        obtain ⟨eb, ex, ey⟩ := HV23.out HD0.out
        obtain ⟨eb', ex', ey'⟩ := HV26.out HD0.out
        have HZ15b : Hid (w15.heap[ub]? = some (.cells #[.bool b', .int .u32 x', .int .i64 y'] 35 (0, 0))) := by
          show _ = _
          rw [HZ15.out, eb, ex, ey, eb', ex', ey']
        obtain ⟨m0, m1, m2⟩ := c35 HV15.out
        obtain ⟨q0, q1, q2⟩ := c35 HZ15b.out
        clear eb ex ey eb' ex' ey'
        go_wp2_with (fail)
        clear m0 m1 m2 q0 q1 q2 HZ15
        obtain ⟨w17, hw17⟩ : ∃ w17, w17 = w15 := ⟨_, rfl⟩
        rw [← hw17] at HC15 HR15 HS15 HV15 HB15 HZ15b ⊢
        have HC17 := HC15
        have HR17 := HR15
        have HS17 := HS15
        have HV17 := HV15
        have HZ17 := HZ15b
        have HB17 := HB15
        clear HC15 HR15 HS15 HV15 HB15 HZ15b hw17
        refine (HAg26.out _).mono ?_
        rintro e18 w18 ⟨rfl, hB18⟩
        have HC18 : Hid (Cb w18 w.heap.size c) := (hB18.block _ HC17.out.lt).trans HC17.out
        have HR18 : Hid (SR w18 sg (c.sn + 2) (mk c.sn c.sn S)) := HR17.out.of (hB18.block _ HR17.out.lt)
        have HS18 : Hid (Sp w18 rb n (rm c)) := HS17.out.of (hB18.block _ HS17.out.lt)
        have HV18 := hide ((hB18.block _ (lt_of_some HV17.out)).trans HV17.out)
        have HZ18 := hide ((hB18.block _ (lt_of_some HZ17.out)).trans HZ17.out)
        have HB18 : Hid (Below w.heap.size w w18) := HB17.out.trans (hB18.mono HB17.out.size)
        clear hB18 HC17 HR17 HS17 HV17 HZ17 HB17
        have k9 := HC18.out.k.2.1
        have HKp := hide (kept_any c.sa c.sn c.sc sg cap S hs64 hcap w18 (HS.out.on HB18.out (Nat.le_refl _)) HR18.out)
        clear HAg26
        go_wp2_with (fail)
        refine HKp.out.mono ?_
        rintro e19 w19 ⟨rfl, hB19⟩
        have HC19 : Hid (Cb w19 w.heap.size c) := (hB19.block _ HC18.out.lt).trans HC18.out
        have HR19 : Hid (SR w19 sg (c.sn + 2) (mk c.sn c.sn S)) := HR18.out.of (hB19.block _ HR18.out.lt)
        have HS19 : Hid (Sp w19 rb n (rm c)) := HS18.out.of (hB19.block _ HS18.out.lt)
        have HV19 := hide ((hB19.block _ (lt_of_some HV18.out)).trans HV18.out)
        have HZ19 := hide ((hB19.block _ (lt_of_some HZ18.out)).trans HZ18.out)
        have HB19 : Hid (Below w.heap.size w w19) := HB18.out.trans (hB19.mono HB18.out.size)
        clear hB19 HC18 HR18 HS18 HV18 HZ18 HB18
        have k10 := HC19.out.k.2.2.2.2.2.2.2.2.1
        have HSp : Hid (Calls Try.prog 20 #[.slice (some ⟨rb, 0, none⟩) (rm c) (rm c), .int .i64 c.rN] w19 fun e w' => e = .returned (.bool true) ∧ w' = w19) := by
          show Calls _ _ _ _ _
          rw [HNr.out]
          exact spare_any rb (rm c) n hrm (by omega) w19 (fun j h1 h2 => HS19.out.cell j h1 h2)
        clear k9 HKp
        go_wp2_with (fail)
        refine HSp.out.mono ?_
        rintro e20 w20 ⟨rfl, rfl⟩
        clear k10 HSp
        go_wp2
        all_goals go_ret
        all_goals exact ⟨rfl, HB19.out⟩
theorem law5x (c : Cs) (L : List T3) (S : Nat → Nat → Int) (Q : List Nat) (W : World) (hOk : Ok W c L S Q) : Calls Try.prog 5 #[.agg (cb c)] W fun e w' => e = .returned (.bool true) ∧ Below W.heap.size W w' := by
  have h1 := hOk.rN
  have h2 := hOk.rA
  have h3 := hOk.rC
  refine law5 c c.rN.toNat c.rA.toNat c.rC.toNat L (fun v i => if v < c.sn then S v i else 0) (by omega) (by omega) (by omega) (by omega) (by omega) (fun v => ?_) hOk.en hOk.s64 hOk.l12 hOk.ec W (fun h0 => ?_) hOk.e
  · by_cases hv : v < c.sn
    · simp only [hv, if_true]; exact hOk.sb v hv 0 (by decide)
    · simp only [hv, if_false]; omega
  · obtain ⟨x, e, a, b⟩ := hOk.s h0
    exact ⟨x, e, a, fun v hv i hi => by simp only [hv, if_true]; exact b v hv i hi⟩
end Au
end Go.Proofs.Ytcepfmeoeepjdaa
