import Derived.Test.YtipnlcnikpngcaaDoorScE
import Derived.Test.YtipnlcnikpngcaaDoorSqG
namespace Go.Proofs.YtipnlcnikpngcaaDoor
namespace Wp
open Go.RowKit
set_option linter.unusedVariables false
set_option maxRecDepth 8000
set_option maxHeartbeats 1000000 in
theorem coreof_any (s : Nat → Int) (w : World) : Calls Tryd.prog 15 #[.agg (sv s)] w fun e w' => e = .returned (.int .u64 (s 0)) ∧ w' = w.alloc (.cells (sv s) 41) := by
  go_enter Tryd.func15, Tryd.ntmps15
  go_wp2
  go_ret
  exact ⟨rfl, rfl⟩
/-- What Core answers. -/
def Mc (w : World) (e : Ending) (w' : World) : Prop := ∃ fb, e = .returned (.pointer (some ⟨fb, 0, none⟩)) ∧ FK fb w' ∧ Below w.heap.size w w'
theorem Mc.mk {fb : Nat} {w w' : World} (h1 : FK fb w') (h2 : Below w.heap.size w w') : Mc w (.returned (.pointer (some ⟨fb, 0, none⟩))) w' := ⟨fb, rfl, h1, h2⟩
set_option maxHeartbeats 1000000 in
theorem core_any (w : World) : Calls Tryd.prog 13 #[] w fun e w' => Mc w e w' := by
  go_enter Tryd.func13, Tryd.ntmps13
  go_wp2
  go_ret
  exact Mc.mk (fb := w.heap.size) ⟨by simp, at0 _ _⟩ (b1 _ _ _)
set_option maxHeartbeats 40000000 in
theorem law_cores (many m c : Nat) (a : Option Addr) (R : Nat → Int × Int × Int) (flip : Int) (h0 : many < 4294967296) (hm : m ≤ 1048576) (w : World) (hr : IRow w a m R) (hE : ∀ i, i < m → 0 ≤ (R i).1 ∧ 0 ≤ (R i).2.1) :
    Calls Tryd.prog 4 #[.int .u32 (many : Int), .slice a m c, .int .i64 flip] w fun e w' => e = .returned (.bool true) ∧ Below w.heap.size w w' := by
  have HR := hide hr
  have HE0 := hide hE
  have HN0 := hide (num_any 0)
  have hp := pnone
  have HM := hide hm
  obtain ⟨N, hN⟩ : ∃ N, 1 + many % 24 = N := ⟨_, rfl⟩
  have hNN : 1 ≤ N ∧ N ≤ 24 := by omega
  have HNN := hide hNN
  have ht : ((many : Nat) : Int).tmod 24 = ((N - 1 : Nat) : Int) := by
    rw [show N - 1 = many % 24 by omega]; rfl
  obtain ⟨q, hq⟩ : ∃ q, N - 1 = q := ⟨_, rfl⟩
  rw [hq] at ht
  have hqw : IntKind.u32.wrap (q : Int) = q := by simp only [IntKind.wrap, IntKind.signed, IntKind.bits]; simp; omega
  have hNw : IntKind.u32.wrap (1 + (q : Int)) = (N : Int) := by simp only [IntKind.wrap, IntKind.signed, IntKind.bits]; simp; omega
  have h24 : ¬ (24 : Int) = 0 := by decide
  have HGr := hide (graph_any N a m c R hNN.1 (by omega) hm w hr hE)
  clear h0 hr hE hN hq
  go_enter Tryd.func4, Tryd.ntmps4
  go_wp2_with (fail)
  refine HGr.out.mono ?_
  rintro e3 w3 ⟨a', c', rfl, hE3', hB3'⟩
  have HE3 := hide hE3'
  have HB3 := hide hB3'
  have HSt := hide (core_any w3)
  clear hE3' hB3' HGr
  go_wp2_with (fail)
  refine HSt.out.mono ?_
  rintro e4 w4 ⟨fb, rfl, hF4, hB4'⟩
  have HB4 : Hid (Below w.heap.size w w4) := HB3.out.trans (hB4'.mono HB3.out.size)
  have HE4 := hide (HE3.out.on hB4')
  have HI := hide (ge_in N HNN.out.1 m R)
  obtain ⟨E, hEe⟩ : ∃ E, ge N R = E := ⟨_, rfl⟩
  rw [hEe] at HE4 HI
  obtain ⟨K, hK1, hK2, hK3, hK4, hK5⟩ := run_K HI.out HM.out HNN.out.1 (by omega) (fun r => (wrap64 (flip + r)).tmod 2 != 0)
  have HO := hide (obK N fb w4.heap.size w4 hF4 hF4.1)
  have HRun := hide (run_any gK fb N m c' K (2 * N + 1) a' E flip (fun r => (wrap64 (flip + r)).tmod 2 != 0) HNN.out.1 (by omega) hm (by omega) w4 HO.out HE4.out HI.out (fun _ => rfl) hK1 hK2 hK3 hK4)
  obtain ⟨L, hL⟩ : ∃ L, 2 * N + 1 = L := ⟨_, rfl⟩
  rw [hL] at HRun
  have hi1 : IntKind.i64.wrap (N : Int) = (N : Int) := by simp only [IntKind.wrap, IntKind.signed, IntKind.bits]; simp; omega
  have hi2 : IntKind.i64.wrap (2 * (N : Int)) = 2 * (N : Int) := by simp only [IntKind.wrap, IntKind.signed, IntKind.bits]; simp; omega
  have hi3 : IntKind.i64.wrap (2 * (N : Int) + 1) = (L : Int) := by simp only [IntKind.wrap, IntKind.signed, IntKind.bits]; simp; omega
  obtain ⟨S, hS⟩ : ∃ S, (rst gK E m N (fun r => (wrap64 (flip + r)).tmod 2 != 0) K).2 = S := ⟨_, rfl⟩
  rw [hS] at HRun hK5
  have HK5 := hide hK5
  clear hEe hK1 hK2 hK3 hK4 hK5 hS hF4 hB4' HSt HE3 HO
  go_wp2_with (first | (go_at_call 8; refine (HN0.out _).mono ?_; rintro e9 w9 ⟨rfl, hw9⟩; subst w9) | fail)
  refine HRun.out.mono ?_
  rintro e5 w5 ⟨sb, rfl, hS5, hB5', hsb5⟩
  have HB5 : Hid (Below w.heap.size w w5) := HB4.out.trans (hB5'.mono HB4.out.size)
  have HE5 := hide (HE4.out.on hB5')
  have HS5 := hide hS5
  have HFs := hide (cores_doc N m c' a' E HNN.out.1 (by omega) hm w5 HE5.out HI.out)
  clear hS5 hB5' hsb5 HRun HB4 HE4 hi1 hi2 hi3 hL
  go_wp2_with (fail)
  refine HFs.out.mono ?_
  rintro e6 w6 ⟨gb, G, rfl, hG6, hM6, hB6', hgb6⟩
  have HL : Hid (LI sb gb N m a' S (fun v => (G v : Int)) E w w6) := ⟨HB5.out.trans (hB6'.mono HB5.out.size), HS5.out.on hB6', hG6, HE5.out.on hB6'⟩
  have HSG : Hid (∀ v, v < N → S v 0 = (G v : Int)) := by
    intro v hv
    obtain ⟨j, j1, j2, j3⟩ := HK5.out v hv
    obtain ⟨g1, g2⟩ := hM6 v hv
    rw [j1, core_one j2 j3 g1 g2]
  clear hG6 hM6 hB6' hgb6 HFs HS5 HE5 HB5 HK5
  go_wp2_with (fail)
  go_loopw [15] (fun q wr => ∃ v : Nat, v ≤ N ∧ q = .int .u32 (v : Int) ∧ Hid (LI sb gb N m a' S (fun v => (G v : Int)) E w wr)) (fun q _ => N - (intOf q).toNat)
  case atStart => exact ⟨0, Nat.zero_le _, rfl, HL⟩
  case round =>
    clear HL
    obtain ⟨v, hv, rfl, HL⟩ := hrel
    by_cases cc : v < N
    · have HC := hide cc
      have HSv := hide (HSG.out v cc)
      obtain ⟨x, hx⟩ : ∃ x : Int, (G v : Int) = x := ⟨_, rfl⟩
      obtain ⟨s, hs⟩ : ∃ s, S v = s := ⟨_, rfl⟩
      have hk := HL.out.s.k8 v cc
      have hg := HL.out.g.cell v cc
      rw [hx] at hg
      rw [hs] at hk
      rw [hs, hx] at HSv
      have hS0 : Hid (S13 sb gb v s x wr.drew) := ⟨hk, hg⟩
      have HZ : Hid (sb < wr.heap.size ∧ gb < wr.heap.size) := ⟨HL.out.s.lt, HL.out.g.lt⟩
      have HK : Hid (∀ W, Below wr.heap.size wr W → S13 sb gb v s x W) := fun W h => ⟨K8o.on hk h HZ.out.1, (h.cell HZ.out.2).trans hg⟩
      have hvN : (v : Int) < (N : Int) := by omega
      have hwv : IntKind.u32.wrap ((v : Int) + 1) = (v : Int) + 1 := by simp only [IntKind.wrap, IntKind.signed, IntKind.bits]; simp; omega
      have hs0 : s 0 = x := HSv.out
      have HIn := hide (coreof_any s)
      have hxx : (s 0 != x) = false := by rw [hs0]; simp
      clear hx hs hk hg hs0 hv
      go_wp2_with (fail)
      go_region_held3 (S13 sb gb v s x) ((first | with_reducible exact hS0.out | with_reducible exact HK.out _ hw1.out)) ((first | (go_at_call 15; refine (HIn.out _).mono ?_; rintro e1 w7 ⟨rfl, hw7⟩; have hw1 : Hid (Below wr.heap.size wr w7) := (by show Below _ _ _; rw [hw7]; exact belowD (b1 _ _ _)); clear hw7) | fail "no arm"))
      have HL1 := hide (HL.out.on hw1.out)
      clear hS0 HZ HK HIn hw1 HL HSv
      go_wp2_with (fail)
      exact ⟨⟨v + 1, HC.out, by go_num, HL1⟩, by simp [intOf]; have := HC.out; omega⟩
    · have hvN : N = v := by omega
      subst hvN
      clear cc hv
      go_wp2_with (fail)
      go_ret
      exact ⟨rfl, HL.out.t⟩
end Wp
end Go.Proofs.YtipnlcnikpngcaaDoor
