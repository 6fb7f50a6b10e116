import Derived.Test.YtipnlcnikpngcaaDoorSpN
import Derived.Test.YtipnlcnikpngcaaDoorSqF
namespace Go.Proofs.YtipnlcnikpngcaaDoor
namespace Wp
open Go.RowKit
set_option linter.unusedVariables false
set_option maxRecDepth 8000
/-- What lies where in the law's loops. -/
structure LI (sb gb N m : Nat) (a : Option Addr) (S : Nat → Nat → Int) (G : Nat → Int) (E : Nat → Int × Int × Int) (w wr : World) : Prop where
  t : Below w.heap.size w wr
  s : SR wr sb N S
  g : GV wr gb 23 N (fun v => .int .u64 (G v))
  e : ERow wr a m E
theorem LI.on {sb gb N m : Nat} {a : Option Addr} {S : Nat → Nat → Int} {G : Nat → Int} {E : Nat → Int × Int × Int} {w wr w' : World} (h : LI sb gb N m a S G E w wr) (hb : Below wr.heap.size wr w') : LI sb gb N m a S G E w w' :=
  ⟨h.t.trans (hb.mono h.t.size), h.s.on hb, h.g.on hb, h.e.on hb⟩
abbrev S13 (sb gb v : Nat) (s : Nat → Int) (x : Int) (w : World) : Prop := K8o sb (v * 8) s w ∧ w.cell? ⟨gb, v, none⟩ = some (.int .u64 x)
theorem pnone (x : Addr) (W : World) : (binOp .eql 30 (.pointer (some x)) (.pointer none)).run Tryd.prog W = .ok (.bool false) W := rfl
set_option maxHeartbeats 40000000 in
theorem law_set (many sd m c : Nat) (a : Option Addr) (R : Nat → Int × Int × Int) (flip : Int) (h0 : many < 4294967296) (h1 : sd < 18446744073709551616) (hm : m ≤ 1048576) (w : World) (hr : IRow w a m R) (hE : ∀ i, i < m → 0 ≤ (R i).1 ∧ 0 ≤ (R i).2.1) :
    Calls Tryd.prog 3 #[.int .u32 (many : Int), .int .u64 (sd : Int), .slice a m c, .int .i64 flip] w fun e w' => e = .returned (.bool true) ∧ Below w.heap.size w w' := by
  have HSz := hide (size5_any many sd h0 h1 w)
  have HR := hide hr
  have HE0 := hide hE
  have HN0 := hide (num_any 0)
  have hp := pnone
  have HM := hide hm
  clear h0 h1 hr hE
  go_enter Tryd.func3, Tryd.ntmps3
  go_wp2_with (fail)
  refine HSz.out.mono ?_
  rintro e1 w1 ⟨N, A, C, rfl, ⟨hN1, hN2, hA, hC, hg⟩, hB1⟩
  have HNN : Hid (1 ≤ N ∧ N ≤ 24 ∧ A < N ∧ C < N ∧ Nat.gcd N A = 1) := ⟨hN1, hN2, hA, hC, hg⟩
  have HB2 : Hid (Below w.heap.size w (w1.alloc (.cells (rk N A C) 26))) := bA2 hB1 _
  have HGr := hide (graph_any N a m c R hN1 (by omega) hm (w1.alloc (.cells (rk N A C) 26)) (HR.out.on HB2.out) HE0.out)
  have Hrb : Hid ((w1.alloc (.cells (rk N A C) 26)).heap[w1.heap.size]? = some (.cells (rk N A C) 26 (0, 0))) := at0 _ _
  have hc49 : (N : Int) ≤ 24 := by omega
  clear hB1 HSz hA hC hg
  go_wp2_with (fail)
  refine HGr.out.mono ?_
  rintro e3 w3 ⟨a', c', rfl, hE3', hB3'⟩
  have HE3 := hide hE3'
  have HB3 : Hid (Below w.heap.size w w3) := HB2.out.trans (hB3'.mono HB2.out.size)
  have Hr3 := hide ((hB3'.block _ (by simp)).trans Hrb.out)
  have hk3 := k3 (t := 26) Hr3.out
  have HSt := hide (set_any N A C HNN.out.1 (by omega) HNN.out.2.2.1 HNN.out.2.2.2.1 HNN.out.2.2.2.2 w3)
  clear hE3' hB3' HGr HB2 Hrb
  generalize w1.heap.size = rb at *
  go_wp2_with (fail)
  refine HSt.out.mono ?_
  rintro e4 w4 ⟨fb, rfl, hF4, hB4'⟩
  have HB4 : Hid (Below w.heap.size w w4) := HB3.out.trans (hB4'.mono HB3.out.size)
  have HE4 := hide (HE3.out.on hB4')
  have Hr4 := hide ((hB4'.block _ (lt_of_some Hr3.out)).trans Hr3.out)
  have HI := hide (ge_in N HNN.out.1 m R)
  obtain ⟨E, hEe⟩ : ∃ E, ge N R = E := ⟨_, rfl⟩
  rw [hEe] at HE4 HI
  obtain ⟨M, hM⟩ := mis_is E m N (pr N A C)
  obtain ⟨K, hK1, hK2, hK3, hK4, hK5⟩ := run_S (C := C) HI.out HNN.out.1 (by omega) HNN.out.2.2.2.2 (fun r => (wrap64 (flip + r)).tmod 2 != 0) hM
  have HO := hide (obS N A C HNN.out.1 (by omega) HNN.out.2.2.1 HNN.out.2.2.2.1 fb w4.heap.size w4 hF4 hF4.1)
  have HRun := hide (run_any (gS N A C) fb N m c' K N a' E flip (fun r => (wrap64 (flip + r)).tmod 2 != 0) HNN.out.1 (by omega) hm (by omega) w4 HO.out HE4.out HI.out (fun _ => rfl) hK1 hK2 hK3 hK4)
  obtain ⟨S, hS⟩ : ∃ S, (rst (gS N A C) E m N (fun r => (wrap64 (flip + r)).tmod 2 != 0) K).2 = S := ⟨_, rfl⟩
  rw [hS] at HRun hK5
  have HK5 := hide hK5
  have HMi := hide hM
  have hK1i : (1 : Int) ≤ (K : Int) := by omega
  have hK1n : ¬ (K : Int) < 1 := by omega
  clear hEe hM hK2 hK3 hK4 hK5 hS hF4 hB4' HSt hk3 HE3 Hr3 HO
  go_wp2_with (first | (go_at_call 8; refine (HN0.out _).mono ?_; rintro e9 w9 ⟨rfl, hw9⟩; subst w9) | fail)
  refine HRun.out.mono ?_
  rintro e5 w5 ⟨sb, rfl, hS5, hB5', hsb5⟩
  have HB5 : Hid (Below w.heap.size w w5) := HB4.out.trans (hB5'.mono HB4.out.size)
  have HE5 := hide (HE4.out.on hB5')
  have HS5 := hide hS5
  have Hr5 := hide ((hB5'.block _ (lt_of_some Hr4.out)).trans Hr4.out)
  have hk5 := k3 (t := 26) Hr5.out
  have HFs := hide (first_set N A C m c' a' E HNN.out.1 (by omega) HNN.out.2.2.1 HNN.out.2.2.2.1 HNN.out.2.2.2.2 hm w5 HE5.out)
  clear hS5 hB5' hsb5 HRun HB4 HE4 Hr4
  go_wp2_with (fail)
  refine HFs.out.mono ?_
  rintro e6 w6 ⟨gb, G, rfl, hG6, hGb6, hM6, hB6', hgb6⟩
  have HL : Hid (LI sb gb N m a' S G E w w6) := ⟨HB5.out.trans (hB6'.mono HB5.out.size), HS5.out.on hB6', hG6, HE5.out.on hB6'⟩
  have HGM : Hid (∀ v, v < N → (M v ↔ G v = 1)) := mis_one HMi.out hM6
  have HSG : Hid (∀ v, v < N → S v 0 = G v) := by
    intro v hv
    rcases hGb6 v hv with e | e
    · rw [e]; exact (HK5.out v hv).2 (fun hm => by have := (HGM.out v hv).1 hm; rw [e] at this; cases this)
    · rw [e]; exact (HK5.out v hv).1 ((HGM.out v hv).2 e)
  have HGb := hide hGb6
  have HMx : Hid (∀ v, v < N → (S v 0 = 1 ↔ ∀ x, x < N → Adj E m v x → S x 0 ≠ 1)) := by
    intro v hv
    rw [HSG.out v hv, ← HGM.out v hv, mis_max HNN.out.2.2.2.2 HMi.out v hv]
    constructor
    · intro q x hx ha h; exact q x hx ha ((HGM.out x hx).2 (by rw [← HSG.out x hx]; exact h))
    · intro q x hx ha h; exact q x hx ha (by rw [HSG.out x hx]; exact (HGM.out x hx).1 h)
  clear hG6 hGb6 hM6 hB6' hgb6 HFs hk5 HS5 HE5 HB5 Hr5 HMi HK5 HGM
  go_wp2_with (fail)
  go_loopw [19] (fun q wr => ∃ v : Nat, v ≤ N ∧ q = .int .u32 (v : Int) ∧ Hid (LI sb gb N m a' S G E w wr)) (fun q _ => N - (intOf q).toNat)
  case atStart => exact ⟨0, Nat.zero_le _, rfl, HL⟩
  case round =>
    clear HL
    obtain ⟨v, hv, rfl, HL⟩ := hrel
    by_cases cc : v < N
    · have HC := hide cc
      have HGv := hide (HGb.out v cc)
      have HSv := hide (HSG.out v cc)
      obtain ⟨x, hx⟩ : ∃ x, G v = x := ⟨_, rfl⟩
      obtain ⟨s, hs⟩ : ∃ s, S v = s := ⟨_, rfl⟩
      have hk := HL.out.s.k8 v cc
      have hg := HL.out.g.cell v cc
      rw [hx] at hg
      rw [hs] at hk
      rw [hx] at HGv
      rw [hs, hx] at HSv
      have hS0 : Hid (S13 sb gb v s x wr.drew) := ⟨hk, hg⟩
      have HZ : Hid (sb < wr.heap.size ∧ gb < wr.heap.size) := ⟨HL.out.s.lt, HL.out.g.lt⟩
      have HK : Hid (∀ W, Below wr.heap.size wr W → S13 sb gb v s x W) := fun W h => ⟨K8o.on hk h HZ.out.1, (h.cell HZ.out.2).trans hg⟩
      have HsE := hide hs
      have hvN : (v : Int) < (N : Int) := by omega
      have hwv : IntKind.u32.wrap ((v : Int) + 1) = (v : Int) + 1 := by simp only [IntKind.wrap, IntKind.signed, IntKind.bits]; simp; omega
      obtain ⟨kk, hkk⟩ : ∃ kk, (x == 1) = kk := ⟨_, rfl⟩
      have hs0 : s 0 = x := HSv.out
      have HIn := hide (inset_any s kk (by rw [hs0]; exact hkk))
      have hxx : (s 0 != x) = false := by rw [hs0]; simp
      have HKx : Hid (kk = true ↔ s 0 = 1) := by rw [hs0, ← hkk]; exact beq_iff_eq
      have hkk2 : (kk != kk) = false := by cases kk <;> rfl
      have hs1 : (s 0 == 1) = kk := by rw [hs0]; exact hkk
      clear hx hs hk hg hs0
      go_wp2_with (fail)
      go_region_held3 (S13 sb gb v s x) ((first | with_reducible exact hS0.out | with_reducible exact HK.out _ hw1.out)) ((first | (go_at_call 11; refine (HIn.out _).mono ?_; rintro e1 w7 ⟨rfl, hw7⟩; have hw1 : Hid (Below wr.heap.size wr w7) := (by show Below _ _ _; rw [hw7]; exact belowD (b1 _ _ _)); clear hw7) | fail "no arm"))
      have HL1 := hide (HL.out.on hw1.out)
      have HKs : Hid (kk = true ↔ ∀ x, x < N → Adj E m v x → S x 0 ≠ 1) := by
        have h := HMx.out v HC.out
        rw [HsE.out] at h
        exact HKx.out.trans h
      clear hS0 HZ HK HIn hw1 HL hxx hkk2 HKx hs1 hkk HGv HSv
      obtain ⟨wo, rfl⟩ : ∃ wo, wo = w7 := ⟨_, rfl⟩
      go_wp2_with (fail)
      go_loopw [21, 20] (fun q z wr => ∃ (u : Nat) (f : Bool), u ≤ N ∧ q = .int .u32 (u : Int) ∧ z = .bool f ∧ Hid (f = true ↔ ∀ x, x < u → Adj E m v x → S x 0 ≠ 1) ∧ Hid (LI sb gb N m a' S G E w wr)) (fun q _ _ => N - (intOf q).toNat)
      case atStart => exact ⟨0, true, Nat.zero_le _, rfl, rfl, ⟨fun _ x h => absurd h (by omega), fun _ => rfl⟩, HL1⟩
      case round =>
        clear HL1
        obtain ⟨u, f, hu, rfl, rfl, HF, HI2⟩ := hrel
        by_cases cu : u < N
        · have HCu := hide cu
          have HNr := hide (near_any v u m c' a' E HM.out _ HI2.out.e)
          obtain ⟨nb, hnb⟩ : ∃ nb, nbr E v u m = nb := ⟨_, rfl⟩
          have HNb : Hid (nb = true ↔ Adj E m v u) := by rw [← hnb]; exact nbr_adj E v u m
          rw [hnb] at HNr
          have hwu : IntKind.u32.wrap ((u : Int) + 1) = (u : Int) + 1 := by simp only [IntKind.wrap, IntKind.signed, IntKind.bits]; simp; omega
          have huN : (u : Int) < (N : Int) := by omega
          clear hnb hu
          go_wp2_with (fail)
          refine HNr.out.mono ?_
          rintro e8 w8 ⟨rfl, hB8'⟩
          have HI8 := hide (HI2.out.on hB8')
          have hk8 := HI8.out.s.k8 u HCu.out
          obtain ⟨su, hsu⟩ : ∃ su, S u 0 = su := ⟨_, rfl⟩
          have hk9 := hk8.1
          rw [hsu] at hk9
          have HSu := hide hsu
          obtain ⟨b1, hb1⟩ : ∃ b1, (su == 1) = b1 := ⟨_, rfl⟩
          have HB1 : Hid (b1 = true ↔ S u 0 = 1) := by rw [hsu, ← hb1]; exact beq_iff_eq
          have HR1 : Hid (∀ f', (f' = true ↔ f = true ∧ ¬ (nb = true ∧ b1 = true)) → (f' = true ↔ ∀ x, x < u + 1 → Adj E m v x → S x 0 ≠ 1)) := by
            intro f' hf'
            rw [hf', HF.out]
            constructor
            · rintro ⟨q1, q2⟩ x hx ha hS
              by_cases e : x = u
              · subst e; exact q2 ⟨HNb.out.2 ha, HB1.out.2 hS⟩
              · exact q1 x (by omega) ha hS
            · intro q
              exact ⟨fun x hx ha => q x (by omega) ha, fun ⟨q1, q2⟩ => q u (by omega) (HNb.out.1 q1) (HB1.out.1 q2)⟩
          clear hB8' HNr HI2 hk8 hsu
          cases nb <;> cases b1
          all_goals
            go_wp2_with (fail)
            exact ⟨⟨u + 1, _, HCu.out, by go_num, rfl, HR1.out _ (by simp), HI8⟩, by simp [intOf]; have := HCu.out; omega⟩
        · have huN : N = u := by omega
          subst huN
          have hk8 := (HI2.out.s.k8 v HC.out).1
          obtain ⟨sx, hsx⟩ : ∃ sx, S v 0 = sx := ⟨_, rfl⟩
          have HQ : Hid (f = true ↔ sx = 1) := by rw [← hsx]; exact HF.out.trans (HMx.out v HC.out).symm
          rw [hsx] at hk8
          clear cu hu hsx
          have hq2 : (sx == 1) = f := by
            cases f
            · have h : ¬ sx = 1 := fun e => by have := HQ.out.2 e; cases this
              simp [h]
            · have h : sx = 1 := HQ.out.1 rfl
              simp [h]
          have hff : (f != f) = false := by cases f <;> rfl
          go_wp2_with (fail)
          exact ⟨⟨v + 1, HC.out, by go_num, HI2⟩, by simp [intOf]; have := HC.out; omega⟩
    · have hvN : N = v := by omega
      subst hvN
      clear cc hv
      go_wp2_with (fail)
      go_ret
      exact ⟨rfl, HL.out.t⟩
end Wp
end Go.Proofs.YtipnlcnikpngcaaDoor
