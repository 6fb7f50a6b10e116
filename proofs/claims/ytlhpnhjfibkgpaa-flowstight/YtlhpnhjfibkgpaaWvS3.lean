import Derived.Test.YtlhpnhjfibkgpaaWvM
import Derived.Test.YtlhpnhjfibkgpaaWvQ
import Derived.Test.YtlhpnhjfibkgpaaWvR
namespace Go.Proofs.Ytlhpnhjfibkgpaa
namespace Wp
open Go.RowKit
set_option linter.unusedVariables false
set_option maxRecDepth 8000
set_option maxHeartbeats 4000000 in
theorem ftight_c (N src kd : Int) (hkd : kd = 2) (hs0 : 0 ≤ src) (a : Option Addr) (m c : Nat) (E : Nat → Int × Int × Int) (hm : m ≤ 11728124029610) (w : World) (hr : IRow w a m E) (hE : ∀ i, i < m → 0 ≤ (E i).1 ∧ 0 ≤ (E i).2.1) :
    Calls Try.prog 5 #[.agg #[.int .i64 N, .slice a m c], .int .u32 src, .int .i64 kd] w fun e w' => e = .returned (.bool true) ∧ Below w.heap.size w w' := by
  subst hkd
  have HSz := hide (size_any N (.slice a m c))
  have HX : Hid (Below w.heap.size w ((w.alloc (.cells #[.int .i64 N, .slice a m c] 24)).alloc (.cells #[.int .i64 N, .slice a m c] 24))) := by repeat first | exact Below.refl _ _ | refine bA ?_ (by first | exact Nat.le_refl _ | (simp only [World.size_alloc]; omega)) _
  have HL := hide (list2_any N a m c E hm _ (hr.on HX.out) hE)
  have HI := hide (le2_in N m E)
  obtain ⟨E1, hE1⟩ : ∃ E1, le2 N E = E1 := ⟨_, rfl⟩
  rw [hE1] at HL HI
  have hn1 := (gz_b N).1
  have hn2 := (gz_b N).2
  have hq0 : ¬ gz N = 0 := by omega
  have ht : src.tmod (gz N : Int) = ((src % (gz N : Int)).toNat : Nat) := by rw [Int.tmod_eq_emod_of_nonneg hs0]; have := Int.emod_nonneg src (show (gz N : Int) ≠ 0 by omega); omega
  have hsn : (src % (gz N : Int)).toNat < gz N := by have := Int.emod_lt_of_pos src (show (0 : Int) < gz N by omega); have := Int.emod_nonneg src (show (gz N : Int) ≠ 0 by omega); omega
  generalize (src % (gz N : Int)).toNat = s at *
  obtain ⟨R, hR, hFi, hch, hcs⟩ := sssp_end (gz N) m s 2 E1 (by omega) hsn HI.out
  generalize gz N = n at *
  have hcv := convn n hn2
  have hcv1 : wrap64 ((n : Int) + 1) = (n : Int) + 1 := w64 _ (by omega) (by omega)
  have HRn := hide hR
  have HFi := hide hFi
  obtain ⟨ng, hng⟩ : ∃ ng, decide (R = n) = ng := ⟨_, rfl⟩
  have HYes : Hid (ng = true → ∀ v, (rn (gW n s 2) E1 m n (R + 1)).2 v 1 = 1) := fun e => by
    rcases hcs with ⟨h1, _⟩ | ⟨_, h2⟩
    · rw [e] at hng; have := of_decide_eq_true hng; omega
    · exact h2
  have HNo : Hid (ng = false → R < n ∧ ∃ W, Sp m s 2 E1 (Dd m s 2 E1 (R + 1)) W ∧ ∀ v, (rn (gW n s 2) E1 m n (R + 1)).2 v 0 = us (Dd m s 2 E1 (R + 1) v) ∧ (rn (gW n s 2) E1 m n (R + 1)).2 v 1 = 0 ∧ (rn (gW n s 2) E1 m n (R + 1)).2 v 2 = W v) := fun e => by
    rcases hcs with ⟨h1, _, W, h2, h3⟩ | ⟨h1, _⟩
    · exact ⟨h1, W, h2, h3⟩
    · rw [e] at hng; have := of_decide_eq_false hng; exact absurd h1 this
  have HFa : Hid (ng = true → ∀ W a' c', ERow W a' m E1 → Calls Try.prog 21 #[.int .u32 (n : Int), .int .u32 (s : Int), .slice a' m c'] W fun e w' => e = .returned (.bool true) ∧ Below W.heap.size W w') := fun e W a' c' h => by
    have e2 : R = n := by rw [e] at hng; exact of_decide_eq_true hng
    exact falls_any n m s c' a' E1 hn1 hn2 hm hsn W h HI.out (fun r hr => hch r (by omega) hr)
  have HWm := hide (sssp_any (n : Int) (s : Int) 2 (by omega) (by omega) (by omega) (by omega))
  clear hr hE hE1 hR hFi hch hcs hng
  go_enter Try.func5, Try.ntmps5
  go_wp2_with (fail)
  refine (HSz.out _).mono ?_
  rintro e1 w1 ⟨rfl, hw1⟩
  subst w1
  go_wp2_with (fail)
  refine HL.out.mono ?_
  rintro e2 w2 ⟨a', c', rfl, hE2, hB2⟩
  have HE2 := hide hE2
  have HB2 : Hid (Below w.heap.size w w2) := HX.out.trans (hB2.mono HX.out.size)
  clear hE2 hB2 HL HX HSz
  go_wp2_with (fail)
  refine (HWm.out _).mono ?_
  rintro e3 w3 ⟨fb, wb, rfl, hfb, hwb, hF3, hB3'⟩
  have HF3 := hide hF3
  have HY : Hid (Below w2.heap.size w2 w3) := hB3'
  have HP := hide (play_any (gW (n : Int) (s : Int) 2) fb n m c' R a' E1 ((n : Int) + 1) hn1 (by omega) (by omega) (by show 4 ≤ 8; decide) (by have := HRn.out; omega) (by have := HRn.out; omega) w3 (obW (n : Int) (s : Int) 2 (by omega) (by omega) wb fb w3.heap.size w3 HF3.out HF3.out.1 HF3.out.2.2.lt) (fun W hB => sane_W (n : Int) (s : Int) 2 wb fb W (HF3.out.on hB)) (HE2.out.on HY.out) HI.out HFi.out)
  clear hfb hwb hF3 hB3'
  go_wp2_with (fail)
  refine HP.out.mono ?_
  rintro e4 w4 ⟨sb, cap, u, rfl, hsb, hS4, hB4⟩
  obtain ⟨S, hS⟩ : ∃ S, (rn (gW (n : Int) (s : Int) 2) E1 m n (R + 1)).2 = S := ⟨_, rfl⟩
  rw [hS] at hS4 HYes HNo
  rw [hS]
  obtain ⟨CC, hCC⟩ : ∃ CC, (rn (gW (n : Int) (s : Int) 2) E1 m n (R + 1)).1 = CC := ⟨_, rfl⟩
  rw [hCC]
  obtain ⟨AA, hAA⟩ : ∃ AA, fs (gW (n : Int) (s : Int) 2) S n = AA := ⟨_, rfl⟩
  rw [hAA]
  obtain ⟨kk, hkk⟩ : ∃ kk, (R : Int) + 1 = kk := ⟨_, rfl⟩
  rw [hkk]
  have HB3 : Hid (Below w.heap.size w w3) := HB2.out.trans (HY.out.mono HB2.out.size)
  have HB4 : Hid (Below w.heap.size w w4) := HB3.out.trans (hB4.mono HB3.out.size)
  have HS4 := hide hS4
  have HE4 : Hid (ERow w4 a' m E1) := (HE2.out.on HY.out).on hB4
  have HZ5 : Hid (Below w4.heap.size w4 (w4.alloc (.cells (rc (.slice (some ⟨sb, 0, none⟩) n cap) AA CC kk u) 39))) := b1 _ _ _
  have HH : Hid (Ho N w4.heap.size sb n cap m a' E1 S AA CC kk u w (w4.alloc (.cells (rc (.slice (some ⟨sb, 0, none⟩) n cap) AA CC kk u) 39))) := ⟨at0 _ _, HS4.out.on HZ5.out, HE4.out.on HZ5.out, HB4.out.trans (HZ5.out.mono HB4.out.size)⟩
  have HNg : Hid (∀ v, (S v 1 == 1) = ng) := fun v => by
    cases ng with
    | true => rw [HYes.out rfl v]; rfl
    | false => obtain ⟨_, W, _, h3⟩ := HNo.out rfl; rw [(h3 v).2.1]; rfl
  have HF5 : Hid (FW (n : Int) (s : Int) 2 wb fb (w4.alloc (.cells (rc (.slice (some ⟨sb, 0, none⟩) n cap) AA CC kk u) 39))) := (HF3.out.on hB4).on HZ5.out
  clear hS hCC hAA hkk hsb hS4 hB4 HP HFi HRn HE2 HF3 HY HB2 HB3 HB4 HS4 HE4 HZ5 HWm HF5
  go_wp2_with (fail)
  generalize w4.alloc (.cells (rc (.slice (some ⟨sb, 0, none⟩) n cap) AA CC kk u) 39) = w5 at *
  generalize w4.heap.size = rb at *
  refine (num_any _ _).mono ?_
  rintro e7 w7 ⟨rfl, hw7⟩
  subst w7
  have k0 := HH.out.r.kr.1
  have k1 := HH.out.s.k8 0 hn1
  have HNv := hide (negative_any (S 0))
  rw [HNg.out 0] at HNv
  have HW7 : Hid (Below w5.heap.size w5 (w5.alloc (.cells (sv (S 0)) 35))) := b1 _ _ _
  have HH7 := hide (HH.out.on HW7.out)
  simp only [Nat.zero_mul] at k1
  go_wp2_with (fail)
  refine (HNv.out _).mono ?_
  rintro e8 w8 ⟨rfl, hw8⟩
  subst w8
  clear k0 k1 HNv HH HW7
  generalize w5.alloc (.cells (sv (S 0)) 35) = w9 at *
  cases ng with
  | true =>
    have HFb := hide (HFa.out rfl)
    go_wp2_with (fail)
    refine (HFb.out _ _ _ HH7.out.e).mono ?_
    rintro e9 wa ⟨rfl, hBa⟩
    have HT := hide (HH7.out.on hBa).t
    clear hBa HFb HH7
    go_wp2
    all_goals go_ret
    all_goals first | exact ⟨rfl, HT.out⟩ | exact ⟨ret_bool (by simp), HT.out⟩
  | false =>
    clear HFa
    obtain ⟨hRn, W, hSp, h3⟩ := HNo.out rfl
    have HSp := hide hSp
    have H3 := hide h3
    clear hSp h3 HNo HYes HNg
    obtain ⟨L, hL⟩ : ∃ L, Dd m s 2 E1 (R + 1) = L := ⟨_, rfl⟩
    rw [hL] at HSp H3
    clear hL
    have HDs : Hid (∀ v W', ∃ d b, Calls Try.prog 22 #[.agg (sv (S v))] W' (fun e w' => e = .returned (.tuple #[.int .i64 d, .bool b]) ∧ w' = W'.alloc (so (S v))) ∧ ((L v = 9223372036854775807 ∧ d = 0 ∧ b = false) ∨ (L v ≠ 9223372036854775807 ∧ d = L v ∧ b = true))) := fun v W' => by
      have hb := HSp.out.b v
      have e0 := (H3.out v).1
      by_cases e : L v = 9223372036854775807
      · exact ⟨0, false, dist_no (S v) (H3.out v).2.1 (by rw [e0]; exact (us_inf _ (by omega) (by omega)).2 e) W', .inl ⟨e, rfl, rfl⟩⟩
      · exact ⟨L v, true, dist_yes (S v) (L v) (H3.out v).2.1 (by rw [e0]; exact fun q => e ((us_inf _ (by omega) (by omega)).1 q)) (by rw [e0]; exact us_back _ (by omega) (by omega)) W', .inr ⟨e, rfl, rfl⟩⟩
    go_wp2_with (fail)
    go_loopw [15] (fun v wr => ∃ i : Nat, i ≤ m ∧ v = .int .i64 i ∧ Hid (Ho N rb sb n cap m a' E1 S AA CC kk u w wr)) (fun v _ => m - (intOf v).toNat)
    case atStart => exact ⟨0, Nat.zero_le _, rfl, HH7⟩
    case round =>
      clear HH7
      obtain ⟨i, hi, rfl, HH⟩ := hrel
      by_cases ci : i < m
      · obtain ⟨eb, rfl, heb, hce⟩ := HH.out.e (by omega)
        obtain ⟨x, y, hx, hy, hxn, hyn⟩ := HI.out i ci
        obtain ⟨c1, c2, c3⟩ := hce i ci
        rw [hx] at c1
        rw [hy] at c2
        obtain ⟨z, hz⟩ : ∃ z, (E1 i).2.2 = z := ⟨_, rfl⟩
        rw [hz] at c3
        have HAw : Hid (Aw 2 E1 m x y (wt 2 z)) := ⟨i, ci, hx, hy, by rw [hz]⟩
        have HEb := hide heb
        have HC1 := hide c1
        have HC2 := hide c2
        have HC3 := hide c3
        have HX := hide hxn
        have HY := hide hyn
        have hS7 : Hid (Sl rb eb sb (i * 3) (x * 8) (.slice (some ⟨sb, 0, none⟩) n cap) (x : Int) (S x) wr.drew) := ⟨HH.out.r.kr.1, c1, HH.out.s.k8 x hxn⟩
        have HK7 : Hid (∀ W, Below wr.heap.size wr W → Sl rb eb sb (i * 3) (x * 8) (.slice (some ⟨sb, 0, none⟩) n cap) (x : Int) (S x) W) := fun W hB => ⟨(hB.cell HH.out.r.lt).trans HH.out.r.kr.1, (hB.cell HEb.out).trans HC1.out, K8o.on (HH.out.s.k8 x HX.out) hB HH.out.s.lt⟩
        obtain ⟨dx, bx, hDx, hcx⟩ := HDs.out x wr.drew
        have HDx := hide hDx
        have HCx := hide hcx
        clear c1 c2 c3 hce hx hy heb hi hz hDx hcx
        go_wp2_with (fail)
        go_region_held3 (Sl rb eb sb (i * 3) (x * 8) (.slice (some ⟨sb, 0, none⟩) n cap) (x : Int) (S x)) ((first | with_reducible exact hS7.out | (refine HK7.out _ ?_; repeat first | exact Below.refl _ _ | refine belowD ?_ | refine belowN ?_ _ | refine bA ?_ (by first | exact Nat.le_refl _ | (simp only [World.size_drew, World.size_alloc]; omega)) _))) ((first | (go_at_call 22; refine HDx.out.mono ?_; rintro e9 wa ⟨rfl, hwa⟩; subst wa)))
        have HW8 : Hid (Below wr.heap.size wr (wr.alloc (.cells (sv (S x)) 35)).drew) := by repeat first | exact Below.refl _ _ | refine belowD ?_ | refine belowN ?_ _ | refine bA ?_ (by first | exact Nat.le_refl _ | (simp only [World.size_drew, World.size_alloc]; omega)) _
        have HH8 := hide (HH.out.on HW8.out)
        have HE8 : Hid (eb < (wr.alloc (.cells (sv (S x)) 35)).drew.heap.size) := Nat.lt_of_lt_of_le HEb.out HW8.out.size
        have HC82 := hide ((HW8.out.cell HEb.out).trans HC2.out)
        have HC83 := hide ((HW8.out.cell HEb.out).trans HC3.out)
        clear hS7 HK7 HH HEb HC1 HC2 HC3 HW8 HDx
        generalize (wr.alloc (.cells (sv (S x)) 35)).drew = w8 at *
        have hS8 : Hid (Sl rb eb sb (i * 3 + 1) (y * 8) (.slice (some ⟨sb, 0, none⟩) n cap) (y : Int) (S y) w8.drew) := ⟨HH8.out.r.kr.1, HC82.out, HH8.out.s.k8 y hyn⟩
        have HK8 : Hid (∀ W, Below w8.heap.size w8 W → Sl rb eb sb (i * 3 + 1) (y * 8) (.slice (some ⟨sb, 0, none⟩) n cap) (y : Int) (S y) W) := fun W hB => ⟨(hB.cell HH8.out.r.lt).trans HH8.out.r.kr.1, (hB.cell HE8.out).trans HC82.out, K8o.on (HH8.out.s.k8 y HY.out) hB HH8.out.s.lt⟩
        obtain ⟨dy, bys, hDy, hcy⟩ := HDs.out y w8.drew
        have HDy := hide hDy
        have HCy := hide hcy
        clear hDy hcy
        go_wp2_with (fail)
        go_region_held3 (Sl rb eb sb (i * 3 + 1) (y * 8) (.slice (some ⟨sb, 0, none⟩) n cap) (y : Int) (S y)) ((first | with_reducible exact hS8.out | (refine HK8.out _ ?_; repeat first | exact Below.refl _ _ | refine belowD ?_ | refine belowN ?_ _ | refine bA ?_ (by first | exact Nat.le_refl _ | (simp only [World.size_drew, World.size_alloc]; omega)) _))) ((first | (go_at_call 22; refine HDy.out.mono ?_; rintro e9 wa ⟨rfl, hwa⟩; subst wa)))
        have HW9 : Hid (Below w8.heap.size w8 (w8.alloc (.cells (sv (S y)) 35)).drew) := by repeat first | exact Below.refl _ _ | refine belowD ?_ | refine belowN ?_ _ | refine bA ?_ (by first | exact Nat.le_refl _ | (simp only [World.size_drew, World.size_alloc]; omega)) _
        have HH9 := hide (HH8.out.on HW9.out)
        have d3 := (HW9.out.cell HE8.out).trans HC83.out
        clear hS8 HK8 HH8 HE8 HC82 HC83 HW9 HDy
        generalize (w8.alloc (.cells (sv (S y)) 35)).drew = w9 at *
        have HWt := hide (rweight_any 2 z)
        have hwz := wt_b 2 z
        have hlx := HSp.out.b x
        have hly := HSp.out.b y
        rcases HCx.out with ⟨q1, rfl, rfl⟩ | ⟨q1, rfl, rfl⟩
        · clear q1 hwz hlx hly HCx HCy
          go_wp2
          all_goals exact ⟨⟨i + 1, ci, by go_num, HH9⟩, by simp [intOf]; omega⟩
        · have htt := HSp.out.t x y _ HAw.out q1
          have hlx' := hlx.resolve_left q1
          rcases HCy.out with ⟨q2, rfl, rfl⟩ | ⟨q2, rfl, rfl⟩
          · exfalso; omega
          · have b3 : decide (L x + wt 2 z < L y) = false := by simp; omega
            have q5 : IntKind.i64.wrap (L x + wt 2 z) = L x + wt 2 z := wi _ (by omega) (by omega)
            have q6 : wrap64 (L x + wt 2 z) = L x + wt 2 z := w64 _ (by omega) (by omega)
            clear q1 q2 hwz hlx hly HCx HCy htt hlx'
            go_wp2_with (fail)
            refine (HWt.out _).mono ?_
            rintro e9 wa ⟨rfl, hwa⟩
            subst wa
            go_wp2
            all_goals exact ⟨⟨i + 1, ci, by go_num, HH9⟩, by simp [intOf]; omega⟩
      · have him : m = i := by omega
        subst him
        have k0 := HH.out.r.kr.1
        have k1 := HH.out.s.k8 s hsn
        obtain ⟨ds, bs, hDs, hcs⟩ := HDs.out s wr
        have HDd := hide hDs
        have hd0 : ds = 0 ∧ bs = true := by
          have h9 := HSp.out.so.1
          rcases hcs with ⟨q, _, _⟩ | ⟨q, e1, e2⟩
          · omega
          · exact ⟨by omega, e2⟩
        obtain ⟨rfl, rfl⟩ := hd0
        have HW8 : Hid (Below wr.heap.size wr (wr.alloc (.cells (sv (S s)) 35))) := b1 _ _ _
        have HH8 := hide (HH.out.on HW8.out)
        clear hDs hcs ci hi
        go_wp2_with (fail)
        refine HDd.out.mono ?_
        rintro e9 wa ⟨rfl, hwa⟩
        subst wa
        clear k0 k1 HDd HW8 HH
        generalize wr.alloc (.cells (sv (S s)) 35) = w8 at *
        have hkb := HH8.out.r.ka
        have HRe := hide (reasons_any sb n cap m c' s AA CC kk u 2 a' E1 S L W hn1 hn2 hm hsn w8 HH8.out.s HH8.out.e HI.out HSp.out (fun v => (H3.out v).1) (fun v => (H3.out v).2.2))
        go_wp2_with (fail)
        refine HRe.out.mono ?_
        rintro e11 w11 ⟨rfl, hB11⟩
        have HT := hide (HH8.out.on hB11).t
        clear hB11 HRe HH8 hkb
        go_wp2
        all_goals go_ret
        all_goals first | exact ⟨rfl, HT.out⟩ | exact ⟨ret_bool (by simp), HT.out⟩
end Wp
end Go.Proofs.Ytlhpnhjfibkgpaa
