import Derived.Test.YtlhpnhjfibkgpaaWvM
namespace Go.Proofs.Ytlhpnhjfibkgpaa
namespace Wp
open Go.RowKit
set_option linter.unusedVariables false
set_option maxRecDepth 8000
set_option maxHeartbeats 4000000 in
theorem fways_b (N src kd : Int) (hkd : kd = 1) (hs0 : 0 ≤ src) (a : Option Addr) (m c : Nat) (E : Nat → Int × Int × Int) (hm : m ≤ 11728124029610) (w : World) (hr : IRow w a m E) (hE : ∀ i, i < m → 0 ≤ (E i).1 ∧ 0 ≤ (E i).2.1) :
    Calls Try.prog 6 #[.agg #[.int .i64 N, .slice a m c], .int .u32 src, .int .i64 kd] w fun e w' => e = .returned (.bool true) ∧ Below w.heap.size w w' := by
  subst hkd
  have HSz := hide (size_any N (.slice a m c))
  have HX : Hid (Below w.heap.size w ((w.alloc (.cells #[.int .i64 N, .slice a m c] 24)).alloc (.cells #[.int .i64 N, .slice a m c] 24))) := by repeat first | exact Below.refl _ _ | refine bA ?_ (by first | exact Nat.le_refl _ | (simp only [World.size_alloc]; omega)) _
  have HL := hide (list_any N a m c E hm _ (hr.on HX.out) hE)
  have HI := hide (le1_in N m E)
  obtain ⟨E1, hE1⟩ : ∃ E1, le1 N E = E1 := ⟨_, rfl⟩
  rw [hE1] at HL HI
  have hn1 := (gz_b N).1
  have hn2 := (gz_b N).2
  have hq0 : ¬ gz N = 0 := by omega
  have ht : src.tmod (gz N : Int) = ((src % (gz N : Int)).toNat : Nat) := by rw [Int.tmod_eq_emod_of_nonneg hs0]; have := Int.emod_nonneg src (show (gz N : Int) ≠ 0 by omega); omega
  have hsn : (src % (gz N : Int)).toNat < gz N := by have := Int.emod_lt_of_pos src (show (0 : Int) < gz N by omega); have := Int.emod_nonneg src (show (gz N : Int) ≠ 0 by omega); omega
  generalize (src % (gz N : Int)).toNat = s at *
  obtain ⟨R, hR, hFi, hch, hcs⟩ := sssp_end (gz N) m s 1 E1 (by omega) hsn HI.out
  generalize gz N = n at *
  have hcv := convn n hn2
  have hcv1 : wrap64 ((n : Int) + 1) = (n : Int) + 1 := w64 _ (by omega) (by omega)
  have HRn := hide hR
  have HFi := hide hFi
  obtain ⟨ng, hng⟩ : ∃ ng, decide (R = n) = ng := ⟨_, rfl⟩
  have HYes : Hid (ng = true → ∀ v, (rn (gW n s 1) E1 m n (R + 1)).2 v 1 = 1) := fun e => by
    rcases hcs with ⟨h1, _⟩ | ⟨_, h2⟩
    · rw [e] at hng; have := of_decide_eq_true hng; omega
    · exact h2
  have HNo : Hid (ng = false → R < n ∧ ∃ W, Sp m s 1 E1 (Dd m s 1 E1 (R + 1)) W ∧ ∀ v, (rn (gW n s 1) E1 m n (R + 1)).2 v 0 = us (Dd m s 1 E1 (R + 1) v) ∧ (rn (gW n s 1) E1 m n (R + 1)).2 v 1 = 0 ∧ (rn (gW n s 1) E1 m n (R + 1)).2 v 2 = W v) := fun e => by
    rcases hcs with ⟨h1, _, W, h2, h3⟩ | ⟨h1, _⟩
    · exact ⟨h1, W, h2, h3⟩
    · rw [e] at hng; have := of_decide_eq_false hng; exact absurd h1 this
  have HRs : Hid (∀ W a' c', ERow W a' m E1 → Calls Try.prog 25 #[.int .u32 (n : Int), .int .u32 (s : Int), .int .i64 1, .slice a' m c'] W fun e w' => ∃ ob, e = .returned (.tuple #[.slice (some ⟨ob, 0, none⟩) n n, .bool ng]) ∧ (R < n → GU w' ob n (fun v => us (Dd m s 1 E1 (R + 1) v))) ∧ Below W.heap.size W w') := fun W a' c' h => by
    have h9 := rsssp_any n m s c' R 1 a' E1 hn1 hn2 hm hsn W h HI.out hR hch (fun h1 => by
      rcases hcs with ⟨_, h2, _⟩ | ⟨h2, _⟩
      · exact h2
      · omega)
    rw [hng] at h9; exact h9
  have HWm := hide (sssp_any (n : Int) (s : Int) 1 (by omega) (by omega) (by omega) (by omega))
  clear hr hE hE1 hR hFi hch hcs hng
  go_enter Try.func6, Try.ntmps6
  go_wp2_with (fail)
  refine (HSz.out _).mono ?_
  rintro e1 w1 ⟨rfl, hw1⟩
  subst w1
  go_wp2_with (fail)
  refine HL.out.mono ?_
  rintro e2 w2 ⟨a', c', rfl, hE2, hB2⟩
  have HE2 := hide hE2
  have HB2 : Hid (Below w.heap.size w w2) := HX.out.trans (hB2.mono HX.out.size)
  clear hE2 hB2 HL HX HSz
  go_wp2_with (fail)
  refine (HWm.out _).mono ?_
  rintro e3 w3 ⟨fb, wb, rfl, hfb, hwb, hF3, hB3'⟩
  have HF3 := hide hF3
  have HY : Hid (Below w2.heap.size w2 w3) := hB3'
  have HP := hide (play_any (gW (n : Int) (s : Int) 1) fb n m c' R a' E1 ((n : Int) + 1) hn1 (by omega) (by omega) (by show 4 ≤ 8; decide) (by have := HRn.out; omega) (by have := HRn.out; omega) w3 (obW (n : Int) (s : Int) 1 (by omega) (by omega) wb fb w3.heap.size w3 HF3.out HF3.out.1 HF3.out.2.2.lt) (fun W hB => sane_W (n : Int) (s : Int) 1 wb fb W (HF3.out.on hB)) (HE2.out.on HY.out) HI.out HFi.out)
  clear hfb hwb hF3 hB3'
  go_wp2_with (fail)
  refine HP.out.mono ?_
  rintro e4 w4 ⟨sb, cap, u, rfl, hsb, hS4, hB4⟩
  obtain ⟨S, hS⟩ : ∃ S, (rn (gW (n : Int) (s : Int) 1) E1 m n (R + 1)).2 = S := ⟨_, rfl⟩
  rw [hS] at hS4 HYes HNo
  rw [hS]
  obtain ⟨CC, hCC⟩ : ∃ CC, (rn (gW (n : Int) (s : Int) 1) E1 m n (R + 1)).1 = CC := ⟨_, rfl⟩
  rw [hCC]
  obtain ⟨AA, hAA⟩ : ∃ AA, fs (gW (n : Int) (s : Int) 1) S n = AA := ⟨_, rfl⟩
  rw [hAA]
  obtain ⟨kk, hkk⟩ : ∃ kk, (R : Int) + 1 = kk := ⟨_, rfl⟩
  rw [hkk]
  have HB3 : Hid (Below w.heap.size w w3) := HB2.out.trans (HY.out.mono HB2.out.size)
  have HB4 : Hid (Below w.heap.size w w4) := HB3.out.trans (hB4.mono HB3.out.size)
  have HS4 := hide hS4
  have HE4 : Hid (ERow w4 a' m E1) := (HE2.out.on HY.out).on hB4
  have HZ5 : Hid (Below w4.heap.size w4 (w4.alloc (.cells (rc (.slice (some ⟨sb, 0, none⟩) n cap) AA CC kk u) 39))) := b1 _ _ _
  have HH : Hid (Ho N w4.heap.size sb n cap m a' E1 S AA CC kk u w (w4.alloc (.cells (rc (.slice (some ⟨sb, 0, none⟩) n cap) AA CC kk u) 39))) := ⟨at0 _ _, HS4.out.on HZ5.out, HE4.out.on HZ5.out, HB4.out.trans (HZ5.out.mono HB4.out.size)⟩
  have HA0 : Hid (AA 0 = fs (gW (n : Int) (s : Int) 1) S n 0) := by show _ = _; rw [← hAA]
  have HA1 : Hid (AA 1 = if ng = true then 1 else 0) := by
    show _ = _
    rw [← hAA]
    cases ng with
    | true => rw [if_pos rfl]; exact fs1_yes _ _ _ S (HYes.out rfl) n hn1
    | false => rw [if_neg (by simp)]; obtain ⟨_, W, _, h3⟩ := HNo.out rfl; exact fs1_no _ _ _ S (fun v => (h3 v).2.1) n
  have HNg : Hid (∀ v, (S v 1 == 1) = ng) := fun v => by
    cases ng with
    | true => rw [HYes.out rfl v]; rfl
    | false => obtain ⟨_, W, _, h3⟩ := HNo.out rfl; rw [(h3 v).2.1]; rfl
  have HF5 : Hid (FW (n : Int) (s : Int) 1 wb fb (w4.alloc (.cells (rc (.slice (some ⟨sb, 0, none⟩) n cap) AA CC kk u) 39))) := (HF3.out.on hB4).on HZ5.out
  clear hS hCC hAA hkk hsb hS4 hB4 HP HFi HRn HE2 HF3 HY HB2 HB3 HB4 HS4 HE4 HZ5 HWm
  go_wp2_with (fail)
  generalize w4.alloc (.cells (rc (.slice (some ⟨sb, 0, none⟩) n cap) AA CC kk u) 39) = w5 at *
  generalize w4.heap.size = rb at *
  refine (HRs.out w5 a' c' HH.out.e).mono ?_
  rintro e6 w6 ⟨ob, rfl, hG6, hB6⟩
  have HG6 := hide hG6
  have HH6 := hide (HH.out.on hB6)
  have HF6 := hide (HF5.out.on hB6)
  clear hG6 hB6 HRs HH HF5
  go_wp2_with (fail)
  refine (num_any _ _).mono ?_
  rintro e7 w7 ⟨rfl, hw7⟩
  subst w7
  have HBo := hide (both_W (n : Int) (s : Int) 1 wb fb w6 HF6.out)
  go_wp2_with (fail)
  refine HBo.out.mono ?_
  rintro e8 w8 ⟨rfl, hw8⟩
  have HH8 := hide (HH6.out.on hw8)
  have HG8 : Hid (R < n → GU w8 ob n (fun v => us (Dd m s 1 E1 (R + 1) v))) := fun h => (HG6.out h).on hw8
  clear hw8 HBo HH6 HG6 HF6
  go_wp2_with (fail)
  go_loopw [17, 18] (fun ro v wr => ∃ j : Nat, j ≤ n ∧ v = .int .i64 j ∧ ro = .int .u64 (fs (gW (n : Int) (s : Int) 1) S j 0) ∧ Hid (Ho N rb sb n cap m a' E1 S AA CC kk u w wr) ∧ Hid (R < n → GU wr ob n (fun v => us (Dd m s 1 E1 (R + 1) v)))) (fun _ v _ => n - (intOf v).toNat)
  case atStart => exact ⟨0, Nat.zero_le _, rfl, rfl, HH8, HG8⟩
  case round =>
    clear HH8 HG8
    obtain ⟨j, hj, rfl, rfl, HH, HG⟩ := hrel
    have k0 := HH.out.r.kr.1
    by_cases cj : j < n
    · have k1 := HH.out.s.k8 j cj
      have HNv := hide (negative_any (S j))
      have hbj := HNg.out j
      have HW7 : Hid (Below wr.heap.size wr (wr.alloc (.cells (sv (S j)) 35))) := b1 _ _ _
      have HH7 := hide (HH.out.on HW7.out)
      have HG7 : Hid (R < n → GU (wr.alloc (.cells (sv (S j)) 35)) ob n (fun v => us (Dd m s 1 E1 (R + 1) v))) := fun h => (HG.out h).on HW7.out
      have hfs := fs_w n s 1 S j
      have HFs := hide (fsW (n : Int) (s : Int) 1 S j)
      rw [hbj] at HNv
      clear hbj
      go_wp2_with (fail)
      refine (HNv.out _).mono ?_
      rintro e9 w9 ⟨rfl, hw9⟩
      subst w9
      have k0' := HH7.out.r.kr.1
      have k1' := HH7.out.s.k8 j cj
      have hnn : (ng != ng) = false := by simp
      clear k0 k1
      by_cases e : S j 0 = 9223372036854775807
      · have hb : (S j 0 != 9223372036854775807) = false := by simp [e]
        have HE9 := hide (HFs.out.1 e)
        clear e hfs HFs
        go_wp2
        all_goals exact ⟨⟨j + 1, cj, by go_num, by rw [HE9.out], HH7, HG7⟩, by simp [intOf]; omega⟩
      · have hb : (S j 0 != 9223372036854775807) = true := by simp [e]
        have HE9 := hide (HFs.out.2.1 e)
        obtain ⟨f0, hf0⟩ : ∃ f0, fs (gW (n : Int) (s : Int) 1) S j 0 = f0 := ⟨_, rfl⟩
        rw [hf0] at hfs HE9
        rw [hf0]
        have hwf : IntKind.u64.wrap (f0 + 1) = f0 + 1 := wu _ (by omega) (by omega)
        clear e HFs hf0 hfs
        go_wp2
        all_goals exact ⟨⟨j + 1, cj, by go_num, by rw [HE9.out], HH7, HG7⟩, by simp [intOf]; omega⟩
    · have hjn : n = j := by omega
      subst hjn
      have hA0 := HH.out.r.kr.2.1.1
      have hA1 := HH.out.r.kr.2.1.2.1
      have b0 : (AA 0 != fs (gW (n : Int) (s : Int) 1) S n 0) = false := by rw [HA0.out]; simp
      obtain ⟨f0, hf0⟩ : ∃ f0, fs (gW (n : Int) (s : Int) 1) S n 0 = f0 := ⟨_, rfl⟩
      rw [hf0] at b0
      rw [hf0]
      clear hf0
      cases ng with
      | true =>
        have b1 : (AA 1 == 1) = true := by rw [HA1.out]; rfl
        have b2 : decide (1 < AA 1) = false := by rw [HA1.out]; rfl
        clear cj hj
        go_wp2
        all_goals go_ret
        all_goals first | exact ⟨rfl, HH.out.t⟩ | exact ⟨ret_bool (by simp), HH.out.t⟩
      | false =>
        have b1 : (AA 1 == 1) = false := by rw [HA1.out]; rfl
        have b2 : decide (1 < AA 1) = false := by rw [HA1.out]; rfl
        obtain ⟨hRn, W, hSp, h3⟩ := HNo.out rfl
        have HSp := hide hSp
        have H3 := hide h3
        have HGo := hide (HG.out hRn)
        have HWd := hide (word_any sb n cap AA CC kk u S hn1 (by omega) wr HH.out.s)
        have hka := HH.out.r.ka
        clear cj hj hSp h3 HG
        go_wp2_with (fail)
        refine HWd.out.mono ?_
        rintro e9 w9 ⟨g9, c9, rfl, hG9, hB9⟩
        have HH9 := hide (HH.out.on hB9)
        have HL9 := hide ((HGo.out.on hB9).ext (H := fun v => S v 0) (fun v hv => ((H3.out v).1).symm))
        have HSm := hide (same_any g9 ob n c9 n (fun v => S v 0) (by omega) w9 hG9 HL9.out)
        clear hG9 hB9 HWd hka hA0 hA1 k0 HGo HH
        go_wp2_with (fail)
        refine HSm.out.mono ?_
        rintro e10 w10 ⟨rfl, hB10⟩
        have HH10 := hide (HH9.out.on hB10)
        have hkb := HH10.out.r.ka
        have HRe := hide (reasons_any sb n cap m c' s AA CC kk u 1 a' E1 S (Dd m s 1 E1 (R + 1)) W hn1 hn2 hm hsn w10 HH10.out.s HH10.out.e HI.out HSp.out (fun v => (H3.out v).1) (fun v => (H3.out v).2.2))
        clear hB10 HSm HH9 HL9
        go_wp2_with (fail)
        refine HRe.out.mono ?_
        rintro e11 w11 ⟨rfl, hB11⟩
        have HT := hide (HH10.out.on hB11).t
        clear hB11 HRe HH10 hkb
        go_wp2
        all_goals go_ret
        all_goals first | exact ⟨rfl, HT.out⟩ | exact ⟨ret_bool (by simp), HT.out⟩
end Wp
end Go.Proofs.Ytlhpnhjfibkgpaa
