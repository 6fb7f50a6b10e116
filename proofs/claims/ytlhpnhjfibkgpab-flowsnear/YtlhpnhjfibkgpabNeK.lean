import Derived.Test.YtlhpnhjfibkgpabNeJ
namespace Go.Proofs.Ytlhpnhjfibkgpab
namespace Wp
open Go.RowKit
set_option linter.unusedVariables false
set_option maxRecDepth 8000
set_option maxHeartbeats 16000000 in
theorem fnear_any (N : Int) (a : Option Addr) (m c : Nat) (E : Nat → Int × Int × Int) (hm : m ≤ 11728124029610) (sa : Option Addr) (sl sc : Nat) (V : Nat → Nat) (hsl : sl ≤ 140737488351232) (w : World) (hr : IRow w a m E) (hE : ∀ i, i < m → 0 ≤ (E i).1 ∧ 0 ≤ (E i).2.1) (hv : Vr w sa sl V) :
    Calls Try.prog 3 #[.agg #[.int .i64 N, .slice a m c], .slice sa sl sc] w fun e w' => e = .returned (.bool true) ∧ Below w.heap.size w w' := by
  have HSz := hide (size_any N (.slice a m c))
  have HX : Hid (Below w.heap.size w ((w.alloc (.cells #[.int .i64 N, .slice a m c] 24)).alloc (.cells #[.int .i64 N, .slice a m c] 24))) := by repeat first | exact Below.refl _ _ | refine bA ?_ (by first | exact Nat.le_refl _ | (simp only [World.size_alloc]; omega)) _
  have HL := hide (list_any N a m c E hm _ (hr.on HX.out) hE)
  have HI := hide (le1_in N m E)
  obtain ⟨E1, hE1⟩ : ∃ E1, le1 N E = E1 := ⟨_, rfl⟩
  rw [hE1] at HL HI
  have hn1 := (gz_b N).1
  have hn2 := (gz_b N).2
  generalize gz N = n at *
  have hq0 : ¬ n = 0 := by omega
  have hcv := convn n hn2
  have HV := hide hv
  obtain ⟨M, hM⟩ := skolem_lv (n := n) (m := m) (E := E1) (by omega) HI.out
  have HM := hide hM
  clear hr hE hE1 hv hM
  go_enter Try.func3, Try.ntmps3
  go_wp2_with (fail)
  refine (HSz.out _).mono ?_
  rintro e1 w1 ⟨rfl, hw1⟩
  subst w1
  go_wp2_with (fail)
  refine HL.out.mono ?_
  rintro e2 w2 ⟨a', c', rfl, hE2, hB2⟩
  have HE2 := hide hE2
  have HB2 : Hid (Below w.heap.size w w2) := HX.out.trans (hB2.mono HX.out.size)
  clear hE2 hB2 HL HX HSz
  go_wp2_with (fail)
  go_loopw [7, 8] (fun v k wr => ∃ j : Nat, j ≤ sl ∧ j ≤ 64 ∧ k = .int .i64 j ∧ (j = 0 → v = .slice none 0 0) ∧ Hid (wr.ownsRow w2.heap.size 26 1 v j (cuq (Qk V n j))) ∧ Hid (Below w2.heap.size w2 wr)) (fun _ k _ => 64 - (intOf k).toNat)
  case atStart => exact ⟨0, Nat.zero_le _, Nat.zero_le _, rfl, fun _ => rfl, World.ownsRow_nil _ _ _ _, Below.refl _ _⟩
  case round =>
    obtain ⟨j, hj, hj64, rfl, hnil, HO, HB⟩ := hrel
    by_cases cc : j < sl
    · by_cases cd : j < 64
      · have hcc : (j : Int) < (sl : Int) := by omega
        have hcd : (j : Int) < 64 := by omega
        obtain ⟨x, rfl, hx, hc⟩ := (HV.out.on (HB2.out.trans (HB.out.mono HB2.out.size))) (by omega)
        have c1 := hc j cc
        have ht : ((V j : Nat) : Int).tmod (n : Int) = ((V j % n : Nat) : Int) := by rw [Int.tmod_eq_emod_of_nonneg (by omega)]; omega
        have HQ : Hid (cuq (Qk V n (j + 1)) = cuq (Qk V n j) ++ [.int .u32 ((V j % n : Nat) : Int)]) := cuq_app _ _
        generalize V j % n = q at *
        generalize V j = vj at *
        clear hc hx hnil
        have HZ : Hid (w2.heap.size ≤ wr.heap.size) := HB.out.size
        go_wp2_with (first | (refine wpList_appendU rfl _ _ rfl w2.heap.size u7 j (cuq (Qk V n j)) ⟨wr.heap.size, 0, none⟩ 1 (q : Int) rfl (HO.out.alloc _) rfl (cell_new wr _ #[.int .u32 (q : Int)] 26 0 _ rfl rfl) (by omega) (by rw [World.size_alloc]; exact Nat.le_succ_of_le HZ.out) ?_; intro v7 w7 hown7 hgr7) | fail)
        have HB7 : Hid (Below w2.heap.size w2 w7) := (bA HB.out HZ.out _).grown hgr7 (by rw [World.size_alloc]; exact Nat.le_succ_of_le HZ.out) (fun k hk => (World.ownsRow.lt HO.out k hk).1)
        exact ⟨⟨j + 1, by omega, by omega, by go_num, fun h => by omega, by rw [HQ.out]; exact hown7, HB7⟩, by simp [intOf]; omega⟩
      · skip
        obtain ⟨wo, rfl⟩ : ∃ wo, wo = wr := ⟨_, rfl⟩
        have hj0 : 0 < j := by omega
        obtain ⟨mb, mcap, rfl, hmb, _⟩ := own_form HO.out hj0
        have HSq : Hid (Sq wo mb (Qk V n j)) := own_sq HO.out
        have HQn : Hid (∀ q ∈ Qk V n j, q < n) := Qk_lt V n j hn1
        have hQl := Qk_len V n j
        generalize Qk V n j = Q at *
        have HEm : Hid (ERow wo a' m E1) := HE2.out.on HB.out
        have HBm : Hid (Below w.heap.size w wo) := HB2.out.trans (HB.out.mono HB2.out.size)
        have hl0 : ((j : Int) == 0) = false := by simp; omega
        have hcc : (j : Int) < (sl : Int) := by omega
        have hcd : ¬ (j : Int) < 64 := by omega
        clear HO HB hmb HE2 HB2 HV hnil
        obtain ⟨R, hR, hFi, hWc⟩ := reach_end n m Q E1 (by omega) hn1 HI.out
        have HRn := hide hR
        have HFi := hide hFi
        have HWc := hide hWc
        clear hR hFi hWc
        have HOw := hide (own1 wo)
        have HXw : Hid (Sq (wo.alloc (.cells #[] 26)) mb Q) := HSq.out.on (b1 wo 26 #[]) HSq.out.1
        go_wp2_with (first | (refine wpList_appendQ rfl _ _ rfl wo.heap.size _ mb mcap Q rfl HOw.out (by rw [hQl]; rfl) HXw.out (by omega) (by simp) ?_; intro v8 w8 hown8 hgr8) | fail)
        have HB8 : Hid (Below wo.heap.size wo w8) := (b1 wo 26 #[]).grown hgr8 (by simp) (fun j hj => (World.ownsRow.lt HOw.out j hj).1)
        rw [hQl] at hown8
        obtain ⟨g, gcap, rfl, hg, _⟩ := own_form hown8 (by omega)
        have HG := hide hg
        have HSg := hide (own_sq hown8)
        have HGv : Hid (Gv w8 wo.heap.size g gcap j) := Gv.mk hQl hown8
        have HRe := hide (reach_any (n : Int) g gcap Q (by omega) (by omega) (by omega) (by omega) (fun q h => by have := HQn.out q h; omega) w8 HSg.out)
        rw [hQl] at HRe
        clear hown8 hgr8 HOw HXw hg
        go_wp2_with (fail)
        refine HRe.out.mono ?_
        rintro e9 w9 ⟨fb, qb, qc, rfl, hfb, hqb, hF9, hB9⟩
        have HNf : Hid (fb ≠ g) := by have := HSg.out.1; show fb ≠ g; omega
        have HNq : Hid (qb ≠ g) := by have := HSg.out.1; show qb ≠ g; omega
        have HK : Hid (Kg (n : Int) Q qb qc fb g gcap j wo.heap.size wo w9) := ⟨hF9, HGv.out.on hB9, HB8.out.trans (hB9.mono HB8.out.size)⟩
        clear hfb hqb hF9 hB9 HRe HGv HSg HB8
        go_wp2_with (fail)
        go_loopw [12] (fun t wr => ∃ i : Nat, i ≤ j ∧ t = .int .i64 i ∧ Hid (Kg (n : Int) Q qb qc fb g gcap j wo.heap.size wo wr)) (fun t _ => j - (intOf t).toNat)
        case atStart => exact ⟨0, Nat.zero_le _, rfl, HK⟩
        case round =>
          clear HK
          obtain ⟨i, hi, rfl, HK⟩ := hrel
          by_cases ci : i < j
          · have hci : (i : Int) < ((j : Nat) : Int) := by omega
            obtain ⟨y, y1, y2⟩ := HK.out.g.cell ci
            have HT : Hid (∀ z : Int, Kg (n : Int) Q qb qc fb g gcap j wo.heap.size wo (wr.setCell ⟨g, i, none⟩ (.int .u32 z))) := fun z => HK.out.set HNf.out HNq.out HG.out i z
            go_wp2
            all_goals exact ⟨⟨i + 1, by omega, by go_num, HT.out _⟩, by simp [intOf]; omega⟩
          · have hci : ¬ (i : Int) < ((j : Nat) : Int) := by omega
            have HF3 : Hid (FB (n : Int) Q qb qc fb wr) := HK.out.f
            have HE3 : Hid (ERow wr a' m E1) := HEm.out.on HK.out.b
            have HS3 : Hid (Sq wr mb Q) := HSq.out.on HK.out.b HSq.out.1
            have HB3 : Hid (Below w.heap.size w wr) := HBm.out.trans (HK.out.b.mono HBm.out.size)
            clear HK HEm HSq HBm HNf HNq HG
            have HP := hide (play_any (gB (n : Int) Q) fb n m c' R a' E1 (n : Int) hn1 (by omega) (by omega) (by show 3 ≤ 8; decide) (by have := HRn.out; omega) (by have := HRn.out; omega) wr (obB (n : Int) Q (by omega) (by omega) qb qc fb wr.heap.size wr HF3.out HF3.out.1 HF3.out.2.2.1) (fun W hB => sane_B (n : Int) Q qb qc fb W (HF3.out.on hB)) HE3.out HI.out HFi.out)
            go_wp2_with (fail)
            refine HP.out.mono ?_
            rintro e4 w4 ⟨sb, cap, u, rfl, hsb, hS4, hB4⟩
            obtain ⟨S, hS⟩ : ∃ S, (rn (gB (n : Int) Q) E1 m n (R + 1)).2 = S := ⟨_, rfl⟩
            rw [hS] at hS4 HWc
            rw [hS]
            obtain ⟨CC, hCC⟩ : ∃ CC, (rn (gB (n : Int) Q) E1 m n (R + 1)).1 = CC := ⟨_, rfl⟩
            rw [hCC]
            obtain ⟨AA, hAA⟩ : ∃ AA, fs (gB (n : Int) Q) S n = AA := ⟨_, rfl⟩
            rw [hAA]
            obtain ⟨kk, hkk⟩ : ∃ kk, (R : Int) + 1 = kk := ⟨_, rfl⟩
            rw [hkk]
            have HF : Hid (Rea n m Q E1 (fun v => S v 0) (fun v => S v 1)) := HWc.out
            have HFr : Hid (∀ v, v < n → frs (fun v => S v 0) M (fun _ => 18446744073709551615) Q v = S v 1) := fun v hv => HF.out.from_eq HI.out (by omega) HQn.out M HM.out v hv
            have HB4 : Hid (Below w.heap.size w w4) := HB3.out.trans (hB4.mono HB3.out.size)
            have HS4 := hide hS4
            have HE4 : Hid (ERow w4 a' m E1) := HE3.out.on hB4
            have HZ5 : Hid (Below w4.heap.size w4 (w4.alloc (.cells (rc (.slice (some ⟨sb, 0, none⟩) n cap) AA CC kk u) 40))) := b1 _ _ _
            have HH : Hid (Ho N w4.heap.size sb n cap m a' E1 S AA CC kk u w (w4.alloc (.cells (rc (.slice (some ⟨sb, 0, none⟩) n cap) AA CC kk u) 40))) := ⟨at0 _ _, HS4.out.on HZ5.out, HE4.out.on HZ5.out, HB4.out.trans (HZ5.out.mono HB4.out.size)⟩
            have HAd : Hid (∀ C0, C0 = fs (gB (n : Int) Q) S → AA 0 = C0 n 0 ∧ AA 1 = C0 n 1) := fun C0 e => by subst e; rw [← hAA]; exact ⟨rfl, rfl⟩
            have HFB5 : Hid (FB (n : Int) Q qb qc fb (w4.alloc (.cells (rc (.slice (some ⟨sb, 0, none⟩) n cap) AA CC kk u) 40))) := (HF3.out.on hB4).on HZ5.out
            have HS5 : Hid (Sq (w4.alloc (.cells (rc (.slice (some ⟨sb, 0, none⟩) n cap) AA CC kk u) 40)) mb Q) := (HS3.out.on hB4 HS3.out.1).on HZ5.out (Nat.lt_of_lt_of_le HS3.out.1 hB4.size)
            clear hS hCC hAA hkk hsb hS4 hB4 HP HWc HFi HRn HE3 HF3 HB3 HB4 HS4 HS3 HE4 HZ5
            go_wp2_with (fail)
            generalize w4.alloc (.cells (rc (.slice (some ⟨sb, 0, none⟩) n cap) AA CC kk u) 40) = w5 at *
            generalize w4.heap.size = rb at *
            have HRb := hide (rreach_any n m c' mb mcap a' E1 Q (fun v => S v 0) M hn1 hn2 hm (by omega) HQn.out w5 HH.out.e HI.out HS5.out HF.out.lv HM.out)
            rw [hQl] at HRb
            refine HRb.out.mono ?_
            rintro e6 w6 ⟨lb, pb, rfl, hG6, hP6, hB6⟩
            have HG6 := hide hG6
            have HP6 : Hid (GU w6 pb n (fun v => S v 1)) := hP6.ext HFr.out
            have HH6 := hide (HH.out.on hB6)
            have HF6 := hide (HFB5.out.on hB6)
            clear hG6 hP6 hB6 HRb HH HFB5 HS5 HFr
            go_wp2_with (fail)
            refine (num_any _ _).mono ?_
            rintro e7 w7 ⟨rfl, hw7⟩
            subst w7
            have HBo := hide (both_B (n : Int) Q qb qc fb w6 HF6.out)
            go_wp2_with (fail)
            refine HBo.out.mono ?_
            rintro e8 w8 ⟨rfl, hw8⟩
            have HH8 := hide (HH6.out.on hw8)
            have HG8 := hide (HG6.out.on hw8)
            have HP8 := hide (HP6.out.on hw8)
            have HWd := hide (word_any sb n cap AA CC kk u S hn1 (by omega) w8 HH8.out.s)
            have hka := HH8.out.r.ka
            clear hw8 HBo HH6 HG6 HP6 HF6
            go_wp2_with (fail)
            refine HWd.out.mono ?_
            rintro e9 w9 ⟨g9, c9, rfl, hG9, hB9⟩
            have HH9 := hide (HH8.out.on hB9)
            have HG9 := hide (HG8.out.on hB9)
            have HP9 := hide (HP8.out.on hB9)
            have HSm := hide (same_any g9 lb n c9 n (fun v => S v 0) (by omega) w9 hG9 HG9.out)
            clear hG9 hB9 HWd hka HH8 HG8 HP8
            go_wp2_with (fail)
            refine HSm.out.mono ?_
            rintro e10 w10 ⟨rfl, hB10⟩
            have HH10 := hide (HH9.out.on hB10)
            have HG10 := hide (HG9.out.on hB10)
            have HP10 := hide (HP9.out.on hB10)
            have HWe := hide (word1_any sb n cap AA CC kk u S hn1 (by omega) w10 HH10.out.s)
            have hkb := HH10.out.r.ka
            clear hB10 HSm HH9 HG9 HP9
            go_wp2_with (fail)
            refine HWe.out.mono ?_
            rintro e11 w11 ⟨g11, c11, rfl, hG11, hB11⟩
            have HH11 := hide (HH10.out.on hB11)
            have HG11 := hide (HG10.out.on hB11)
            have HP11 := hide (HP10.out.on hB11)
            have HSn := hide (same_any g11 pb n c11 n (fun v => S v 1) (by omega) w11 hG11 HP11.out)
            clear hG11 hB11 HWe hkb HH10 HG10 HP10
            go_wp2_with (fail)
            refine HSn.out.mono ?_
            rintro e12 w12 ⟨rfl, hB12⟩
            have HH12 := hide (HH11.out.on hB12)
            have HG12 := hide (HG11.out.on hB12)
            have HLl := hide (levelled_any lb n n AA (fun v => S v 0) (fun i => fs (gB (n : Int) Q) S i 0) (fun i => fs (gB (n : Int) Q) S i 1) (by omega) rfl rfl (fun i _ e => (fsB _ _ S i).1 e) (fun i _ e => (fsB _ _ S i).2 e) (fun i hi => by have := fs_br n Q S i; exact ⟨this.1, by omega⟩) (HAd.out _ rfl).1 (HAd.out _ rfl).2 w12 HG12.out)
            have hkc := HH12.out.r.ka
            clear hB12 HSn HH11 HG11 HP11
            go_wp2_with (fail)
            refine HLl.out.mono ?_
            rintro e13 w13 ⟨rfl, hB13⟩
            have HT := hide (HH12.out.on hB13).t
            clear hB13 HLl HH12 HG12 hkc
            go_wp2
            all_goals go_ret
            all_goals first | exact ⟨rfl, HT.out⟩ | exact ⟨ret_bool (by simp), HT.out⟩
    · by_cases c0 : j = 0
      · skip
        obtain rfl : j = 0 := by omega
        obtain rfl := hnil rfl
        have hcc : ¬ ((0 : Nat) : Int) < (sl : Int) := by omega
        have hcc0 : ¬ (0 : Int) < (sl : Int) := by omega
        have HZ : Hid (w2.heap.size ≤ wr.heap.size) := HB.out.size
        clear HO
        go_wp2_with (first | (refine wpList_appendU rfl _ _ rfl w2.heap.size (.slice none 0 0) 0 [] ⟨wr.heap.size, 0, none⟩ 1 0 rfl (World.ownsRow_nil _ _ _ _) rfl (cell_new wr _ #[.int .u32 0] 26 0 _ rfl rfl) (by omega) (by rw [World.size_alloc]; exact Nat.le_succ_of_le HZ.out) ?_; (intro v7 w7 hown7 hgr7); (obtain ⟨mb, mcap, rfl, hmb, _⟩ := own_form hown7 (by omega)); (have HB7 : Hid (Below w2.heap.size w2 w7) := (bA HB.out HZ.out _).grown hgr7 (by rw [World.size_alloc]; exact Nat.le_succ_of_le HZ.out) (fun k hk => by cases hk)); (have HSq : Hid (Sq w7 mb [0]) := own_sq (Q := [0]) hown7); (obtain ⟨Q, hQ⟩ : ∃ Q : List Nat, [0] = Q := ⟨_, rfl⟩); (have hQl : Q.length = 1 := by rw [← hQ]; rfl); (have HQn : Hid (∀ q ∈ Q, q < n) := fun q h => by rw [← hQ] at h; rw [List.mem_singleton.1 h]; omega); (rw [hQ] at HSq); (have hk64 : (1 : Nat) ≤ 64 := by omega); (have hk0 : (0 : Nat) < 1 := by omega); (have HEm : Hid (ERow w7 a' m E1) := HE2.out.on HB7.out); (have HBm : Hid (Below w.heap.size w w7) := HB2.out.trans (HB7.out.mono HB2.out.size)); (have HOw := hide (own1 w7)); (have HXw : Hid (Sq (w7.alloc (.cells #[] 26)) mb Q) := HSq.out.on (b1 w7 26 #[]) HSq.out.1)) | (refine wpList_appendQ rfl _ _ rfl w7.heap.size _ mb mcap Q rfl HOw.out (by rw [hQl]; rfl) HXw.out (by omega) (by simp) ?_; intro v8 w8 hown8 hgr8) | fail)
        clear hQ hown7 hgr7 HB7 HB HZ hmb hcc hcc0 HE2 HB2 HV hnil
        obtain ⟨R, hR, hFi, hWc⟩ := reach_end n m Q E1 (by omega) hn1 HI.out
        have HRn := hide hR
        have HFi := hide hFi
        have HWc := hide hWc
        clear hR hFi hWc
        have HB8 : Hid (Below w7.heap.size w7 w8) := (b1 w7 26 #[]).grown hgr8 (by simp) (fun j hj => (World.ownsRow.lt HOw.out j hj).1)
        rw [hQl] at hown8
        obtain ⟨g, gcap, rfl, hg, _⟩ := own_form hown8 (by omega)
        have HG := hide hg
        have HSg := hide (own_sq hown8)
        have HGv : Hid (Gv w8 w7.heap.size g gcap 1) := Gv.mk hQl hown8
        have HRe := hide (reach_any (n : Int) g gcap Q (by omega) (by omega) (by omega) (by omega) (fun q h => by have := HQn.out q h; omega) w8 HSg.out)
        rw [hQl] at HRe
        clear hown8 hgr8 HOw HXw hg
        go_wp2_with (fail)
        refine HRe.out.mono ?_
        rintro e9 w9 ⟨fb, qb, qc, rfl, hfb, hqb, hF9, hB9⟩
        have HNf : Hid (fb ≠ g) := by have := HSg.out.1; show fb ≠ g; omega
        have HNq : Hid (qb ≠ g) := by have := HSg.out.1; show qb ≠ g; omega
        have HK : Hid (Kg (n : Int) Q qb qc fb g gcap 1 w7.heap.size w7 w9) := ⟨hF9, HGv.out.on hB9, HB8.out.trans (hB9.mono HB8.out.size)⟩
        clear hfb hqb hF9 hB9 HRe HGv HSg HB8
        go_wp2_with (fail)
        go_loopw [12] (fun t wr => ∃ i : Nat, i ≤ 1 ∧ t = .int .i64 i ∧ Hid (Kg (n : Int) Q qb qc fb g gcap 1 w7.heap.size w7 wr)) (fun t _ => 1 - (intOf t).toNat)
        case atStart => exact ⟨0, Nat.zero_le _, rfl, HK⟩
        case round =>
          clear HK
          obtain ⟨i, hi, rfl, HK⟩ := hrel
          by_cases ci : i < 1
          · have hci : (i : Int) < ((1 : Nat) : Int) := by omega
            obtain ⟨y, y1, y2⟩ := HK.out.g.cell ci
            have HT : Hid (∀ z : Int, Kg (n : Int) Q qb qc fb g gcap 1 w7.heap.size w7 (wr.setCell ⟨g, i, none⟩ (.int .u32 z))) := fun z => HK.out.set HNf.out HNq.out HG.out i z
            go_wp2
            all_goals exact ⟨⟨i + 1, by omega, by go_num, HT.out _⟩, by simp [intOf]; omega⟩
          · have hci : ¬ (i : Int) < ((1 : Nat) : Int) := by omega
            have HF3 : Hid (FB (n : Int) Q qb qc fb wr) := HK.out.f
            have HE3 : Hid (ERow wr a' m E1) := HEm.out.on HK.out.b
            have HS3 : Hid (Sq wr mb Q) := HSq.out.on HK.out.b HSq.out.1
            have HB3 : Hid (Below w.heap.size w wr) := HBm.out.trans (HK.out.b.mono HBm.out.size)
            clear HK HEm HSq HBm HNf HNq HG
            have HP := hide (play_any (gB (n : Int) Q) fb n m c' R a' E1 (n : Int) hn1 (by omega) (by omega) (by show 3 ≤ 8; decide) (by have := HRn.out; omega) (by have := HRn.out; omega) wr (obB (n : Int) Q (by omega) (by omega) qb qc fb wr.heap.size wr HF3.out HF3.out.1 HF3.out.2.2.1) (fun W hB => sane_B (n : Int) Q qb qc fb W (HF3.out.on hB)) HE3.out HI.out HFi.out)
            go_wp2_with (fail)
            refine HP.out.mono ?_
            rintro e4 w4 ⟨sb, cap, u, rfl, hsb, hS4, hB4⟩
            obtain ⟨S, hS⟩ : ∃ S, (rn (gB (n : Int) Q) E1 m n (R + 1)).2 = S := ⟨_, rfl⟩
            rw [hS] at hS4 HWc
            rw [hS]
            obtain ⟨CC, hCC⟩ : ∃ CC, (rn (gB (n : Int) Q) E1 m n (R + 1)).1 = CC := ⟨_, rfl⟩
            rw [hCC]
            obtain ⟨AA, hAA⟩ : ∃ AA, fs (gB (n : Int) Q) S n = AA := ⟨_, rfl⟩
            rw [hAA]
            obtain ⟨kk, hkk⟩ : ∃ kk, (R : Int) + 1 = kk := ⟨_, rfl⟩
            rw [hkk]
            have HF : Hid (Rea n m Q E1 (fun v => S v 0) (fun v => S v 1)) := HWc.out
            have HFr : Hid (∀ v, v < n → frs (fun v => S v 0) M (fun _ => 18446744073709551615) Q v = S v 1) := fun v hv => HF.out.from_eq HI.out (by omega) HQn.out M HM.out v hv
            have HB4 : Hid (Below w.heap.size w w4) := HB3.out.trans (hB4.mono HB3.out.size)
            have HS4 := hide hS4
            have HE4 : Hid (ERow w4 a' m E1) := HE3.out.on hB4
            have HZ5 : Hid (Below w4.heap.size w4 (w4.alloc (.cells (rc (.slice (some ⟨sb, 0, none⟩) n cap) AA CC kk u) 40))) := b1 _ _ _
            have HH : Hid (Ho N w4.heap.size sb n cap m a' E1 S AA CC kk u w (w4.alloc (.cells (rc (.slice (some ⟨sb, 0, none⟩) n cap) AA CC kk u) 40))) := ⟨at0 _ _, HS4.out.on HZ5.out, HE4.out.on HZ5.out, HB4.out.trans (HZ5.out.mono HB4.out.size)⟩
            have HAd : Hid (∀ C0, C0 = fs (gB (n : Int) Q) S → AA 0 = C0 n 0 ∧ AA 1 = C0 n 1) := fun C0 e => by subst e; rw [← hAA]; exact ⟨rfl, rfl⟩
            have HFB5 : Hid (FB (n : Int) Q qb qc fb (w4.alloc (.cells (rc (.slice (some ⟨sb, 0, none⟩) n cap) AA CC kk u) 40))) := (HF3.out.on hB4).on HZ5.out
            have HS5 : Hid (Sq (w4.alloc (.cells (rc (.slice (some ⟨sb, 0, none⟩) n cap) AA CC kk u) 40)) mb Q) := (HS3.out.on hB4 HS3.out.1).on HZ5.out (Nat.lt_of_lt_of_le HS3.out.1 hB4.size)
            clear hS hCC hAA hkk hsb hS4 hB4 HP HWc HFi HRn HE3 HF3 HB3 HB4 HS4 HS3 HE4 HZ5
            go_wp2_with (fail)
            generalize w4.alloc (.cells (rc (.slice (some ⟨sb, 0, none⟩) n cap) AA CC kk u) 40) = w5 at *
            generalize w4.heap.size = rb at *
            have HRb := hide (rreach_any n m c' mb mcap a' E1 Q (fun v => S v 0) M hn1 hn2 hm (by omega) HQn.out w5 HH.out.e HI.out HS5.out HF.out.lv HM.out)
            rw [hQl] at HRb
            refine HRb.out.mono ?_
            rintro e6 w6 ⟨lb, pb, rfl, hG6, hP6, hB6⟩
            have HG6 := hide hG6
            have HP6 : Hid (GU w6 pb n (fun v => S v 1)) := hP6.ext HFr.out
            have HH6 := hide (HH.out.on hB6)
            have HF6 := hide (HFB5.out.on hB6)
            clear hG6 hP6 hB6 HRb HH HFB5 HS5 HFr
            go_wp2_with (fail)
            refine (num_any _ _).mono ?_
            rintro e7 w7 ⟨rfl, hw7⟩
            subst w7
            have HBo := hide (both_B (n : Int) Q qb qc fb w6 HF6.out)
            go_wp2_with (fail)
            refine HBo.out.mono ?_
            rintro e8 w8 ⟨rfl, hw8⟩
            have HH8 := hide (HH6.out.on hw8)
            have HG8 := hide (HG6.out.on hw8)
            have HP8 := hide (HP6.out.on hw8)
            have HWd := hide (word_any sb n cap AA CC kk u S hn1 (by omega) w8 HH8.out.s)
            have hka := HH8.out.r.ka
            clear hw8 HBo HH6 HG6 HP6 HF6
            go_wp2_with (fail)
            refine HWd.out.mono ?_
            rintro e9 w9 ⟨g9, c9, rfl, hG9, hB9⟩
            have HH9 := hide (HH8.out.on hB9)
            have HG9 := hide (HG8.out.on hB9)
            have HP9 := hide (HP8.out.on hB9)
            have HSm := hide (same_any g9 lb n c9 n (fun v => S v 0) (by omega) w9 hG9 HG9.out)
            clear hG9 hB9 HWd hka HH8 HG8 HP8
            go_wp2_with (fail)
            refine HSm.out.mono ?_
            rintro e10 w10 ⟨rfl, hB10⟩
            have HH10 := hide (HH9.out.on hB10)
            have HG10 := hide (HG9.out.on hB10)
            have HP10 := hide (HP9.out.on hB10)
            have HWe := hide (word1_any sb n cap AA CC kk u S hn1 (by omega) w10 HH10.out.s)
            have hkb := HH10.out.r.ka
            clear hB10 HSm HH9 HG9 HP9
            go_wp2_with (fail)
            refine HWe.out.mono ?_
            rintro e11 w11 ⟨g11, c11, rfl, hG11, hB11⟩
            have HH11 := hide (HH10.out.on hB11)
            have HG11 := hide (HG10.out.on hB11)
            have HP11 := hide (HP10.out.on hB11)
            have HSn := hide (same_any g11 pb n c11 n (fun v => S v 1) (by omega) w11 hG11 HP11.out)
            clear hG11 hB11 HWe hkb HH10 HG10 HP10
            go_wp2_with (fail)
            refine HSn.out.mono ?_
            rintro e12 w12 ⟨rfl, hB12⟩
            have HH12 := hide (HH11.out.on hB12)
            have HG12 := hide (HG11.out.on hB12)
            have HLl := hide (levelled_any lb n n AA (fun v => S v 0) (fun i => fs (gB (n : Int) Q) S i 0) (fun i => fs (gB (n : Int) Q) S i 1) (by omega) rfl rfl (fun i _ e => (fsB _ _ S i).1 e) (fun i _ e => (fsB _ _ S i).2 e) (fun i hi => by have := fs_br n Q S i; exact ⟨this.1, by omega⟩) (HAd.out _ rfl).1 (HAd.out _ rfl).2 w12 HG12.out)
            have hkc := HH12.out.r.ka
            clear hB12 HSn HH11 HG11 HP11
            go_wp2_with (fail)
            refine HLl.out.mono ?_
            rintro e13 w13 ⟨rfl, hB13⟩
            have HT := hide (HH12.out.on hB13).t
            clear hB13 HLl HH12 HG12 hkc
            go_wp2
            all_goals go_ret
            all_goals first | exact ⟨rfl, HT.out⟩ | exact ⟨ret_bool (by simp), HT.out⟩
      · skip
        obtain ⟨wo, rfl⟩ : ∃ wo, wo = wr := ⟨_, rfl⟩
        have hj0 : 0 < j := by omega
        obtain ⟨mb, mcap, rfl, hmb, _⟩ := own_form HO.out hj0
        have HSq : Hid (Sq wo mb (Qk V n j)) := own_sq HO.out
        have HQn : Hid (∀ q ∈ Qk V n j, q < n) := Qk_lt V n j hn1
        have hQl := Qk_len V n j
        generalize Qk V n j = Q at *
        have HEm : Hid (ERow wo a' m E1) := HE2.out.on HB.out
        have HBm : Hid (Below w.heap.size w wo) := HB2.out.trans (HB.out.mono HB2.out.size)
        have hl0 : ((j : Int) == 0) = false := by simp; omega
        have hcc : ¬ (j : Int) < (sl : Int) := by omega
        clear HO HB hmb HE2 HB2 HV hnil
        obtain ⟨R, hR, hFi, hWc⟩ := reach_end n m Q E1 (by omega) hn1 HI.out
        have HRn := hide hR
        have HFi := hide hFi
        have HWc := hide hWc
        clear hR hFi hWc
        have HOw := hide (own1 wo)
        have HXw : Hid (Sq (wo.alloc (.cells #[] 26)) mb Q) := HSq.out.on (b1 wo 26 #[]) HSq.out.1
        go_wp2_with (first | (refine wpList_appendQ rfl _ _ rfl wo.heap.size _ mb mcap Q rfl HOw.out (by rw [hQl]; rfl) HXw.out (by omega) (by simp) ?_; intro v8 w8 hown8 hgr8) | fail)
        have HB8 : Hid (Below wo.heap.size wo w8) := (b1 wo 26 #[]).grown hgr8 (by simp) (fun j hj => (World.ownsRow.lt HOw.out j hj).1)
        rw [hQl] at hown8
        obtain ⟨g, gcap, rfl, hg, _⟩ := own_form hown8 (by omega)
        have HG := hide hg
        have HSg := hide (own_sq hown8)
        have HGv : Hid (Gv w8 wo.heap.size g gcap j) := Gv.mk hQl hown8
        have HRe := hide (reach_any (n : Int) g gcap Q (by omega) (by omega) (by omega) (by omega) (fun q h => by have := HQn.out q h; omega) w8 HSg.out)
        rw [hQl] at HRe
        clear hown8 hgr8 HOw HXw hg
        go_wp2_with (fail)
        refine HRe.out.mono ?_
        rintro e9 w9 ⟨fb, qb, qc, rfl, hfb, hqb, hF9, hB9⟩
        have HNf : Hid (fb ≠ g) := by have := HSg.out.1; show fb ≠ g; omega
        have HNq : Hid (qb ≠ g) := by have := HSg.out.1; show qb ≠ g; omega
        have HK : Hid (Kg (n : Int) Q qb qc fb g gcap j wo.heap.size wo w9) := ⟨hF9, HGv.out.on hB9, HB8.out.trans (hB9.mono HB8.out.size)⟩
        clear hfb hqb hF9 hB9 HRe HGv HSg HB8
        go_wp2_with (fail)
        go_loopw [12] (fun t wr => ∃ i : Nat, i ≤ j ∧ t = .int .i64 i ∧ Hid (Kg (n : Int) Q qb qc fb g gcap j wo.heap.size wo wr)) (fun t _ => j - (intOf t).toNat)
        case atStart => exact ⟨0, Nat.zero_le _, rfl, HK⟩
        case round =>
          clear HK
          obtain ⟨i, hi, rfl, HK⟩ := hrel
          by_cases ci : i < j
          · have hci : (i : Int) < ((j : Nat) : Int) := by omega
            obtain ⟨y, y1, y2⟩ := HK.out.g.cell ci
            have HT : Hid (∀ z : Int, Kg (n : Int) Q qb qc fb g gcap j wo.heap.size wo (wr.setCell ⟨g, i, none⟩ (.int .u32 z))) := fun z => HK.out.set HNf.out HNq.out HG.out i z
            go_wp2
            all_goals exact ⟨⟨i + 1, by omega, by go_num, HT.out _⟩, by simp [intOf]; omega⟩
          · have hci : ¬ (i : Int) < ((j : Nat) : Int) := by omega
            have HF3 : Hid (FB (n : Int) Q qb qc fb wr) := HK.out.f
            have HE3 : Hid (ERow wr a' m E1) := HEm.out.on HK.out.b
            have HS3 : Hid (Sq wr mb Q) := HSq.out.on HK.out.b HSq.out.1
            have HB3 : Hid (Below w.heap.size w wr) := HBm.out.trans (HK.out.b.mono HBm.out.size)
            clear HK HEm HSq HBm HNf HNq HG
            have HP := hide (play_any (gB (n : Int) Q) fb n m c' R a' E1 (n : Int) hn1 (by omega) (by omega) (by show 3 ≤ 8; decide) (by have := HRn.out; omega) (by have := HRn.out; omega) wr (obB (n : Int) Q (by omega) (by omega) qb qc fb wr.heap.size wr HF3.out HF3.out.1 HF3.out.2.2.1) (fun W hB => sane_B (n : Int) Q qb qc fb W (HF3.out.on hB)) HE3.out HI.out HFi.out)
            go_wp2_with (fail)
            refine HP.out.mono ?_
            rintro e4 w4 ⟨sb, cap, u, rfl, hsb, hS4, hB4⟩
            obtain ⟨S, hS⟩ : ∃ S, (rn (gB (n : Int) Q) E1 m n (R + 1)).2 = S := ⟨_, rfl⟩
            rw [hS] at hS4 HWc
            rw [hS]
            obtain ⟨CC, hCC⟩ : ∃ CC, (rn (gB (n : Int) Q) E1 m n (R + 1)).1 = CC := ⟨_, rfl⟩
            rw [hCC]
            obtain ⟨AA, hAA⟩ : ∃ AA, fs (gB (n : Int) Q) S n = AA := ⟨_, rfl⟩
            rw [hAA]
            obtain ⟨kk, hkk⟩ : ∃ kk, (R : Int) + 1 = kk := ⟨_, rfl⟩
            rw [hkk]
            have HF : Hid (Rea n m Q E1 (fun v => S v 0) (fun v => S v 1)) := HWc.out
            have HFr : Hid (∀ v, v < n → frs (fun v => S v 0) M (fun _ => 18446744073709551615) Q v = S v 1) := fun v hv => HF.out.from_eq HI.out (by omega) HQn.out M HM.out v hv
            have HB4 : Hid (Below w.heap.size w w4) := HB3.out.trans (hB4.mono HB3.out.size)
            have HS4 := hide hS4
            have HE4 : Hid (ERow w4 a' m E1) := HE3.out.on hB4
            have HZ5 : Hid (Below w4.heap.size w4 (w4.alloc (.cells (rc (.slice (some ⟨sb, 0, none⟩) n cap) AA CC kk u) 40))) := b1 _ _ _
            have HH : Hid (Ho N w4.heap.size sb n cap m a' E1 S AA CC kk u w (w4.alloc (.cells (rc (.slice (some ⟨sb, 0, none⟩) n cap) AA CC kk u) 40))) := ⟨at0 _ _, HS4.out.on HZ5.out, HE4.out.on HZ5.out, HB4.out.trans (HZ5.out.mono HB4.out.size)⟩
            have HAd : Hid (∀ C0, C0 = fs (gB (n : Int) Q) S → AA 0 = C0 n 0 ∧ AA 1 = C0 n 1) := fun C0 e => by subst e; rw [← hAA]; exact ⟨rfl, rfl⟩
            have HFB5 : Hid (FB (n : Int) Q qb qc fb (w4.alloc (.cells (rc (.slice (some ⟨sb, 0, none⟩) n cap) AA CC kk u) 40))) := (HF3.out.on hB4).on HZ5.out
            have HS5 : Hid (Sq (w4.alloc (.cells (rc (.slice (some ⟨sb, 0, none⟩) n cap) AA CC kk u) 40)) mb Q) := (HS3.out.on hB4 HS3.out.1).on HZ5.out (Nat.lt_of_lt_of_le HS3.out.1 hB4.size)
            clear hS hCC hAA hkk hsb hS4 hB4 HP HWc HFi HRn HE3 HF3 HB3 HB4 HS4 HS3 HE4 HZ5
            go_wp2_with (fail)
            generalize w4.alloc (.cells (rc (.slice (some ⟨sb, 0, none⟩) n cap) AA CC kk u) 40) = w5 at *
            generalize w4.heap.size = rb at *
            have HRb := hide (rreach_any n m c' mb mcap a' E1 Q (fun v => S v 0) M hn1 hn2 hm (by omega) HQn.out w5 HH.out.e HI.out HS5.out HF.out.lv HM.out)
            rw [hQl] at HRb
            refine HRb.out.mono ?_
            rintro e6 w6 ⟨lb, pb, rfl, hG6, hP6, hB6⟩
            have HG6 := hide hG6
            have HP6 : Hid (GU w6 pb n (fun v => S v 1)) := hP6.ext HFr.out
            have HH6 := hide (HH.out.on hB6)
            have HF6 := hide (HFB5.out.on hB6)
            clear hG6 hP6 hB6 HRb HH HFB5 HS5 HFr
            go_wp2_with (fail)
            refine (num_any _ _).mono ?_
            rintro e7 w7 ⟨rfl, hw7⟩
            subst w7
            have HBo := hide (both_B (n : Int) Q qb qc fb w6 HF6.out)
            go_wp2_with (fail)
            refine HBo.out.mono ?_
            rintro e8 w8 ⟨rfl, hw8⟩
            have HH8 := hide (HH6.out.on hw8)
            have HG8 := hide (HG6.out.on hw8)
            have HP8 := hide (HP6.out.on hw8)
            have HWd := hide (word_any sb n cap AA CC kk u S hn1 (by omega) w8 HH8.out.s)
            have hka := HH8.out.r.ka
            clear hw8 HBo HH6 HG6 HP6 HF6
            go_wp2_with (fail)
            refine HWd.out.mono ?_
            rintro e9 w9 ⟨g9, c9, rfl, hG9, hB9⟩
            have HH9 := hide (HH8.out.on hB9)
            have HG9 := hide (HG8.out.on hB9)
            have HP9 := hide (HP8.out.on hB9)
            have HSm := hide (same_any g9 lb n c9 n (fun v => S v 0) (by omega) w9 hG9 HG9.out)
            clear hG9 hB9 HWd hka HH8 HG8 HP8
            go_wp2_with (fail)
            refine HSm.out.mono ?_
            rintro e10 w10 ⟨rfl, hB10⟩
            have HH10 := hide (HH9.out.on hB10)
            have HG10 := hide (HG9.out.on hB10)
            have HP10 := hide (HP9.out.on hB10)
            have HWe := hide (word1_any sb n cap AA CC kk u S hn1 (by omega) w10 HH10.out.s)
            have hkb := HH10.out.r.ka
            clear hB10 HSm HH9 HG9 HP9
            go_wp2_with (fail)
            refine HWe.out.mono ?_
            rintro e11 w11 ⟨g11, c11, rfl, hG11, hB11⟩
            have HH11 := hide (HH10.out.on hB11)
            have HG11 := hide (HG10.out.on hB11)
            have HP11 := hide (HP10.out.on hB11)
            have HSn := hide (same_any g11 pb n c11 n (fun v => S v 1) (by omega) w11 hG11 HP11.out)
            clear hG11 hB11 HWe hkb HH10 HG10 HP10
            go_wp2_with (fail)
            refine HSn.out.mono ?_
            rintro e12 w12 ⟨rfl, hB12⟩
            have HH12 := hide (HH11.out.on hB12)
            have HG12 := hide (HG11.out.on hB12)
            have HLl := hide (levelled_any lb n n AA (fun v => S v 0) (fun i => fs (gB (n : Int) Q) S i 0) (fun i => fs (gB (n : Int) Q) S i 1) (by omega) rfl rfl (fun i _ e => (fsB _ _ S i).1 e) (fun i _ e => (fsB _ _ S i).2 e) (fun i hi => by have := fs_br n Q S i; exact ⟨this.1, by omega⟩) (HAd.out _ rfl).1 (HAd.out _ rfl).2 w12 HG12.out)
            have hkc := HH12.out.r.ka
            clear hB12 HSn HH11 HG11 HP11
            go_wp2_with (fail)
            refine HLl.out.mono ?_
            rintro e13 w13 ⟨rfl, hB13⟩
            have HT := hide (HH12.out.on hB13).t
            clear hB13 HLl HH12 HG12 hkc
            go_wp2
            all_goals go_ret
            all_goals first | exact ⟨rfl, HT.out⟩ | exact ⟨ret_bool (by simp), HT.out⟩
end Wp
end Go.Proofs.Ytlhpnhjfibkgpab
