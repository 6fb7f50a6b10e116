import Derived.Test.YtlhpnhjfibkgpaaWsC
namespace Go.Proofs.Ytlhpnhjfibkgpaa
namespace Wp
open Go.RowKit
set_option linter.unusedVariables false
set_option maxRecDepth 8000
theorem fs_own (n : Int) (S : Nat → Nat → Int) (v : Nat) : fs (gL n) S v 0 = (own v (fun v => S v 0) : Nat) := by
  induction v with
  | zero => rfl
  | succ v ih =>
    show labFo (fs (gL n) S v) v (S v) 0 = _
    rw [own_succ']
    unfold labFo
    split
    · rw [up_eq, ih]; push_cast; rfl
    · rw [ih]; rfl
set_option maxHeartbeats 4000000 in
theorem joins_any (N : Int) (a : Option Addr) (m c : Nat) (E : Nat → Int × Int × Int) (hm : m ≤ 11728124029610) (w : World) (hr : IRow w a m E) (hE : ∀ i, i < m → 0 ≤ (E i).1 ∧ 0 ≤ (E i).2.1) :
    Calls Try.prog 4 #[.agg #[.int .i64 N, .slice a m c]] w fun e w' => e = .returned (.bool true) ∧ Below w.heap.size w w' := by
  have HSz := hide (size_any N (.slice a m c))
  have HX : Hid (Below w.heap.size w ((w.alloc (.cells #[.int .i64 N, .slice a m c] 24)).alloc (.cells #[.int .i64 N, .slice a m c] 24))) := by repeat first | exact Below.refl _ _ | refine bA ?_ (by first | exact Nat.le_refl _ | (simp only [World.size_alloc]; omega)) _
  have HL := hide (list_any N a m c E hm _ (hr.on HX.out) hE)
  have HI := hide (le1_in N m E)
  obtain ⟨E1, hE1⟩ : ∃ E1, le1 N E = E1 := ⟨_, rfl⟩
  rw [hE1] at HL HI
  have hn1 := (gz_b N).1
  have hn2 := (gz_b N).2
  obtain ⟨R, hR, hFi, hWc⟩ := wcc_end (gz N) m E1 hn1 (by omega) HI.out
  generalize gz N = n at *
  have hcv := convn n hn2
  have HRn := hide hR
  have HFi := hide hFi
  have HWc := hide hWc
  have HWm := hide (wcc_any (n : Int) (by omega) (by omega))
  clear hr hE hE1 hR hFi hWc
  go_enter Try.func4, Try.ntmps4
  go_wp2_with (fail)
  refine (HSz.out _).mono ?_
  rintro e1 w1 ⟨rfl, hw1⟩
  subst w1
  go_wp2_with (fail)
  refine HL.out.mono ?_
  rintro e2 w2 ⟨a', c', rfl, hE2, hB2⟩
  have HE2 := hide hE2
  have HB2 : Hid (Below w.heap.size w w2) := HX.out.trans (hB2.mono HX.out.size)
  clear hE2 hB2 HL HX HSz
  go_wp2_with (fail)
  refine (HWm.out _).mono ?_
  rintro e3 w3 ⟨rfl, hw3⟩
  have HF3 : Hid (FL (n : Int) w2.heap.size w3) := by rw [hw3]; exact fl_new _ _
  have HY : Hid (Below w2.heap.size w2 w3) := by rw [hw3]; exact b1 _ _ _
  have HP := hide (play_any (gL (n : Int)) w2.heap.size n m c' R a' E1 (n : Int) hn1 (by omega) (by omega) (by show 3 ≤ 8; decide) (by have := HRn.out; omega) (by have := HRn.out; omega) w3 (obL (n : Int) (by omega) (by omega) w2.heap.size w3.heap.size w3 HF3.out HF3.out.1) (fun W hB => sane_L (n : Int) w2.heap.size W (HF3.out.on hB)) (HE2.out.on HY.out) HI.out HFi.out)
  clear hw3
  go_wp2_with (fail)
  refine HP.out.mono ?_
  rintro e4 w4 ⟨sb, cap, u, rfl, hsb, hS4, hB4⟩
  obtain ⟨S, hS⟩ : ∃ S, (rn (gL (n : Int)) E1 m n (R + 1)).2 = S := ⟨_, rfl⟩
  rw [hS] at hS4 HWc
  rw [hS]
  obtain ⟨CC, hCC⟩ : ∃ CC, (rn (gL (n : Int)) E1 m n (R + 1)).1 = CC := ⟨_, rfl⟩
  rw [hCC]
  obtain ⟨AA, hAA⟩ : ∃ AA, fs (gL (n : Int)) S n = AA := ⟨_, rfl⟩
  rw [hAA]
  obtain ⟨kk, hkk⟩ : ∃ kk, (R : Int) + 1 = kk := ⟨_, rfl⟩
  rw [hkk]
  have HF : Hid (Wcc n m E1 (fun v => S v 0)) := HWc.out
  have HB3 : Hid (Below w.heap.size w w3) := HB2.out.trans (HY.out.mono HB2.out.size)
  have HB4 : Hid (Below w.heap.size w w4) := HB3.out.trans (hB4.mono HB3.out.size)
  have HS4 := hide hS4
  have HE4 : Hid (ERow w4 a' m E1) := (HE2.out.on HY.out).on hB4
  have HZ5 : Hid (Below w4.heap.size w4 (w4.alloc (.cells (rc (.slice (some ⟨sb, 0, none⟩) n cap) AA CC kk u) 39))) := b1 _ _ _
  have HH : Hid (Ho N w4.heap.size sb n cap m a' E1 S AA CC kk u w (w4.alloc (.cells (rc (.slice (some ⟨sb, 0, none⟩) n cap) AA CC kk u) 39))) := ⟨at0 _ _, HS4.out.on HZ5.out, HE4.out.on HZ5.out, HB4.out.trans (HZ5.out.mono HB4.out.size)⟩
  have HAw : Hid (AA 0 = (own n (fun v => S v 0) : Nat)) := by
    show _ = _
    rw [← hAA]; exact fs_own _ _ _
  have HOle : Hid (own n (fun v => S v 0) ≤ n) := own_le _ _
  have HF5 : Hid (FL (n : Int) w2.heap.size (w4.alloc (.cells (rc (.slice (some ⟨sb, 0, none⟩) n cap) AA CC kk u) 39))) := (HF3.out.on hB4).on HZ5.out
  clear hS hCC hAA hkk hsb hS4 hB4 HP HWc HFi HRn HE2 HF3 HY HB2 HB3 HB4 HS4 HE4 HZ5
  go_wp2_with (fail)
  generalize w4.alloc (.cells (rc (.slice (some ⟨sb, 0, none⟩) n cap) AA CC kk u) 39) = w5 at *
  generalize w4.heap.size = rb at *
  have HRw := hide (rwcc_any n m c' a' E1 (fun v => S v 0) hn2 (by omega) w5 HH.out.e HI.out HF.out)
  refine HRw.out.mono ?_
  rintro e6 w6 ⟨rfl, hG6, hB6⟩
  have HG6 := hide hG6
  have HH6 := hide (HH.out.on hB6)
  have HF6 := hide (HF5.out.on hB6)
  generalize w5.heap.size = lb at *
  clear hG6 hB6 HRw HH HF5
  go_wp2_with (fail)
  go_loop [10, 11] (fun ro v => ∃ j : Nat, j ≤ n ∧ v = .int .i64 j ∧ ro = .int .u64 (own j (fun v => S v 0) : Int)) (fun _ v => n - (intOf v).toNat)
  case atStart => exact ⟨0, Nat.zero_le _, rfl, rfl⟩
  case round =>
    obtain ⟨j, hj, rfl, rfl⟩ := hrel
    by_cases cc : j < n
    · have hc := HG6.out.cell j cc
      have hwj : IntKind.u64.wrap (j : Int) = j := wu _ (by omega) (by omega)
      have HOj : Hid (own j (fun v => S v 0) ≤ j) := own_le _ _
      by_cases e : S j 0 = (j : Int)
      · have hb : (S j 0 == (j : Int)) = true := by rw [e]; simp
        have hO2 : Hid (own (j + 1) (fun v => S v 0) = own j (fun v => S v 0) + 1) := by show _ = _; rw [own_succ', if_pos e]
        have hwo : IntKind.u64.wrap ((own j (fun v => S v 0) : Int) + 1) = (own j (fun v => S v 0) : Int) + 1 := wu _ (by omega) (by have := HOj.out; omega)
        clear e
        go_wp2
        all_goals exact ⟨⟨j + 1, cc, by go_num, by rw [hO2.out]; push_cast; rfl⟩, by simp [intOf]; omega⟩
      · have hb : (S j 0 == (j : Int)) = false := by simp [e]
        have hO2 : Hid (own (j + 1) (fun v => S v 0) = own j (fun v => S v 0)) := by show _ = _; rw [own_succ', if_neg e]; rfl
        clear e
        go_wp2
        all_goals exact ⟨⟨j + 1, cc, by go_num, by rw [hO2.out]⟩, by simp [intOf]; omega⟩
    · have hjn : n = j := by omega
      subst hjn
      clear cc hj
      go_wp2_with (fail)
      refine (num_any _ _).mono ?_
      rintro e7 w7 ⟨rfl, hw7⟩
      subst w7
      have HBo := hide (both_L (n : Int) w2.heap.size w6 HF6.out)
      go_wp2_with (fail)
      refine HBo.out.mono ?_
      rintro e8 w8 ⟨rfl, hw8⟩
      have HH8 := hide (HH6.out.on hw8)
      have HG8 := hide (HG6.out.on hw8)
      have HWd := hide (word_any sb n cap AA CC kk u S hn1 (by omega) w8 HH8.out.s)
      have hka := HH8.out.r.ka
      clear hw8 HBo HH6 HG6 HF6
      go_wp2_with (fail)
      refine HWd.out.mono ?_
      rintro e9 w9 ⟨g9, c9, rfl, hG9, hB9⟩
      have HH9 := hide (HH8.out.on hB9)
      have HL9 := hide (HG8.out.on hB9)
      have HSm := hide (same_any g9 lb n c9 n (fun v => S v 0) (by omega) w9 hG9 HL9.out)
      clear hG9 hB9 HWd hka HH8 HG8
      go_wp2_with (fail)
      refine HSm.out.mono ?_
      rintro e10 w10 ⟨rfl, hB10⟩
      have HH10 := hide (HH9.out.on hB10)
      have hA := HH10.out.r.kr.2.1.1
      rw [HAw.out] at hA
      clear hB10 HSm HH9 HL9
      go_wp2
      all_goals go_ret
      all_goals first | exact ⟨rfl, HH10.out.t⟩ | exact ⟨ret_bool (by simp), HH10.out.t⟩
end Wp
end Go.Proofs.Ytlhpnhjfibkgpaa
