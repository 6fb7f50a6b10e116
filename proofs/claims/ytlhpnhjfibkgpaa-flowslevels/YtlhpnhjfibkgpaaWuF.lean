import Derived.Test.YtlhpnhjfibkgpaaWuD
import Derived.Test.YtlhpnhjfibkgpaaWuE
import Derived.Test.YtlhpnhjfibkgpaaWrD
namespace Go.Proofs.Ytlhpnhjfibkgpaa
namespace Wp
open Go.RowKit
set_option linter.unusedVariables false
set_option maxRecDepth 8000
theorem fsB (n s : Int) (S : Nat → Nat → Int) (i : Nat) : (S i 0 = 18446744073709551615 → fs (gB n s) S (i + 1) 0 = fs (gB n s) S i 0 ∧ fs (gB n s) S (i + 1) 1 = fs (gB n s) S i 1) ∧ (S i 0 ≠ 18446744073709551615 → fs (gB n s) S (i + 1) 0 = fs (gB n s) S i 0 + 1 ∧ fs (gB n s) S (i + 1) 1 = max (fs (gB n s) S i 1) (S i 0)) := by
  refine ⟨fun e => ?_, fun e => ?_⟩
  · show brFo (fs (gB n s) S i) (S i) 0 = _ ∧ brFo (fs (gB n s) S i) (S i) 1 = _
    unfold brFo
    rw [if_pos e]
    exact ⟨rfl, rfl⟩
  · show brFo (fs (gB n s) S i) (S i) 0 = _ ∧ brFo (fs (gB n s) S i) (S i) 1 = _
    unfold brFo
    rw [if_neg e, up_ne _ _ _ _ (by decide), up_eq, up_eq]
    exact ⟨rfl, rfl⟩
set_option maxHeartbeats 4000000 in
theorem flevels_any (N src : Int) (hs0 : 0 ≤ src) (a : Option Addr) (m c : Nat) (E : Nat → Int × Int × Int) (hm : m ≤ 11728124029610) (w : World) (hr : IRow w a m E) (hE : ∀ i, i < m → 0 ≤ (E i).1 ∧ 0 ≤ (E i).2.1) :
    Calls Try.prog 8 #[.agg #[.int .i64 N, .slice a m c], .int .u32 src] w fun e w' => e = .returned (.bool true) ∧ Below w.heap.size w w' := by
  have HSz := hide (size_any N (.slice a m c))
  have HX : Hid (Below w.heap.size w ((w.alloc (.cells #[.int .i64 N, .slice a m c] 24)).alloc (.cells #[.int .i64 N, .slice a m c] 24))) := by repeat first | exact Below.refl _ _ | refine bA ?_ (by first | exact Nat.le_refl _ | (simp only [World.size_alloc]; omega)) _
  have HL := hide (list_any N a m c E hm _ (hr.on HX.out) hE)
  have HI := hide (le1_in N m E)
  obtain ⟨E1, hE1⟩ : ∃ E1, le1 N E = E1 := ⟨_, rfl⟩
  rw [hE1] at HL HI
  have hn1 := (gz_b N).1
  have hn2 := (gz_b N).2
  have hq0 : ¬ gz N = 0 := by omega
  have ht : src.tmod (gz N : Int) = ((src % (gz N : Int)).toNat : Nat) := by rw [Int.tmod_eq_emod_of_nonneg hs0]; have := Int.emod_nonneg src (show (gz N : Int) ≠ 0 by omega); omega
  have hsn : (src % (gz N : Int)).toNat < gz N := by have := Int.emod_lt_of_pos src (show (0 : Int) < gz N by omega); have := Int.emod_nonneg src (show (gz N : Int) ≠ 0 by omega); omega
  generalize (src % (gz N : Int)).toNat = s at *
  obtain ⟨R, hR, hFi, hWc⟩ := bfs_end (gz N) m s E1 (by omega) hsn HI.out
  generalize gz N = n at *
  have hcv := convn n hn2
  have HRn := hide hR
  have HFi := hide hFi
  have HWc := hide hWc
  have HWm := hide (bfs_any (n : Int) (s : Int) (by omega) (by omega) (by omega))
  clear hr hE hE1 hR hFi hWc
  go_enter Try.func8, Try.ntmps8
  go_wp2_with (fail)
  refine (HSz.out _).mono ?_
  rintro e1 w1 ⟨rfl, hw1⟩
  subst w1
  go_wp2_with (fail)
  refine HL.out.mono ?_
  rintro e2 w2 ⟨a', c', rfl, hE2, hB2⟩
  have HE2 := hide hE2
  have HB2 : Hid (Below w.heap.size w w2) := HX.out.trans (hB2.mono HX.out.size)
  clear hE2 hB2 HL HX HSz
  go_wp2_with (fail)
  refine (HWm.out _).mono ?_
  rintro e3 w3 ⟨fb, qb, qc, rfl, hfb, hF3, hB3'⟩
  have HF3 := hide hF3
  have HY : Hid (Below w2.heap.size w2 w3) := hB3'
  have HP := hide (play_any (gB (n : Int) (s : Int)) fb n m c' R a' E1 (n : Int) hn1 (by omega) (by omega) (by show 3 ≤ 8; decide) (by have := HRn.out; omega) (by have := HRn.out; omega) w3 (obB (n : Int) (s : Int) (by omega) (by omega) qb qc fb w3.heap.size w3 HF3.out HF3.out.1 HF3.out.2.2.1) (fun W hB => sane_B (n : Int) (s : Int) qb qc fb W (HF3.out.on hB)) (HE2.out.on HY.out) HI.out HFi.out)
  clear hfb hF3 hB3'
  go_wp2_with (fail)
  refine HP.out.mono ?_
  rintro e4 w4 ⟨sb, cap, u, rfl, hsb, hS4, hB4⟩
  obtain ⟨S, hS⟩ : ∃ S, (rn (gB (n : Int) (s : Int)) E1 m n (R + 1)).2 = S := ⟨_, rfl⟩
  rw [hS] at hS4 HWc
  rw [hS]
  obtain ⟨CC, hCC⟩ : ∃ CC, (rn (gB (n : Int) (s : Int)) E1 m n (R + 1)).1 = CC := ⟨_, rfl⟩
  rw [hCC]
  obtain ⟨AA, hAA⟩ : ∃ AA, fs (gB (n : Int) (s : Int)) S n = AA := ⟨_, rfl⟩
  rw [hAA]
  obtain ⟨kk, hkk⟩ : ∃ kk, (R : Int) + 1 = kk := ⟨_, rfl⟩
  rw [hkk]
  have HF : Hid (Bfs n m s E1 (fun v => S v 0) (fun v => S v 1)) := HWc.out
  have HB3 : Hid (Below w.heap.size w w3) := HB2.out.trans (HY.out.mono HB2.out.size)
  have HB4 : Hid (Below w.heap.size w w4) := HB3.out.trans (hB4.mono HB3.out.size)
  have HS4 := hide hS4
  have HE4 : Hid (ERow w4 a' m E1) := (HE2.out.on HY.out).on hB4
  have HZ5 : Hid (Below w4.heap.size w4 (w4.alloc (.cells (rc (.slice (some ⟨sb, 0, none⟩) n cap) AA CC kk u) 39))) := b1 _ _ _
  have HH : Hid (Ho N w4.heap.size sb n cap m a' E1 S AA CC kk u w (w4.alloc (.cells (rc (.slice (some ⟨sb, 0, none⟩) n cap) AA CC kk u) 39))) := ⟨at0 _ _, HS4.out.on HZ5.out, HE4.out.on HZ5.out, HB4.out.trans (HZ5.out.mono HB4.out.size)⟩
  have HAd : Hid (∀ C0, C0 = fs (gB (n : Int) (s : Int)) S → AA 0 = C0 n 0 ∧ AA 1 = C0 n 1) := fun C0 e => by subst e; rw [← hAA]; exact ⟨rfl, rfl⟩
  have HFB5 : Hid (FB (n : Int) (s : Int) qb qc fb (w4.alloc (.cells (rc (.slice (some ⟨sb, 0, none⟩) n cap) AA CC kk u) 39))) := (HF3.out.on hB4).on HZ5.out
  clear hS hCC hAA hkk hsb hS4 hB4 HP HWc HFi HRn HE2 HF3 HY HB2 HB3 HB4 HS4 HE4 HZ5
  go_wp2_with (fail)
  generalize w4.alloc (.cells (rc (.slice (some ⟨sb, 0, none⟩) n cap) AA CC kk u) 39) = w5 at *
  generalize w4.heap.size = rb at *
  have HRb := hide (rbfs_any n m s c' a' E1 (fun v => S v 0) (fun v => S v 1) hn2 hm hsn w5 HH.out.e HI.out HF.out)
  refine HRb.out.mono ?_
  rintro e6 w6 ⟨lb, pb, rfl, hG6, hP6, hB6⟩
  have HG6 := hide hG6
  have HP6 := hide hP6
  have HH6 := hide (HH.out.on hB6)
  have HF6 := hide (HFB5.out.on hB6)
  clear hG6 hP6 hB6 HRb HH HFB5
  go_wp2_with (fail)
  refine (num_any _ _).mono ?_
  rintro e7 w7 ⟨rfl, hw7⟩
  subst w7
  have HBo := hide (both_B (n : Int) (s : Int) qb qc fb w6 HF6.out)
  go_wp2_with (fail)
  refine HBo.out.mono ?_
  rintro e8 w8 ⟨rfl, hw8⟩
  have HH8 := hide (HH6.out.on hw8)
  have HG8 := hide (HG6.out.on hw8)
  have HP8 := hide (HP6.out.on hw8)
  have HWd := hide (word_any sb n cap AA CC kk u S hn1 (by omega) w8 HH8.out.s)
  have hka := HH8.out.r.ka
  clear hw8 HBo HH6 HG6 HP6 HF6
  go_wp2_with (fail)
  refine HWd.out.mono ?_
  rintro e9 w9 ⟨g9, c9, rfl, hG9, hB9⟩
  have HH9 := hide (HH8.out.on hB9)
  have HG9 := hide (HG8.out.on hB9)
  have HP9 := hide (HP8.out.on hB9)
  have HSm := hide (same_any g9 lb n c9 n (fun v => S v 0) (by omega) w9 hG9 HG9.out)
  clear hG9 hB9 HWd hka HH8 HG8 HP8
  go_wp2_with (fail)
  refine HSm.out.mono ?_
  rintro e10 w10 ⟨rfl, hB10⟩
  have HH10 := hide (HH9.out.on hB10)
  have HG10 := hide (HG9.out.on hB10)
  have HP10 := hide (HP9.out.on hB10)
  have HWe := hide (word1_any sb n cap AA CC kk u S hn1 (by omega) w10 HH10.out.s)
  have hkb := HH10.out.r.ka
  clear hB10 HSm HH9 HG9 HP9
  go_wp2_with (fail)
  refine HWe.out.mono ?_
  rintro e11 w11 ⟨g11, c11, rfl, hG11, hB11⟩
  have HH11 := hide (HH10.out.on hB11)
  have HG11 := hide (HG10.out.on hB11)
  have HP11 := hide (HP10.out.on hB11)
  have HSn := hide (same_any g11 pb n c11 n (fun v => S v 1) (by omega) w11 hG11 HP11.out)
  clear hG11 hB11 HWe hkb HH10 HG10 HP10
  go_wp2_with (fail)
  refine HSn.out.mono ?_
  rintro e12 w12 ⟨rfl, hB12⟩
  have HH12 := hide (HH11.out.on hB12)
  have HG12 := hide (HG11.out.on hB12)
  have HLl := hide (levelled_any lb n n AA (fun v => S v 0) (fun i => fs (gB (n : Int) (s : Int)) S i 0) (fun i => fs (gB (n : Int) (s : Int)) S i 1) (by omega) rfl rfl (fun i _ e => (fsB _ _ S i).1 e) (fun i _ e => (fsB _ _ S i).2 e) (fun i hi => by have := fs_br n s S i; exact ⟨this.1, by omega⟩) (HAd.out _ rfl).1 (HAd.out _ rfl).2 w12 HG12.out)
  have hkc := HH12.out.r.ka
  clear hB12 HSn HH11 HG11 HP11
  go_wp2_with (fail)
  refine HLl.out.mono ?_
  rintro e13 w13 ⟨rfl, hB13⟩
  have HT := hide (HH12.out.on hB13).t
  clear hB13 HLl HH12 HG12 hkc
  go_wp2
  all_goals go_ret
  all_goals first | exact ⟨rfl, HT.out⟩ | exact ⟨ret_bool (by simp), HT.out⟩
end Wp
end Go.Proofs.Ytlhpnhjfibkgpaa
