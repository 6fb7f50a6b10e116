import Derived.Test.YtlkipgpfjpmliaaFmD
import Derived.Deep.RegionWith
namespace Go.Proofs.Ytlkipgpfjpmliaa
namespace Ft
open Go.RowKit
set_option linter.unusedVariables false
set_option maxRecDepth 8000
set_option maxHeartbeats 4000000 in
theorem law_FmX2 (n s k : Int) (a : Option Addr) (c : Nat) (L : List Int) (w : World) (hr : Row w a L) (hn : a = none → c = 0) (h63 : L.length ≤ 35184372088832) (hz : sz n = false) : Calls Try.prog 5 #[.int .u32 n, .int .u32 s, .int .i64 k, .slice a L.length c] w fun e w' => e = .returned (.bool true) ∧ Below w.heap.size w w' := by
  have HZ : Hid (sz n = false) := hz
  have HO : Hid (lv n [s] = 2) := lv_no _ hz
  have HM : Hid (lv n L = 2) := lv_no _ hz
  have HS : Hid (se n s k = 2) := se_no hz
  have z0 : ¬ (1 ≤ n ∧ n ≤ 2147483647) := by intro h; simp [sz] at hz; omega
  clear hz
  have HR := hide hr
  have HN := hide hn
  have H63 := hide h63
  have HB := hide (bfs_any n s)
  have HC := hide (wcc_any n)
  have HD := hide (sssp_any n s k)
  have hp1 := ptr_some
  have hp0 := ptr_none
  have HU := hide (num_any)
  rw [HO.out] at HB
  rw [HS.out] at HD
  have hlb : L.length ≤ 9223372036854775807 := by omega
  clear hr hn h63
  rw [if_neg (by simp [HZ.out])] at HC
  obtain ⟨len, hlen⟩ : ∃ len, L.length = len := ⟨_, rfl⟩
  have HLn := hide hlen
  rw [hlen] at hlb ⊢
  clear hlen
  rcases Int.lt_or_le n 1 with z1 | z1
  · go_enter Try.func5, Try.ntmps5
    go_wp2
    go_loop [11, 12] (fun v i => ∃ q : Nat, q ≤ len ∧ i = .int .i64 q ∧ v = .int .i64 2) (fun _ i => len - (intOf i).toNat)
    case atStart => exact ⟨0, Nat.zero_le _, rfl, rfl⟩
    case round =>
      obtain ⟨q, hq, rfl, rfl⟩ := hrel
      by_cases hlt : q < len
      · obtain ⟨x, rfl, hx, hcell⟩ := HR.out (by rw [HLn.out]; omega)
        obtain ⟨e, he⟩ : ∃ e, L[q]? = some e := ⟨L[q]'(by rw [HLn.out]; exact hlt), List.getElem?_eq_getElem _⟩
        have hcx := hcell q e he
        have HEE := hide he
        clear hcell he
        go_wp2
        exact ⟨⟨q + 1, by omega, by go_num, rfl⟩, by simp [intOf]; omega⟩
      · have hqq : q = len := by omega
        subst hqq
        go_wp2_with (fail)
        refine (HB.out _).mono ?_
        rintro e1 w1 ⟨p1, rfl, -, hy1, hB1⟩
        obtain rfl := hy1 (by decide)
        clear hy1
        have B1 := hide hB1
        have HS2 := hide (app_next hB1 HR.out HN.out)
        have HOW := hide (comp_own w1 w1.heap.size (Nat.le_refl _))
        rw [HLn.out] at HS2
        clear hB1
        go_wp2_with (first | (go_at_call 15; refine (HU.out _ _).mono ?_; rintro e9 w9 ⟨rfl, hw9⟩; subst w9) | (refine wpList_append_src rfl _ _ rfl w1.heap.size _ _ 0 q [] (us L) rfl HOW.out rfl HS2.out (by have := H63.out; rw [HLn.out] at this; omega) (by simp) ?_))
        rintro v2 w2 g1 g2 g3
        have hU : UL w2 w1.heap.size v2 L := by unfold UL; rw [HLn.out]; simpa using g1
        obtain ⟨b2, c2', rfl, hR2, hN2⟩ := hU.row
        rw [HLn.out]
        have B2 := hide (app_below B1.out g2)
        have HRE := hide (reach_any n b2 c2' L w2 hR2 hN2 H63.out)
        rw [HM.out, HLn.out] at HRE
        clear g1 g2 g3 hU hR2 hN2
        go_wp2_with (fail)
        refine HRE.out.mono ?_
        rintro e3 w3 ⟨p3, rfl, -, hy3, hB3⟩
        obtain rfl := hy3 (by decide)
        clear hy3
        have B3 := hide (B2.out.trans (hB3.mono B2.out.size))
        clear hB3
        go_wp2_with (go_at_call 15; refine (HU.out _ _).mono ?_; rintro e9 w9 ⟨rfl, hw9⟩; subst w9)
        refine (HC.out _).mono ?_
        rintro e4 w4 ⟨p4, rfl, -, hy4, hB4⟩
        obtain rfl := hy4 (by decide)
        clear hy4
        have B4 := hide (B3.out.trans (hB4.mono B3.out.size))
        clear hB4
        go_wp2_with (go_at_call 15; refine (HU.out _ _).mono ?_; rintro e9 w9 ⟨rfl, hw9⟩; subst w9)
        refine (HD.out _).mono ?_
        rintro e5 w5 ⟨p5, rfl, -, hy5, hB5⟩
        obtain rfl := hy5 (by decide)
        clear hy5
        have B5 := hide (B4.out.trans (hB5.mono B4.out.size))
        clear hB5
        go_wp2_with (go_at_call 15; refine (HU.out _ _).mono ?_; rintro e9 w9 ⟨rfl, hw9⟩; subst w9)
        all_goals go_ret
        all_goals exact ⟨rfl, B5.out⟩
  · have z2 : 2147483647 < n := by omega
    go_enter Try.func5, Try.ntmps5
    go_wp2
    go_loop [11, 12] (fun v i => ∃ q : Nat, q ≤ len ∧ i = .int .i64 q ∧ v = .int .i64 2) (fun _ i => len - (intOf i).toNat)
    case atStart => exact ⟨0, Nat.zero_le _, rfl, rfl⟩
    case round =>
      obtain ⟨q, hq, rfl, rfl⟩ := hrel
      by_cases hlt : q < len
      · obtain ⟨x, rfl, hx, hcell⟩ := HR.out (by rw [HLn.out]; omega)
        obtain ⟨e, he⟩ : ∃ e, L[q]? = some e := ⟨L[q]'(by rw [HLn.out]; exact hlt), List.getElem?_eq_getElem _⟩
        have hcx := hcell q e he
        have HEE := hide he
        clear hcell he
        go_wp2
        exact ⟨⟨q + 1, by omega, by go_num, rfl⟩, by simp [intOf]; omega⟩
      · have hqq : q = len := by omega
        subst hqq
        go_wp2_with (fail)
        refine (HB.out _).mono ?_
        rintro e1 w1 ⟨p1, rfl, -, hy1, hB1⟩
        obtain rfl := hy1 (by decide)
        clear hy1
        have B1 := hide hB1
        have HS2 := hide (app_next hB1 HR.out HN.out)
        have HOW := hide (comp_own w1 w1.heap.size (Nat.le_refl _))
        rw [HLn.out] at HS2
        clear hB1
        go_wp2_with (first | (go_at_call 15; refine (HU.out _ _).mono ?_; rintro e9 w9 ⟨rfl, hw9⟩; subst w9) | (refine wpList_append_src rfl _ _ rfl w1.heap.size _ _ 0 q [] (us L) rfl HOW.out rfl HS2.out (by have := H63.out; rw [HLn.out] at this; omega) (by simp) ?_))
        rintro v2 w2 g1 g2 g3
        have hU : UL w2 w1.heap.size v2 L := by unfold UL; rw [HLn.out]; simpa using g1
        obtain ⟨b2, c2', rfl, hR2, hN2⟩ := hU.row
        rw [HLn.out]
        have B2 := hide (app_below B1.out g2)
        have HRE := hide (reach_any n b2 c2' L w2 hR2 hN2 H63.out)
        rw [HM.out, HLn.out] at HRE
        clear g1 g2 g3 hU hR2 hN2
        go_wp2_with (fail)
        refine HRE.out.mono ?_
        rintro e3 w3 ⟨p3, rfl, -, hy3, hB3⟩
        obtain rfl := hy3 (by decide)
        clear hy3
        have B3 := hide (B2.out.trans (hB3.mono B2.out.size))
        clear hB3
        go_wp2_with (go_at_call 15; refine (HU.out _ _).mono ?_; rintro e9 w9 ⟨rfl, hw9⟩; subst w9)
        refine (HC.out _).mono ?_
        rintro e4 w4 ⟨p4, rfl, -, hy4, hB4⟩
        obtain rfl := hy4 (by decide)
        clear hy4
        have B4 := hide (B3.out.trans (hB4.mono B3.out.size))
        clear hB4
        go_wp2_with (go_at_call 15; refine (HU.out _ _).mono ?_; rintro e9 w9 ⟨rfl, hw9⟩; subst w9)
        refine (HD.out _).mono ?_
        rintro e5 w5 ⟨p5, rfl, -, hy5, hB5⟩
        obtain rfl := hy5 (by decide)
        clear hy5
        have B5 := hide (B4.out.trans (hB5.mono B4.out.size))
        clear hB5
        go_wp2_with (go_at_call 15; refine (HU.out _ _).mono ?_; rintro e9 w9 ⟨rfl, hw9⟩; subst w9)
        all_goals go_ret
        all_goals exact ⟨rfl, B5.out⟩
end Ft
end Go.Proofs.Ytlkipgpfjpmliaa
