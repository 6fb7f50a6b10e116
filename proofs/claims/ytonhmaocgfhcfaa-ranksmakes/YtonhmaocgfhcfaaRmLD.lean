import Derived.Test.YtonhmaocgfhcfaaRmA
namespace Go.Proofs.Ytonhmaocgfhcfaa
namespace Rn
open Go.RowKit
set_option linter.unusedVariables false
set_option maxRecDepth 8000
set_option maxHeartbeats 4000000 in
theorem law_r0b (n d r k : Int) (hd0 : 0 ≤ d) (hd1 : d < 4294967296) (hn : 1 ≤ n) (hn2 : n ≤ 2147483647) (hr : r < 1) (hk : 3 < k) (w : World) : Calls Try.prog 4 #[.int .u32 n, .int .u32 d, .int .i64 r, .int .i64 k] w fun e w' => e = .returned (.bool true) ∧ Below w.heap.size w w' := by
  have H1 := hide (page_any n d r hd0 hd1)
  have H2 := hide (hyper_any n r 1)
  have H3 := hide (cond_any n 1)
  have H4 := hide (spmv_any n k 1)
  have HD := hide (damp_any d)
  have HU := hide num_x
  have hps := ptr_some
  have hpn := ptr_none
  have S : sz n = true := by unfold sz; simp; try omega
  have E1 : pgE n d r = 2 := by unfold pgE; simp only [S]; unfold pc; simp; try omega
  have E2 : hyE n r = 2 := by unfold hyE; simp only [S]; unfold pc; simp; try omega
  have E4 : spE n k = 2 := by unfold spE; simp only [S]; simp; try omega
  have E3 : (if sz n = true then (0 : Int) else 2) = 0 := by rw [S]; rfl
  rw [E1] at H1
  rw [E2] at H2
  rw [E3] at H3
  rw [E4] at H4
  have q0 : decide (n < 1) = false := by simp; try omega
  have q1 : decide (2147483647 < n) = false := by simp; try omega
  have q2 : decide (1 ≤ r) = false := by simp; try omega
  have q3 : decide (k < 1) = false := by simp; try omega
  have q4 : decide (3 < k) = true := by simp; try omega
  clear S E1 E2 E3 E4 hn hn2 hr hk
  go_enter Try.func4, Try.ntmps4
  go_wp2_with (first | (go_at_call 10; refine (HU.out _ _).mono ?_; rintro e9 w9 ⟨rfl, hw9⟩; subst w9) | (go_at_call 15; refine (HD.out _).mono ?_; rintro e9 w9 ⟨rfl, hw9⟩; subst w9))
  refine (H1.out _).mono ?_
  rintro e1 w1 ⟨p1, rfl, -, hx1, hB1⟩
  obtain rfl := hx1 (by decide)
  clear hx1
  have B1 := hide hB1
  clear hB1
  go_wp2_with (first | (go_at_call 10; refine (HU.out _ _).mono ?_; rintro e9 w9 ⟨rfl, hw9⟩; subst w9) | (go_at_call 15; refine (HD.out _).mono ?_; rintro e9 w9 ⟨rfl, hw9⟩; subst w9))
  refine (H2.out _).mono ?_
  rintro e2 w2 ⟨p2, rfl, -, hx2, hB2⟩
  obtain rfl := hx2 (by decide)
  clear hx2
  have B2 := hide (B1.out.trans (hB2.mono B1.out.size))
  clear hB2
  go_wp2_with (first | (go_at_call 10; refine (HU.out _ _).mono ?_; rintro e9 w9 ⟨rfl, hw9⟩; subst w9) | (go_at_call 15; refine (HD.out _).mono ?_; rintro e9 w9 ⟨rfl, hw9⟩; subst w9))
  refine (H3.out _).mono ?_
  rintro e3 w3 ⟨p3, rfl, hx3, -, hB3⟩
  obtain ⟨x3, rfl⟩ := hx3 rfl
  clear hx3
  have B3 := hide (B2.out.trans (hB3.mono B2.out.size))
  clear hB3
  go_wp2_with (first | (go_at_call 10; refine (HU.out _ _).mono ?_; rintro e9 w9 ⟨rfl, hw9⟩; subst w9) | (go_at_call 15; refine (HD.out _).mono ?_; rintro e9 w9 ⟨rfl, hw9⟩; subst w9))
  refine (H4.out _).mono ?_
  rintro e4 w4 ⟨p4, rfl, -, hx4, hB4⟩
  obtain rfl := hx4 (by decide)
  clear hx4
  have B4 := hide (B3.out.trans (hB4.mono B3.out.size))
  clear hB4
  go_wp2_with (first | (go_at_call 10; refine (HU.out _ _).mono ?_; rintro e9 w9 ⟨rfl, hw9⟩; subst w9) | (go_at_call 15; refine (HD.out _).mono ?_; rintro e9 w9 ⟨rfl, hw9⟩; subst w9))
  all_goals go_ret
  all_goals exact ⟨rfl, B4.out⟩
end Rn
end Go.Proofs.Ytonhmaocgfhcfaa
