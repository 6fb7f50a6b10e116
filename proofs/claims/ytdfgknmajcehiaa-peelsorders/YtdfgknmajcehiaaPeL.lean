import Derived.Test.YtdfgknmajcehiaaPeS
namespace Go.Proofs.Ytdfgknmajcehiaa
namespace Pe
open Go.RowKit
set_option linter.unusedVariables false
set_option maxRecDepth 8000
/-- Both sides answer the same order. -/
def RA (n sd : Nat) (R : Nat × Nat × Nat) (e : Int) : Prop :=
  (∀ w, Calls Try.prog 20 #[.int .u32 (n : Int), .int .u64 (sd : Int)] w fun e' w' => e' = .returned (.tuple #[.agg (rk R.1 R.2.1 R.2.2), .int .i64 e]) ∧ Below w.heap.size w w') ∧
  (∀ w, Calls Try.prog 21 #[.int .u32 (n : Int), .int .u64 (sd : Int)] w fun e' w' => e' = .returned (.tuple #[.agg (rk R.1 R.2.1 R.2.2), .int .i64 e]) ∧ Below w.heap.size w w')
theorem ra_any (n sd : Nat) (hs : sd < 18446744073709551616) : ∃ R e, RA n sd R e := by
  by_cases h : Sz n
  · obtain ⟨j, hj⟩ := fst_is n (sd / 4294967296 % n) (Nat.mod_lt _ (by have := h.1; omega))
    exact ⟨(n, j, sd % n), 0, fun w => rank_ok n sd j h hs hj w, fun w => rrank_ok n sd j h hs hj w⟩
  · refine ⟨(0, 0, 0), 2, fun w => rank_no n sd h w, fun w => ?_⟩
    by_cases h0 : n = 0
    · subst h0; exact rrank_no1 sd w
    · exact rrank_no2 n sd (by omega) (by unfold Sz at h; omega) w
theorem eq54 (x y z : Int) (w : World) : (Op.equalIn 10000 54 (.agg (rk x y z)) (.agg (rk x y z))).run Try.prog w = .ok true w := by
  have uU := Try.underlying32
  have aU := Try.isAgg32
  have zU := Try.sizeOf32
  rw [show (10000 : Nat) = 9999 + 1 from rfl, Op.equalIn]
  simp only [Sem.run_bind, run_underlying Try.underlying54, Result.andThen_ok]
  go_simp
abbrev BB (X W : World) : Prop := Below X.heap.size X W
abbrev S9 (b b3 b4 : Nat) (N A C x y z : Int) (W : World) : Prop := K3 b N A C W ∧ K3 b3 x y z W ∧ K3 b4 x y z W
set_option maxHeartbeats 4000000 in
theorem orders_any (N A C v n sd : Nat) (hN : N < 4294967296) (hA : A < 4294967296) (hs : sd < 18446744073709551616) (w : World) : Calls Try.prog 5 #[.agg (rk N A C), .int .u32 (v : Int), .int .u32 (n : Int), .int .u64 (sd : Int)] w fun e w' => e = .returned (.bool true) ∧ Below w.heap.size w w' := by
  obtain ⟨⟨R1, R2, R3⟩, re, H3', H4'⟩ := ra_any n sd hs
  have H1 := hide (place_any N A C v hN hA)
  have H2 := hide (rplace_any N A C v hN hA)
  have H3 := hide H3'
  have H4 := hide H4'
  have H5 := hide (check_any N A C hN hA)
  have H6 := hide (rcheck_any N A C hN hA)
  have HU := hide num_any
  have E3 := eq54
  clear H3' H4'
  generalize ck N A C = c0 at H5 H6
  generalize pe N A C v = e0 at H1 H2
  generalize pl N A C v = p0 at H1 H2
  have HB0 : Hid (Below w.heap.size w (w.alloc (.cells (rk N A C) 54))) := by repeat first | exact Below.refl _ _ | refine bA ?_ (by first | exact Nat.le_refl _ | (simp only [World.size_alloc]; omega)) _
  have HV : Hid (∀ W, Below (w.heap.size + 1) (w.alloc (.cells (rk N A C) 54)) W → K3 w.heap.size N A C W) := fun W hB => (k3 (t := 54) (at0 w (.cells (rk N A C) 54))).on hB (by omega)
  have HZ : Hid ((w.alloc (.cells (rk N A C) 54)).heap.size = w.heap.size + 1) := by show _ = _; simp only [World.size_alloc]
  go_enter Try.func5, Try.ntmps5
  go_wp2_with (fail)
  refine (H1.out _).mono ?_
  rintro e1 w1 ⟨rfl, hB1⟩
  rw [HZ.out] at hB1
  have A1 := hide hB1
  have S1 : Hid (w.heap.size + 1 ≤ w1.heap.size) := by have h := hB1.size; rw [HZ.out] at h; exact h
  have hv := HV.out _ A1.out
  clear hB1
  go_wp2_with (fail)
  refine (H2.out _).mono ?_
  rintro e2 w2 ⟨rfl, hB2⟩
  have A2 := hide (A1.out.trans (hB2.mono S1.out))
  have S2 : Hid (w.heap.size + 1 ≤ w2.heap.size) := Nat.le_trans S1.out hB2.size
  clear hv hB2
  have hv := HV.out _ A2.out
  go_wp2_with (fail)
  refine (H3.out _).mono ?_
  rintro e3 w3 ⟨rfl, hB3⟩
  have S3 : Hid (w.heap.size + 1 ≤ w3.heap.size) := Nat.le_trans S2.out hB3.size
  have A3 := hide (bA (A2.out.trans (hB3.mono S2.out)) S3.out (.cells (rk R1 R2 R3) 54))
  have Q3 := hide (at0 w3 (.cells (rk R1 R2 R3) 54))
  clear hv hB3
  have hv := HV.out _ A3.out
  go_wp2_with (fail)
  refine (H4.out _).mono ?_
  rintro e4 w4 ⟨rfl, hB4⟩
  have S4 : Hid (w3.heap.size + 1 ≤ w4.heap.size) := by have h := hB4.size; simp only [World.size_alloc] at h; exact h
  have A4 := hide (bA (A3.out.trans (hB4.mono (by simp only [World.size_alloc]; have := S3.out; omega))) (by have := S3.out; have := S4.out; omega) (.cells (rk R1 R2 R3) 54))
  have Q4 := hide (at0 w4 (.cells (rk R1 R2 R3) 54))
  have P4 := hide (keep (.cells (rk R1 R2 R3) 54) ((hB4.block w3.heap.size (by simp only [World.size_alloc]; omega)).trans Q3.out))
  clear hv hB4
  have hv := HV.out _ A4.out
  have f3 := k3 P4.out
  have f4 := k3 Q4.out
  have HSX : Hid (∀ W, BB (w4.alloc (.cells (rk R1 R2 R3) 54)) W → S9 w.heap.size w3.heap.size w4.heap.size N A C R1 R2 R3 W) := fun W hB =>
    have hz : (w4.alloc (.cells (rk R1 R2 R3) 54)).heap.size = w4.heap.size + 1 := by simp only [World.size_alloc]
    ⟨hv.on hB (by have := S3.out; have := S4.out; omega), f3.on hB (by have := S4.out; omega), f4.on hB (by omega)⟩
  have HBX : Hid (∀ W, BB (w4.alloc (.cells (rk R1 R2 R3) 54)) W → Below w.heap.size w W) := fun W hB => (HB0.out.trans (A4.out.mono (by omega))).trans (hB.mono (by simp only [World.size_alloc]; have := S3.out; have := S4.out; omega))
  have HT0 : Hid (∀ W, Below (w4.alloc (.cells (rk R1 R2 R3) 54)).drew.heap.size (w4.alloc (.cells (rk R1 R2 R3) 54)).drew W → BB (w4.alloc (.cells (rk R1 R2 R3) 54)) W) := fun W hB => (belowD (Below.refl _ _)).trans hB
  have HT1 : Hid (∀ W W', BB (w4.alloc (.cells (rk R1 R2 R3) 54)) W → Below W.heap.size W W' → BB (w4.alloc (.cells (rk R1 R2 R3) 54)) W') := fun W W' h hB => h.trans (hB.mono h.size)
  have HS0 : Hid (S9 w.heap.size w3.heap.size w4.heap.size N A C R1 R2 R3 (w4.alloc (.cells (rk R1 R2 R3) 54)).drew) := HSX.out _ (belowD (Below.refl _ _))
  clear H1 H2 H3 H4 A1 A2 A3 S1 S2 hv f3 f4 A4 S3 S4 Q3 Q4 P4
  go_wp2_with (fail)
  go_region_held3 (S9 w.heap.size w3.heap.size w4.heap.size N A C R1 R2 R3) ((first | with_reducible exact HS0.out | with_reducible exact HSX.out _ hw5.out | with_reducible exact HSX.out _ hw6.out)) ((first | (go_at_call 22; refine (H5.out _).mono ?_; rintro e5 w5 ⟨rfl, hw5'⟩; have hw5 := hide (HT0.out _ hw5'); clear hw5') | (go_at_call 14; refine (HU.out _ _).mono ?_; rintro e9 w9 ⟨rfl, hw9⟩; subst w9) | (go_at_call 23; refine (H6.out _).mono ?_; rintro e6 w6 ⟨rfl, hw6'⟩; have hw6 := hide (HT1.out _ _ hw5.out hw6'); clear hw6' hw5)))
  all_goals go_wp2
  all_goals go_ret
  all_goals exact ⟨rfl, HBX.out _ hw6.out⟩
end Pe
end Go.Proofs.Ytdfgknmajcehiaa
