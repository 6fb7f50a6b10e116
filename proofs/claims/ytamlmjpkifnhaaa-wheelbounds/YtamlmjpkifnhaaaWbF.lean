import Derived.Test.YtamlmjpkifnhaaaWbE
import Derived.Deep.RegionHeld3
namespace Go.Proofs.Ytamlmjpkifnhaaa
namespace Wb
open Go.RowKit
set_option linter.unusedVariables false
set_option maxRecDepth 8000
/-- The vertices of the greatest part. -/
def st (n p : Int) : Int := (n + p - 1) / p
noncomputable def n1 (s : ByteArray) (n k p e : Int) (o : ByteArray) (a f r c y q : Int) : Int := if rn s n k p e o a f r c y q = true then st n p * q + a else 0
noncomputable def n2 (s : ByteArray) (n k p e : Int) (o : ByteArray) (a f r c y q : Int) : Int := if rn s n k p e o a f r c y q = true then 20 * st n p + 40 * a + 8 * p + 4096 else 0
noncomputable def rm (s : ByteArray) (n k p : Int) (b : Bool) (e : Int) (o : ByteArray) (a f r c y q : Int) : Int := if rn s n k p e o a f r c y q = true then 3 * n * (8 * q + 24) + 44 * (if b = true then 2 * e else e) + 500 * p + 262144 else 0
theorem st_b {n p : Int} (h1 : 1 ≤ n) (h2 : n ≤ 2147483647) (h3 : 1 ≤ p) (h4 : p ≤ 512) : 0 ≤ st n p ∧ st n p ≤ 2147484158 := by
  have hq0 : 0 ≤ (n + p - 1) / p := Int.ediv_nonneg (by omega) (by omega)
  have hq1 : (n + p - 1) / p ≤ n + p - 1 := Int.ediv_le_self _ (by omega)
  unfold st; omega
theorem mul_b {x q : Int} (B : Int) (h0 : 0 ≤ x) (h1 : x ≤ B) (h2 : 1 ≤ q) (h3 : q ≤ 8) : 0 ≤ x * q ∧ x * q ≤ 8 * B := by
  have := Int.mul_nonneg h0 (show 0 ≤ q by omega)
  have := Int.mul_le_mul h1 h3 (by omega) (by omega)
  omega
theorem wrap_in (z : Int) (h0 : -9223372036854775808 ≤ z) (h1 : z ≤ 9223372036854775807) : IntKind.i64.wrap z = z := by simp only [IntKind.wrap, IntKind.signed, IntKind.bits]; simp; omega
theorem rn_no {s : ByteArray} {n k p e : Int} {o : ByteArray} {a f r c y q : Int} (h : rn s n k p e o a f r c y q = false) (h0 : sz s n k p e = true) (h1 : op o a f r c y = true) : q < 1 ∨ 8 < q := by
  unfold sz at h0
  simp only [Bool.and_eq_true, decide_eq_true_eq] at h0
  unfold rn at h
  rw [h0.1, h1, decide_eq_true h0.2.1, decide_eq_true h0.2.2] at h
  have h : wi q 1 8 = false := h
  unfold wi at h
  simp only [Bool.and_eq_false_iff, decide_eq_false_iff_not] at h
  omega
theorem wrap64_in (z : Int) (h0 : -9223372036854775808 ≤ z) (h1 : z ≤ 9223372036854775807) : wrap64 z = z := by unfold wrap64; omega
theorem ret_two {k1 k2 : IntKind} {a b c d : Int} (h : a = c) (h2 : b = d) : Ending.returned (.tuple #[.int k1 a, .int k2 b]) = .returned (.tuple #[.int k1 c, .int k2 d]) := by rw [h, h2]
set_option maxHeartbeats 8000000 in
theorem need_any (s : ByteArray) (hs : s.size ≤ 9223372036854775807) (n k p : Int) (b : Bool) (e u : Int) (hn0 : 0 ≤ n) (hn1 : n ≤ 4294967295) (o : ByteArray) (ho : o.size ≤ 9223372036854775807) (a f r c y q : Int) (w : World) :
    Calls Try.prog 4 #[gv s n k p b e u, ov o a f r c y, .int .i64 q] w fun e' w' => e' = .returned (.tuple #[.int .i64 (n1 s n k p e o a f r c y q), .int .i64 (n2 s n k p e o a f r c y q)]) ∧ Below w.heap.size w w' := by
  cases h : rn s n k p e o a f r c y q
  · have HI := isRun_no s hs n k p b e u hn0 hn1 o ho a f r c y q h
    have r1 : n1 s n k p e o a f r c y q = 0 := by unfold n1; rw [h]; rfl
    have r2 : n2 s n k p e o a f r c y q = 0 := by unfold n2; rw [h]; rfl
    rw [r1, r2]
    clear r1 r2 h
    go_enter Try.func4, Try.ntmps4
    go_wp2_with (fail)
    refine (HI _).mono ?_
    rintro e1 w1 ⟨rfl, hg⟩
    have hb : Below w.heap.size w w1 := (bA (bA (bR w) _) _).trans (hg.mono (bA (bA (bR w) _) _).size)
    go_wp2
    go_ret2
    exact ⟨rfl, hb⟩
  · have HI := isRun_yes s hs n k p b e u hn0 hn1 o ho a f r c y q h
    have r1 : n1 s n k p e o a f r c y q = st n p * q + a := by unfold n1; rw [h]; rfl
    have r2 : n2 s n k p e o a f r c y q = 20 * st n p + 40 * a + 8 * p + 4096 := by unfold n2; rw [h]; rfl
    obtain ⟨_, _, e0, e1, _, g1, g2, g3, g4, g5, q1, q2, a1, a2⟩ := rn_yes h
    have HT : Hid (∀ w, Calls Try.prog 9 #[gv s n k p b e u] w fun e' w' => e' = .returned (.int .i64 (st n p)) ∧ w' = w.alloc (gc s n k p b e u)) := greatest_any s n k p b e u g1 g2 g3 g4
    obtain ⟨s0, s1⟩ := st_b g1 g2 g3 g4
    rw [r1, r2]
    clear r1 r2 h
    generalize st n p = S at *
    obtain ⟨m0, m1⟩ := mul_b 2147484158 s0 s1 q1 q2
    have hw1 := wrap_in (S * q) (by omega) (by omega)
    generalize hM : S * q = M at *
    have HM : Hid (S * q = M) := hM
    clear hM
    go_enter Try.func4, Try.ntmps4
    go_wp2_with (fail)
    refine (HI _).mono ?_
    rintro e1 w1 ⟨rfl, rfl⟩
    go_wp2_with (fail)
    refine (HT.out _).mono ?_
    rintro e2 w2 ⟨rfl, rfl⟩
    go_wp2
    go_quiet (fail)
    go_wp2
    go_ret2
    refine ⟨ret_two (by rw [HM.out]; first | rfl | (rw [wrap64_in M (by omega) (by omega), wrap64_in _ (by omega) (by omega)])) (by first | rfl | (rw [wrap64_in _ (by omega) (by omega)])), ?_⟩
    exact belowN (bA (bA (bA (bA (bA (bA (bA (bR _) _) _) _) _) _) _) _) _
theorem fin (M E p : Int) (m0 : 0 ≤ M) (m1 : M ≤ 6442450941 * 88) (h0 : 0 ≤ E) (h1 : E ≤ 4294967294) (p0 : 1 ≤ p) (p1 : p ≤ 512) : wrap64 (wrap64 (wrap64 (wrap64 M + 44 * E) + 500 * p) + 262144) = M + 44 * E + 500 * p + 262144 := by
  rw [wrap64_in M (by omega) (by omega), wrap64_in (M + 44 * E) (by omega) (by omega), wrap64_in (M + 44 * E + 500 * p) (by omega) (by omega), wrap64_in _ (by omega) (by omega)]
theorem ret_int {k : IntKind} {a b : Int} (h : a = b) : Ending.returned (.int k a) = .returned (.int k b) := by rw [h]
set_option maxHeartbeats 8000000 in
theorem room_any (s : ByteArray) (hs : s.size ≤ 9223372036854775807) (n k p : Int) (b : Bool) (e u : Int) (hn0 : 0 ≤ n) (hn1 : n ≤ 4294967295) (o : ByteArray) (ho : o.size ≤ 9223372036854775807) (a f r c y q : Int) (w : World) :
    Calls Try.prog 6 #[gv s n k p b e u, ov o a f r c y, .int .i64 q] w fun e' w' => e' = .returned (.int .i64 (rm s n k p b e o a f r c y q)) ∧ Below w.heap.size w w' := by
  cases h : rn s n k p e o a f r c y q
  · have HI := isRun_no s hs n k p b e u hn0 hn1 o ho a f r c y q h
    have r1 : rm s n k p b e o a f r c y q = 0 := by unfold rm; rw [h]; rfl
    rw [r1]
    clear r1 h
    go_enter Try.func6, Try.ntmps6
    go_wp2_with (fail)
    refine (HI _).mono ?_
    rintro e1 w1 ⟨rfl, hg⟩
    have hb : Below w.heap.size w w1 := (bA (bA (bR w) _) _).trans (hg.mono (bA (bA (bR w) _) _).size)
    go_wp2
    go_ret
    exact ⟨rfl, hb⟩
  · have HI := isRun_yes s hs n k p b e u hn0 hn1 o ho a f r c y q h
    have r1 : Hid (rm s n k p b e o a f r c y q = 3 * n * (8 * q + 24) + 44 * (if b = true then 2 * e else e) + 500 * p + 262144) := by show _ = _; unfold rm; rw [h]; rfl
    obtain ⟨_, _, e0, e1, _, g1, g2, g3, g4, g5, q1, q2, a1, a2⟩ := rn_yes h
    clear h
    generalize rm s n k p b e o a f r c y q = R at *
    have hwn := wrap_in n (by omega) (by omega)
    have m0 : 0 ≤ 3 * n * (8 * q + 24) := Int.mul_nonneg (by omega) (by omega)
    have m1 : 3 * n * (8 * q + 24) ≤ 6442450941 * 88 := Int.mul_le_mul (by omega) (by omega) (by omega) (by omega)
    have hw1 := wrap_in (3 * n * (8 * q + 24)) (by omega) (by omega)
    generalize hM : 3 * n * (8 * q + 24) = M at *
    have HM : Hid (3 * n * (8 * q + 24) = M) := hM
    clear hM
    cases b
    all_goals
      go_enter Try.func6, Try.ntmps6
      go_wp2_with (fail)
      refine (HI _).mono ?_
      rintro e1 w1 ⟨rfl, rfl⟩
      go_wp2
      go_ret
      refine ⟨ret_int ?_, bA (bA (bA (bA (bA (bA (bR _) _) _) _) _) _) _⟩
      rw [HM.out, r1.out]
      first | (rw [fin M e p m0 m1 (by omega) (by omega) g3 g4]; rfl) | (rw [fin M (e * 2) p m0 m1 (by omega) (by omega) g3 g4]; simp; omega)
set_option maxHeartbeats 8000000 in
theorem rneed_any (s : ByteArray) (hs : s.size ≤ 9223372036854775807) (n k p : Int) (b : Bool) (e u : Int) (hn0 : 0 ≤ n) (hn1 : n ≤ 4294967295) (o : ByteArray) (ho : o.size ≤ 9223372036854775807) (a f r c y q : Int) (w : World) :
    Calls Try.prog 5 #[gv s n k p b e u, ov o a f r c y, .int .i64 q] w fun e' w' => e' = .returned (.tuple #[.int .i64 (n1 s n k p e o a f r c y q), .int .i64 (n2 s n k p e o a f r c y q)]) ∧ Below w.heap.size w w' := by
  have HG := sized_any s hs n k p b e u hn0 hn1
  have HO := optioned_any o ho a f r c y
  cases h : rn s n k p e o a f r c y q
  · have r1 : n1 s n k p e o a f r c y q = 0 := by unfold n1; rw [h]; rfl
    have r2 : n2 s n k p e o a f r c y q = 0 := by unfold n2; rw [h]; rfl
    rw [r1, r2]
    clear r1 r2
    have HR := rn_no h
    clear h
    cases h0 : sz s n k p e
    · rw [h0] at HG
      go_enter Try.func5, Try.ntmps5
      go_wp2_with (fail)
      refine (HG _).mono ?_
      rintro e1 w1 ⟨rfl, rfl⟩
      go_wp2
      all_goals go_ret2
      all_goals exact ⟨rfl, bA (bA (bA (bR _) _) _) _⟩
    rw [h0] at HG
    cases h1 : op o a f r c y
    · rw [h1] at HO
      go_enter Try.func5, Try.ntmps5
      go_wp2_with (fail)
      refine (HG _).mono ?_
      rintro e1 w1 ⟨rfl, rfl⟩
      go_wp2_with (fail)
      refine (HO _).mono ?_
      rintro e2 w2 ⟨rfl, rfl⟩
      go_wp2
      all_goals go_ret2
      all_goals exact ⟨rfl, bA (bA (bA (bA (bR _) _) _) _) _⟩
    rw [h1] at HO
    have HQ := HR h0 h1
    clear HR
    by_cases h2 : q < 1
    · go_enter Try.func5, Try.ntmps5
      go_wp2_with (fail)
      refine (HG _).mono ?_
      rintro e1 w1 ⟨rfl, rfl⟩
      go_wp2_with (fail)
      refine (HO _).mono ?_
      rintro e2 w2 ⟨rfl, rfl⟩
      go_wp2
      all_goals go_ret2
      all_goals exact ⟨rfl, bA (bA (bA (bA (bR _) _) _) _) _⟩
    · have h3 : 8 < q := by omega
      go_enter Try.func5, Try.ntmps5
      go_wp2_with (fail)
      refine (HG _).mono ?_
      rintro e1 w1 ⟨rfl, rfl⟩
      go_wp2_with (fail)
      refine (HO _).mono ?_
      rintro e2 w2 ⟨rfl, rfl⟩
      go_wp2
      all_goals go_ret2
      all_goals exact ⟨rfl, bA (bA (bA (bA (bR _) _) _) _) _⟩
  · have r1 : n1 s n k p e o a f r c y q = st n p * q + a := by unfold n1; rw [h]; rfl
    have r2 : n2 s n k p e o a f r c y q = 20 * st n p + 40 * a + 8 * p + 4096 := by unfold n2; rw [h]; rfl
    obtain ⟨h0, h1, e0, e1, _, g1, g2, g3, g4, g5, q1, q2, a1, a2⟩ := rn_yes h
    have h0' : sz s n k p e = true := by unfold sz; simp [h0, e0, e1]
    rw [h0'] at HG
    rw [h1] at HO
    have HT : Hid (∀ w, Calls Try.prog 12 #[gv s n k p b e u] w fun e' w' => e' = .returned (.int .i64 (st n p)) ∧ w' = w.alloc (gc s n k p b e u)) := rgreatest_any s n k p b e u g1 g2 g3 g4
    obtain ⟨s0, s1⟩ := st_b g1 g2 g3 g4
    rw [r1, r2]
    clear r1 r2 h h0 h1 h0'
    generalize st n p = S at *
    obtain ⟨m0, m1⟩ := mul_b 2147484158 s0 s1 q1 q2
    have hw1 := wrap_in (S * q) (by omega) (by omega)
    generalize hM : S * q = M at *
    have HM : Hid (S * q = M) := hM
    clear hM
    go_enter Try.func5, Try.ntmps5
    go_wp2_with (fail)
    refine (HG _).mono ?_
    rintro e1 w1 ⟨rfl, rfl⟩
    go_wp2_with (fail)
    refine (HO _).mono ?_
    rintro e2 w2 ⟨rfl, rfl⟩
    go_wp2_with (fail)
    refine (HT.out _).mono ?_
    rintro e3 w3 ⟨rfl, rfl⟩
    go_wp2
    go_quiet (fail)
    go_wp2
    go_ret2
    refine ⟨ret_two (by rw [HM.out]; first | rfl | (rw [wrap64_in M (by omega) (by omega), wrap64_in _ (by omega) (by omega)])) (by first | rfl | (rw [wrap64_in _ (by omega) (by omega)])), ?_⟩
    exact belowN (bA (bA (bA (bA (bA (bR _) _) _) _) _) _) _
set_option maxHeartbeats 8000000 in
theorem rroom_any (s : ByteArray) (hs : s.size ≤ 9223372036854775807) (n k p : Int) (b : Bool) (e u : Int) (hn0 : 0 ≤ n) (hn1 : n ≤ 4294967295) (o : ByteArray) (ho : o.size ≤ 9223372036854775807) (a f r c y q : Int) (w : World) :
    Calls Try.prog 7 #[gv s n k p b e u, ov o a f r c y, .int .i64 q] w fun e' w' => e' = .returned (.int .i64 (rm s n k p b e o a f r c y q)) ∧ Below w.heap.size w w' := by
  have HG := sized_any s hs n k p b e u hn0 hn1
  have HO := optioned_any o ho a f r c y
  cases h : rn s n k p e o a f r c y q
  · have r1 : rm s n k p b e o a f r c y q = 0 := by unfold rm; rw [h]; rfl
    rw [r1]
    clear r1
    have HR := rn_no h
    clear h
    cases h0 : sz s n k p e
    · rw [h0] at HG
      go_enter Try.func7, Try.ntmps7
      go_wp2_with (fail)
      refine (HG _).mono ?_
      rintro e1 w1 ⟨rfl, rfl⟩
      go_wp2
      all_goals go_ret
      all_goals exact ⟨rfl, bA (bA (bA (bR _) _) _) _⟩
    rw [h0] at HG
    cases h1 : op o a f r c y
    · rw [h1] at HO
      go_enter Try.func7, Try.ntmps7
      go_wp2_with (fail)
      refine (HG _).mono ?_
      rintro e1 w1 ⟨rfl, rfl⟩
      go_wp2_with (fail)
      refine (HO _).mono ?_
      rintro e2 w2 ⟨rfl, rfl⟩
      go_wp2
      all_goals go_ret
      all_goals exact ⟨rfl, bA (bA (bA (bA (bR _) _) _) _) _⟩
    rw [h1] at HO
    have HQ := HR h0 h1
    clear HR
    by_cases h2 : q < 1
    · go_enter Try.func7, Try.ntmps7
      go_wp2_with (fail)
      refine (HG _).mono ?_
      rintro e1 w1 ⟨rfl, rfl⟩
      go_wp2_with (fail)
      refine (HO _).mono ?_
      rintro e2 w2 ⟨rfl, rfl⟩
      go_wp2
      all_goals go_ret
      all_goals exact ⟨rfl, bA (bA (bA (bA (bR _) _) _) _) _⟩
    · have h3 : 8 < q := by omega
      go_enter Try.func7, Try.ntmps7
      go_wp2_with (fail)
      refine (HG _).mono ?_
      rintro e1 w1 ⟨rfl, rfl⟩
      go_wp2_with (fail)
      refine (HO _).mono ?_
      rintro e2 w2 ⟨rfl, rfl⟩
      go_wp2
      all_goals go_ret
      all_goals exact ⟨rfl, bA (bA (bA (bA (bR _) _) _) _) _⟩
  · have r1 : Hid (rm s n k p b e o a f r c y q = 3 * n * (8 * q + 24) + 44 * (if b = true then 2 * e else e) + 500 * p + 262144) := by show _ = _; unfold rm; rw [h]; rfl
    obtain ⟨h0, h1, e0, e1, _, g1, g2, g3, g4, g5, q1, q2, a1, a2⟩ := rn_yes h
    have h0' : sz s n k p e = true := by unfold sz; simp [h0, e0, e1]
    rw [h0'] at HG
    rw [h1] at HO
    clear h h0 h1 h0'
    generalize rm s n k p b e o a f r c y q = R at *
    have hwn := wrap_in n (by omega) (by omega)
    have m0 : 0 ≤ 3 * n * (8 * q + 24) := Int.mul_nonneg (by omega) (by omega)
    have m1 : 3 * n * (8 * q + 24) ≤ 6442450941 * 88 := Int.mul_le_mul (by omega) (by omega) (by omega) (by omega)
    generalize hM : 3 * n * (8 * q + 24) = M at *
    have HM : Hid (3 * n * (8 * q + 24) = M) := hM
    clear hM
    cases b
    all_goals
      go_enter Try.func7, Try.ntmps7
      go_wp2_with (fail)
      refine (HG _).mono ?_
      rintro e1 w1 ⟨rfl, rfl⟩
      go_wp2_with (fail)
      refine (HO _).mono ?_
      rintro e2 w2 ⟨rfl, rfl⟩
      go_wp2
      go_ret
      refine ⟨ret_int ?_, bA (bA (bA (bA (bR _) _) _) _) _⟩
      rw [HM.out, r1.out]
      first | (rw [fin M e p m0 m1 (by omega) (by omega) g3 g4]; rfl) | (rw [fin M (2 * e) p m0 m1 (by omega) (by omega) g3 g4]; simp)
end Wb
end Go.Proofs.Ytamlmjpkifnhaaa
