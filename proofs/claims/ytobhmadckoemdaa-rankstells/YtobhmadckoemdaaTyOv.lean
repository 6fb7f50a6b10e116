import Derived.Test.YtobhmadckoemdaaTyRo
import Derived.Test.YtobhmadckoemdaaTyL9
import Derived.Laws.Externs
namespace Go.Proofs.Ytobhmadckoemdaa
namespace Ty
open Go.RowKit
set_option linter.unusedVariables false
theorem frombits (n : Int) (w : World) : (callFunc 53 #[.int .u32 n]).run Try.prog w = .ok (.value (.float .f32 n.toNat)) w := by
  rw [run_callFunc_extern Try.func53 (by kernel_rfl) (by kernel_rfl) (by kernel_rfl) (e := Extern.MathFloatBits.float32frombits) (by kernel_rfl)]
  rfl
theorem tobits (b : Nat) (w : World) : (callFunc 20 #[.float .f32 b]).run Try.prog w = .ok (.value (.int .u32 b)) w := by
  rw [run_callFunc_extern Try.func20 (by kernel_rfl) (by kernel_rfl) (by kernel_rfl) (e := Extern.MathFloatBits.float32bits) (by kernel_rfl)]
  rfl
theorem float_any (u : Int) (w : World) : Calls Try.prog 41 #[.int .u32 u] w fun e w' => e = .returned (.float .f32 u.toNat) ∧ w' = w := by
  have h := frombits u w
  go_enter Try.func41, Try.ntmps41
  go_wp2
  go_ret
  exact ⟨rfl, rfl⟩
theorem fbits_any (b : Nat) (w : World) : Calls Try.prog 13 #[.float .f32 b] w fun e w' => e = .returned (.int .u32 b) ∧ w' = w := by
  have h := tobits b w
  go_enter Try.func13, Try.ntmps13
  go_wp2
  go_ret
  exact ⟨rfl, rfl⟩
theorem ret_f {k : IntKind} {a c : Nat} {b d : Int} (h : a = c) (h2 : b = d) : Ending.returned (.tuple #[.float .f32 a, .int k b]) = .returned (.tuple #[.float .f32 c, .int k d]) := by rw [h, h2]
theorem or31 (x : Int) (h0 : 0 ≤ x) (h1 : x < 2147483648) : bits .or .u64 x 2147483648 = x + 2147483648 := by
  have h := or_pow x 31 h0 (by omega) (by omega)
  have e : (2 : Int) ^ 31 = 2147483648 := by decide
  rw [e] at h; omega
theorem index0 (a : Int) (b c d e f : Value) (w : World) : (Instr.index 46 (.agg #[.int .u64 a, b, c, d, e, f]) (.int .i64 0)).run Try.prog w = .ok (.int .u64 a) w := by kernel_rfl
set_option maxRecDepth 8000 in
set_option maxHeartbeats 1600000 in
theorem over_any (A n mode : Int) (L : Nat) (h : Sg A) (h0 : 0 < n) (h1 : n < 18446744073709551616) (m0 : 0 ≤ mode) (m1 : mode ≤ 3) (hL : IsLen (ab A / n) L) (hl : L ≤ 384) (w : World) :
    Calls Try.prog 29 #[.agg (sm A), .int .u64 n, .int .i64 mode] w fun e w' => e = .returned (.tuple #[.float .f32 (rU (decide (A < 0)) (sz A n mode L)).toNat, .int .i64 (rE (sz A n mode L))]) ∧ Below w.heap.size w w' := by
  have hab := ab_b A h
  have ha1 : ab A < 2 ^ (64 * 6) := by
    have e : (2 : Int) ^ (64 * 6) = 2 * 2 ^ 383 := p384
    have := pw 383
    omega
  obtain ⟨Q, hQ⟩ : ∃ Q, Q = ab A / n := ⟨_, rfl⟩
  obtain ⟨r, hr⟩ : ∃ r, r = ab A % n := ⟨_, rfl⟩
  have q0 : 0 ≤ Q := by rw [hQ]; exact Int.ediv_nonneg hab.1 (by omega)
  have q1 : Q < 2 ^ (64 * 6) := by rw [hQ]; exact Int.lt_of_le_of_lt (Int.ediv_le_self _ hab.1) ha1
  have r0 : 0 ≤ r := by rw [hr]; exact Int.emod_nonneg _ (by omega)
  have r1 : r < n := by rw [hr]; exact Int.emod_lt_of_pos _ h0
  rw [← hQ] at hL
  obtain ⟨d, hd⟩ : ∃ d, d = dr L := ⟨_, rfl⟩
  have hd384 : d < 384 := by rw [hd]; unfold dr; omega
  have hf : ∀ i, 6 ≤ i → wd Q i = 0 := fun i hi => by
    unfold wd
    have h1 := pow_mono (64 * 6) (64 * i) (by omega)
    rw [Int.ediv_eq_zero_of_lt q0 (by omega)]; rfl
  have HK : Hid (0 ≤ Q / 2 ^ d ∧ Q / 2 ^ d < 16777216) := by rw [hd]; exact ⟨(kept_b Q L q0 hL).1, (kept_b Q L q0 hL).2.1⟩
  have HS : Hid (∀ w, Calls Try.prog 25 #[.agg (sm A)] w fun e w' => e = .returned (.int .i64 (sgn A)) ∧ Below w.heap.size w w') := fun w => sign_any A h w
  have HZ : Hid (∀ w, Calls Try.prog 35 #[.agg (sm A)] w fun e w' => e = .returned (.agg (sm (ab A))) ∧ Below w.heap.size w w') := fun w => sizeof_any A h w
  have HP : Hid (∀ w, Calls Try.prog 36 #[.agg (sm (ab A)), .int .u64 n] w fun e w' => e = .returned (.tuple #[.agg (sm Q), .int .u64 r]) ∧ Below w.heap.size w w') := fun w => by
    rw [hQ, hr]; exact parted_any (ab A) n h0 h1 hab.1 ha1 w
  have HN : Hid (∀ w, Calls Try.prog 37 #[.agg (sm Q)] w fun e w' => e = .returned (.int .i64 L) ∧ Below w.heap.size w w') := fun w =>
    (length_any Q q0 q1 w).mono (by
      rintro e w' ⟨⟨n, he, hn, hi⟩, hw⟩
      exact ⟨by rw [he, isLen_one Q n L q0 hi hL], hw⟩)
  have HDn : Hid (∀ w, Calls Try.prog 38 #[.agg (sm Q), .int .i64 d, .int .u64 0] w fun e w' => e = .returned (.agg (sm (Q / 2 ^ d))) ∧ Below w.heap.size w w') := fun w => down_any Q 0 d hd384 hf w
  have HLo : Hid (∀ w, Calls Try.prog 39 #[.agg (sm Q), .int .u64 r, .int .u64 n, .int .i64 d] w fun e w' => e = .returned (.agg #[.bool (lst Q d), .bool (hlf Q r n d), .bool (mor Q r n d)]) ∧ Below w.heap.size w w') := fun w => lost_any Q r n d hd384 q0 q1 r0 r1 h1 w
  have HAw : Hid (∀ w, Calls Try.prog 40 #[.agg #[.bool (lst Q d), .bool (hlf Q r n d), .bool (mor Q r n d)], .int .i64 mode, .bool (decide (A < 0))] w fun e w' => e = .returned (.bool (aw mode (decide (A < 0)) (lst Q d) (hlf Q r n d) (mor Q r n d))) ∧ Below w.heap.size w w') := fun w => away_any mode _ _ _ _ m0 m1 w
  have HSZ : Hid (sz A n mode L = (d : Int) * 8388608 + Q / 2 ^ d + b2i (aw mode (decide (A < 0)) (lst Q d) (hlf Q r n d) (mor Q r n d))) := by
    show _ = _
    unfold sz
    rw [← hQ, ← hr, ← hd]
    rfl
  have HD : Hid (d = L - 24) := hd
  have HNG : Hid (decide (sgn A < 0) = decide (A < 0)) := by
    show _ = _
    unfold sgn
    by_cases hn : A < 0
    · rw [if_pos hn, decide_eq_true hn]; rfl
    · rw [if_neg hn, decide_eq_false hn]; split <;> rfl
  obtain ⟨v, hv, hvb, hvs, hv0⟩ : ∃ v, w.alloc (.cells (sm A) 46) = v ∧ Below w.heap.size w v ∧ v.heap.size = w.heap.size + 1 ∧ v.heap[w.heap.size]? = some (.cells (sm A) 46 (0, 0)) := ⟨_, rfl, (Below.refl _ _).alloc (Nat.le_refl _) _, by simp, heap_alloc_last w _⟩
  have hn0 : (n == 0) = false := beq_false_of_ne (by omega)
  have hsa : (sm A).size = 6 := rfl
  clear hL hf q1 ha1 hab hQ hr hd h
  generalize hca : sm A = ca at *
  clear hca
  obtain ⟨ng, hng⟩ : ∃ ng, decide (A < 0) = ng := ⟨_, rfl⟩
  have HNN : Hid (decide (A < 0) = ng) := hng
  have hsg : decide (sgn A < 0) = ng := HNG.out.trans hng
  rw [hng] at HAw HSZ
  clear hng HNG
  go_enter Try.func29, Try.ntmps29
  go_wp2_with (refine wpList_load6 46 _ Try.underlying46 sizeSum rfl _ rfl w.heap.size ca rfl hsa hv0 ?_)
  clear hv
  refine (HS.out _).mono ?_
  generalize sgn A = sa at *
  rintro e1 w1 ⟨rfl, hw1⟩
  have b1 := below_chain hvb hw1 (Nat.le_refl _)
  have p1 := (hw1.block _ (by omega)).trans hv0
  have s1 : w.heap.size + 1 ≤ w1.heap.size := by have := hw1.size; omega
  clear hv0 hvb hw1 hvs HS
  go_wp2_with (refine wpList_load6 46 _ Try.underlying46 sizeSum rfl _ rfl w.heap.size ca rfl hsa p1 ?_)
  refine (HZ.out _).mono ?_
  rintro e2 w2 ⟨rfl, hw2⟩
  have b2 := below_chain b1 hw2 (Nat.le_refl _)
  have s2 : w.heap.size + 1 ≤ w2.heap.size := by have := hw2.size; omega
  clear hw2 p1 s1 b1 HZ hsa
  go_wp2_with (fail)
  refine (HP.out _).mono ?_
  rintro e3 w3 ⟨rfl, hw3⟩
  have b3 := below_chain b2 hw3 (Nat.le_refl _)
  have s3 : w.heap.size + 1 ≤ w3.heap.size := by have := hw3.size; omega
  clear hw3 s2 b2 HP
  have hone := sm_one Q
  have hsq : (sm Q).size = 6 := rfl
  generalize hcq : sm Q = cq at *
  clear hcq
  have hz : (w3.alloc (.cells #[.int .u64 0, .int .u64 0, .int .u64 0, .int .u64 0, .int .u64 0, .int .u64 0] 46)).heap[w3.heap.size]? = some (.cells (sm 0) 46 (0, 0)) := by rw [zeros_sm]; exact heap_alloc_last w3 _
  obtain ⟨V, hV, hVb, hVs, hV0⟩ : ∃ V, (w3.alloc (.cells #[.int .u64 0, .int .u64 0, .int .u64 0, .int .u64 0, .int .u64 0, .int .u64 0] 46)).setRow w3.heap.size cq = V ∧ Below w.heap.size w V ∧ V.heap.size = w3.heap.size + 1 ∧ V.heap[w3.heap.size]? = some (.cells cq 46 (0, 0)) :=
    ⟨_, rfl, below_setRow _ _ (b3.alloc (by omega) _) (by omega), by simp, setRow_heap _ w3.heap.size _ _ 46 (0, 0) hz⟩
  go_wp2_with (first
    | (refine wpList_store6 46 sizeSum rfl _ _ rfl w3.heap.size cq (sm 0) rfl rfl hsq rfl hone hz ?_; rw [hV])
    | (refine wpList_load6 46 _ Try.underlying46 sizeSum rfl _ rfl w3.heap.size cq rfl hsq hV0 ?_))
  clear hV hz b3
  refine (HN.out _).mono ?_
  rintro e4 w4 ⟨rfl, hw4⟩
  have b4 := below_chain hVb hw4 (Nat.le_refl _)
  have p4 := (hw4.block _ (by omega)).trans hV0
  have s4 : w3.heap.size + 1 ≤ w4.heap.size := by have := hw4.size; omega
  clear hw4 hVb hV0 hVs HN
  go_upto_region 6 with fail
  have hdd : (if (L : Int) - 24 < 0 then (0 : Int) else (L : Int) - 24) = (d : Int) := by have := HD.out; split <;> omega
  rw [hdd]
  obtain ⟨K, hK⟩ : ∃ K, Q / 2 ^ d = K := ⟨_, rfl⟩
  rw [hK] at HDn HK HSZ
  have hwK : wd K 0 = K := by
    have hk := HK.out
    unfold wd
    simp
    omega
  have hKb := HK.out
  clear hdd hK HK
  go_wp2_with (refine wpList_load6 46 _ Try.underlying46 sizeSum rfl _ rfl w3.heap.size cq rfl hsq p4 ?_)
  refine (HDn.out _).mono ?_
  rintro e5 w5 ⟨he5, hw5⟩
  have he5' : e5 = .returned (.agg #[.int .u64 (wd K 0), .int .u64 (wd K 1), .int .u64 (wd K 2), .int .u64 (wd K 3), .int .u64 (wd K 4), .int .u64 (wd K 5)]) := he5
  rw [hwK] at he5'
  subst he5'
  have b5 := below_chain b4 hw5 (Nat.le_refl _)
  have p5 := (hw5.block _ (by omega)).trans p4
  have s5 : w3.heap.size + 1 ≤ w5.heap.size := by have := hw5.size; omega
  clear he5 hw5 b4 p4 s4 HDn hwK
  have hd8 : 0 ≤ (d : Int) ∧ (d : Int) < 384 := by omega
  have hix := index0 K (.int .u64 (wd K 1)) (.int .u64 (wd K 2)) (.int .u64 (wd K 3)) (.int .u64 (wd K 4)) (.int .u64 (wd K 5))
  go_wp2_with (refine wpList_load6 46 _ Try.underlying46 sizeSum rfl _ rfl w3.heap.size cq rfl hsq p5 ?_)
  refine (HLo.out _).mono ?_
  rintro e6 w6 ⟨rfl, hw6⟩
  have b6 := below_chain b5 hw6 (Nat.le_refl _)
  clear hix hw6 b5 p5 s5 HLo hsq hone
  go_wp2_with (fail)
  refine (HAw.out _).mono ?_
  rintro e7 w7 ⟨rfl, hw7⟩
  have b7 := below_chain b6 hw7 (Nat.le_refl _)
  clear hw7 b6 HAw
  generalize aw mode ng (lst Q d) (hlf Q r n d) (mor Q r n d) = U at *
  generalize lst Q d = x1 at *
  generalize hlf Q r n d = x2 at *
  generalize mor Q r n d = x3 at *
  have hfb := frombits
  obtain ⟨Z, hZ⟩ : ∃ Z, (d : Int) * 8388608 + K = Z := ⟨_, rfl⟩
  rw [hZ] at HSZ
  have hZb : 0 ≤ Z ∧ Z < 3238002688 := by omega
  have hZ2 : (d : Int) * 8388608 + K = Z := hZ
  clear hZ
  cases U <;> cases ng
  all_goals
    by_cases c1 : 2139095040 ≤ Z
    · go_wp2
      go_ret2
      exact ⟨ret_f (by rw [HNN.out, HSZ.out]; simp only [rU, b2i, if_true, if_false, Bool.false_eq_true]; first | rfl | omega | (split <;> first | rfl | omega)) (by rw [HSZ.out]; simp only [rE, b2i, if_true, if_false, Bool.false_eq_true]; first | omega | (split <;> omega)), b7⟩
    by_cases c2 : Z = 2139095039
    · have ho := or31 2139095039 (by omega) (by omega)
      go_wp2
      go_ret2
      exact ⟨ret_f (by rw [HNN.out, HSZ.out]; simp only [rU, b2i, if_true, if_false, Bool.false_eq_true]; first | rfl | omega | (split <;> first | rfl | omega)) (by rw [HSZ.out]; simp only [rE, b2i, if_true, if_false, Bool.false_eq_true]; first | omega | (split <;> omega)), b7⟩
    · have ho := or31 Z (by omega) (by omega)
      have ho2 := or31 (Z + 1) (by omega) (by omega)
      go_wp2
      go_ret2
      exact ⟨ret_f (by rw [HNN.out, HSZ.out]; simp only [rU, b2i, if_true, if_false, Bool.false_eq_true]; first | rfl | omega | (split <;> first | rfl | omega)) (by rw [HSZ.out]; simp only [rE, b2i, if_true, if_false, Bool.false_eq_true]; first | omega | (split <;> omega)), b7⟩
set_option maxHeartbeats 800000 in
theorem over_bad (A n mode : Int) (hb : Bad n mode) (h1 : 0 ≤ n) (w : World) :
    Calls Try.prog 29 #[.agg (sm A), .int .u64 n, .int .i64 mode] w fun e w' => e = .returned (.tuple #[.float .f32 0, .int .i64 2]) ∧ Below w.heap.size w w' := by
  have hB : Below w.heap.size w (w.alloc (.cells (sm A) 46)) := (Below.refl _ _).alloc (Nat.le_refl _) _
  generalize sm A = ca at *
  by_cases c1 : n = 0
  · subst c1
    clear hb
    go_enter Try.func29, Try.ntmps29
    go_wp2
    go_ret2
    exact ⟨rfl, hB⟩
  have hn0 : (n == 0) = false := beq_false_of_ne c1
  by_cases c2 : mode < 0
  · clear hb
    go_enter Try.func29, Try.ntmps29
    go_wp2
    go_ret2
    exact ⟨rfl, hB⟩
  have c3 : 3 < mode := by unfold Bad at hb; omega
  clear hb
  go_enter Try.func29, Try.ntmps29
  go_wp2
  go_ret2
  exact ⟨rfl, hB⟩
/-- What both sides answer: the bits and the error. -/
def Same (A n mode : Int) (U : Int) (E : Int) : Prop :=
  (0 ≤ U) ∧ (∀ w, Calls Try.prog 29 #[.agg (sm A), .int .u64 n, .int .i64 mode] w fun e w' => e = .returned (.tuple #[.float .f32 U.toNat, .int .i64 E]) ∧ Below w.heap.size w w') ∧
  (∀ w, Calls Try.prog 32 #[.agg (sm A), .int .u64 n, .int .i64 mode] w fun e w' => e = .returned (.tuple #[.int .u32 U, .int .i64 E]) ∧ Below w.heap.size w w')
theorem sz_nn (A n mode : Int) (L : Nat) (h : Sg A) (h0 : 0 < n) : 0 ≤ sz A n mode L := by
  unfold sz
  have h1 : 0 ≤ ab A / n / 2 ^ dr L := Int.ediv_nonneg (Int.ediv_nonneg (ab_b A h).1 (by omega)) (Int.le_of_lt (pw _))
  have h2 : ∀ b, 0 ≤ b2i b := fun b => by cases b <;> decide
  have h3 := h2 (aw mode (decide (A < 0)) (ab A / n / 2 ^ dr L % 2 == 1) (hlf (ab A / n) (ab A % n) n (dr L)) (mor (ab A / n) (ab A % n) n (dr L)))
  omega
theorem same_over (A n mode : Int) (h : Sg A) (h0 : 0 ≤ n) (h1 : n < 18446744073709551616) : ∃ U E, Same A n mode U E := by
  by_cases hb : Bad n mode
  · exact ⟨0, 2, by omega, fun w => over_bad A n mode hb h0 w, fun w => rover_bad A n mode hb h0 w⟩
  · have hn : 0 < n := by unfold Bad at hb; omega
    have m0 : 0 ≤ mode := by unfold Bad at hb; omega
    have m1 : mode ≤ 3 := by unfold Bad at hb; omega
    have hab := ab_b A h
    have ha1 : ab A < 2 ^ 384 := by
      have e : (2 : Int) ^ 384 = 2 * 2 ^ 383 := p384
      have := pw 383
      omega
    obtain ⟨L, hL, hi⟩ := len_ex (ab A / n) (Int.ediv_nonneg hab.1 (by omega)) 384 (Int.lt_of_le_of_lt (Int.ediv_le_self _ hab.1) ha1)
    refine ⟨_, _, ?_, fun w => over_any A n mode L h hn h1 m0 m1 hi hL w, fun w => rover_any A n mode L h hn h1 m0 m1 hi hL w⟩
    have := sz_nn A n mode L h hn
    unfold rU
    split
    · omega
    · cases decide (A < 0) <;> simp <;> omega
end Ty
end Go.Proofs.Ytobhmadckoemdaa
