import Derived.Test.YtobhmadckoemdaaKtD
import Derived.Test.YtobhmadckoemdaaTyRn
import Derived.Test.YtobhmadckoemdaaTySix
import Derived.Deep.MidRow
namespace Go.Proofs.Ytobhmadckoemdaa
namespace Kt
open Go.RowKit Ieee Rn
set_option linter.unusedVariables false
set_option maxRecDepth 8000
/-- Six words are a sum's. -/
theorem six_ex (s : Nat → Int) (hs : ∀ i, 0 ≤ s i ∧ s i < 18446744073709551616) : ∃ A, Ty.Sg A ∧ #[Value.int .u64 (s 0), .int .u64 (s 1), .int .u64 (s 2), .int .u64 (s 3), .int .u64 (s 4), .int .u64 (s 5)] = Ty.sm A := by
  obtain ⟨N, -, -, h⟩ := Ty.six_sm (s 0) (s 1) (s 2) (s 3) (s 4) (s 5) (hs 0) (hs 1) (hs 2) (hs 3) (hs 4) (hs 5)
  exact ⟨Ty.sr N, Ty.sr_sg N, by rw [h, Ty.sm_sr]⟩
/-- What both sides answer of a sum that is rounded to the nearest. -/
theorem round_ex (A : Int) (h : Ty.Sg A) : ∃ U E, Ty.Same A 1 0 U E ∧ (E = 0 ∨ E = 20) := by
  have hab := Ty.ab_b A h
  have ha1 : Ty.ab A < 2 ^ 384 := by
    have e : (2 : Int) ^ 384 = 2 * 2 ^ 383 := Ty.p384
    have := Ty.pw 383
    omega
  obtain ⟨L, hL, hi⟩ := Ty.len_ex (Ty.ab A / 1) (Int.ediv_nonneg hab.1 (by omega)) 384 (Int.lt_of_le_of_lt (Int.ediv_le_self _ hab.1) ha1)
  refine ⟨_, _, ⟨?_, fun w => Ty.over_any A 1 0 L h (by omega) (by omega) (by omega) (by omega) hi hL w, fun w => Ty.rover_any A 1 0 L h (by omega) (by omega) (by omega) (by omega) hi hL w⟩, ?_⟩
  · have := Ty.sz_nn A 1 0 L h (by omega)
    unfold Ty.rU
    split
    · omega
    · cases decide (A < 0) <;> simp <;> omega
  · unfold Ty.rE
    split
    · exact Or.inr rfl
    · exact Or.inl rfl
theorem frombits64 (n : Int) (w : World) : (callFunc 30 #[.int .u64 n]).run Try.prog w = .ok (.value (.float .f64 n.toNat)) w := by
  rw [run_callFunc_extern Try.func30 (by kernel_rfl) (by kernel_rfl) (by kernel_rfl) (e := Extern.MathFloatBits.float64frombits) (by kernel_rfl)]
  rfl
def inf64 (k : Int) : Nat := if 0 ≤ k then 9218868437227405312 else 18442240474082181120
theorem inf_any (k : Int) (w : World) : Calls Try.prog 24 #[.int .i64 k] w fun e w' => e = .returned (.float .f64 (inf64 k)) ∧ w' = w := by
  have h1 := frombits64 9218868437227405312 w
  have h2 := frombits64 18442240474082181120 w
  by_cases c : 0 ≤ k
  · have HV : Hid (inf64 k = 9218868437227405312) := by show _ = _; unfold inf64; rw [if_pos c]
    rw [HV.out]
    go_enter Try.func24, Try.ntmps24
    go_wp2
    all_goals go_ret
    all_goals exact ⟨rfl, rfl⟩
  · have HV : Hid (inf64 k = 18442240474082181120) := by show _ = _; unfold inf64; rw [if_neg c]
    rw [HV.out]
    go_enter Try.func24, Try.ntmps24
    go_wp2
    all_goals go_ret
    all_goals exact ⟨rfl, rfl⟩
def inf32 (k : Int) : Nat := if 0 ≤ k then 2139095040 else 4286578688
theorem conv_inf (k : Int) (W : World) : (convert 51 31 (.float .f64 (inf64 k))).run Try.prog W = .ok (.float .f32 (inf32 k)) W := by
  unfold convert
  simp only [Sem.run_bind, run_underlying Try.underlying51, run_underlying Try.underlying31, Result.andThen_ok]
  unfold inf64 inf32
  by_cases c : 0 ≤ k
  · rw [if_pos c, if_pos c]; rfl
  · rw [if_neg c, if_neg c]; rfl
theorem arrayAt6 (b : Nat) (W : World) : (Instr.arrayAt 46 (.slice (some ⟨b, 0, none⟩) 6 8)).run Try.prog W = .ok (.pointer (some ⟨b, 0, none⟩)) W := by
  unfold Instr.arrayAt
  simp only [Sem.run_bind, run_underlying Try.underlying46, Result.andThen_ok]
  rfl
theorem size46 : (Try.prog.info? 46).map (·.size) = some 6 := by kernel_rfl
theorem size40 : (Try.prog.info? 40).map (·.size) = some 6 := by kernel_rfl
/-- The sum, rounded: what both sides say. -/
def tot (A U E : Int) : Int := if E = 20 then (inf32 (Ty.sgn A) : Nat) else U
abbrev z6 : Array Value := #[.int .u64 0, .int .u64 0, .int .u64 0, .int .u64 0, .int .u64 0, .int .u64 0]
theorem range6 (w : World) (s : Nat → Int) (b : Nat) (h : w.heap[b]? = some (.cells (sv s) 24 (0, 0))) : w.rangeAt b 0 [.int .u64 (s 0), .int .u64 (s 1), .int .u64 (s 2), .int .u64 (s 3), .int .u64 (s 4), .int .u64 (s 5)] := by
  intro j v hv
  have hj : j < 6 := by
    rcases Nat.lt_or_ge j 6 with k | k
    · exact k
    · rw [List.getElem?_eq_none (by simp; omega)] at hv; cases hv
  rw [Nat.zero_add]
  refine (cell_of_row w b _ _ 24 (0, 0) h).trans ?_
  match j, hj with
  | 0, _ => exact hv
  | 1, _ => exact hv
  | 2, _ => exact hv
  | 3, _ => exact hv
  | 4, _ => exact hv
  | 5, _ => exact hv
set_option maxHeartbeats 2000000 in
theorem total_any (s : Nat → Int) (A U E : Int) (hA : Ty.Sg A) (hsm : #[Value.int .u64 (s 0), .int .u64 (s 1), .int .u64 (s 2), .int .u64 (s 3), .int .u64 (s 4), .int .u64 (s 5)] = Ty.sm A) (hS : Ty.Same A 1 0 U E) (hE : E = 0 ∨ E = 20) (w : World) :
    Calls Try.prog 18 #[.agg #[], .agg (sv s)] w fun e w' => e = .returned (.float .f32 (tot A U E).toNat) ∧ Below w.heap.size w w' := by
  have HR := hide (Ty.round_any A 0 U E hS)
  have HG := hide (Ty.sign_any A hA)
  have HI := hide (inf_any (Ty.sgn A))
  have hci := conv_inf (Ty.sgn A)
  have har := arrayAt6
  have hrg := hide (range6 ((w.alloc (.cells #[] 37)).alloc (.cells (sv s) 24)) s (w.heap.size + 1) (by have h := at0 (w.alloc (.cells #[] 37)) (.cells (sv s) 24); rw [World.size_alloc] at h; exact h))
  have hsz : (Ty.sm A).size = 6 := rfl
  have h1c := Ty.sm_one A
  have hb0 : Hid (Below w.heap.size w (((w.alloc (.cells #[] 37)).alloc (.cells (sv s) 24)).alloc (.cells z6 46))) := by repeat first | exact Below.refl _ _ | refine bA ?_ (by first | exact Nat.le_refl _ | (simp only [World.size_alloc]; omega)) _
  have hn0 : Hid ((((w.alloc (.cells #[] 37)).alloc (.cells (sv s) 24)).alloc (.cells z6 46)).heap[w.heap.size + 1 + 1]? = some (.cells z6 46 (0, 0))) := by
    have h := at0 ((w.alloc (.cells #[] 37)).alloc (.cells (sv s) 24)) (.cells z6 46)
    simp only [World.size_alloc] at h; exact h
  have hlt : Hid (w.heap.size + 1 + 1 < (((w.alloc (.cells #[] 37)).alloc (.cells (sv s) 24)).alloc (.cells z6 46)).heap.size) := by show _ < _; simp only [World.size_alloc]; omega
  have HSM := hide hsm
  clear hA hS hsm
  generalize Ty.sm A = ca at *
  go_enter Try.func18, Try.ntmps18
  go_wp2_with (first | (refine wpList_load_mid rfl 46 _ rfl (w.heap.size + 1) 0 rfl _ _ hrg.out Try.underlying46 rfl size46 ?_; rw [show List.toArray [Value.int .u64 (s 0), .int .u64 (s 1), .int .u64 (s 2), .int .u64 (s 3), .int .u64 (s 4), .int .u64 (s 5)] = ca from HSM.out]) | (refine wpList_storeN 6 46 size46 rfl _ _ rfl (w.heap.size + 1 + 1) ca z6 rfl rfl hsz rfl h1c hn0.out ?_) | (refine wpList_loadN 6 46 22 Try.underlying46 size46 rfl _ rfl (w.heap.size + 1 + 1) ca rfl hsz (setRow_heap _ _ _ ca 46 (0, 0) hn0.out) ?_))
  have hb1 := hide (below_setRow hb0.out (show w.heap.size ≤ w.heap.size + 1 + 1 by omega) ca)
  have hr1 := hide (setRow_heap _ _ _ ca 46 (0, 0) hn0.out)
  have hl1 : Hid (w.heap.size + 1 + 1 < (World.setRow (((w.alloc (.cells #[] 37)).alloc (.cells (sv s) 24)).alloc (.cells z6 46)) (w.heap.size + 1 + 1) ca).heap.size) := by show _ < _; simp
  refine (HR.out _).mono ?_
  rintro e1 w1 ⟨rfl, hw1⟩
  have hb2 := hide (chain hb1.out hw1)
  have hr2 := hide ((hw1.block _ hl1.out).trans hr1.out)
  clear hw1 hb1 hr1 hl1 hb0 hn0 hlt hrg HSM HR
  rcases hE with hE | hE
  · subst hE
    have HV : Hid (tot A U 0 = U) := by show _ = _; unfold tot; rw [if_neg (by decide)]
    go_wp2
    all_goals go_ret
    all_goals exact ⟨by rw [HV.out]; rfl, hb2.out⟩
  · subst hE
    have HV : Hid ((tot A U 20).toNat = inf32 (Ty.sgn A)) := by show _ = _; unfold tot; rw [if_pos rfl, Int.toNat_natCast]
    go_wp2_with (refine wpList_loadN 6 46 22 Try.underlying46 size46 rfl _ rfl (w.heap.size + 1 + 1) ca rfl hsz hr2.out ?_)
    refine (HG.out _).mono ?_
    rintro e2 w2 ⟨rfl, hw2⟩
    have hb3 := hide (chain hb2.out hw2)
    clear hw2 hb2 hr2
    go_wp2_with (fail)
    refine (HI.out _).mono ?_
    rintro e3 w3 ⟨rfl, hw3⟩
    subst w3
    go_wp2
    all_goals go_ret
    all_goals exact ⟨by rw [HV.out]; rfl, hb3.out⟩
theorem tot_nn (A U E : Int) (h : 0 ≤ U) : 0 ≤ tot A U E := by unfold tot; split <;> omega
set_option maxHeartbeats 2000000 in
theorem pairs_any (s : Nat → Int) (A U E : Int) (hA : Ty.Sg A) (hsm : #[Value.int .u64 (s 0), .int .u64 (s 1), .int .u64 (s 2), .int .u64 (s 3), .int .u64 (s 4), .int .u64 (s 5)] = Ty.sm A) (hS : Ty.Same A 1 0 U E) (hE : E = 0 ∨ E = 20) (w : World) :
    Calls Try.prog 11 #[.agg (sv s)] w fun e w' => e = .returned (.int .u32 (tot A U E)) ∧ Below w.heap.size w w' := by
  have HT := hide (total_any s A U E hA hsm hS hE)
  have hnn := tot_nn A U E hS.1
  obtain ⟨t, ht⟩ := Int.eq_ofNat_of_zero_le hnn
  rw [ht] at HT
  rw [ht, Int.toNat_natCast] at *
  have HB := hide (bits_any t)
  have hb := hide (b1 w 24 (sv s))
  have hr := at0 w (.cells (sv s) 24)
  clear hA hsm hS hE hnn ht
  go_enter Try.func11, Try.ntmps11
  go_wp2_with (refine wpList_load8 rfl _ rfl w.heap.size (sv s) rfl rfl hr ?_)
  refine (HT.out _).mono ?_
  rintro e1 w1 ⟨rfl, hw1⟩
  have hb1 := hide (chain hb.out hw1)
  clear hw1 hr
  go_wp2_with (fail)
  refine (HB.out _).mono ?_
  rintro e2 w2 ⟨rfl, hw2⟩
  subst w2
  go_wp2
  all_goals go_ret
  all_goals exact ⟨rfl, hb1.out⟩
set_option maxHeartbeats 2000000 in
theorem rounded_any (A U E : Int) (hA : Ty.Sg A) (hS : Ty.Same A 1 0 U E) (hE : E = 0 ∨ E = 20) (w : World) :
    Calls Try.prog 19 #[.agg (Ty.sm A)] w fun e w' => e = .returned (.int .u32 (tot A U E)) ∧ Below w.heap.size w w' := by
  have HR := hide (Ty.rround_any A 0 U E hS)
  have HG := hide (Ty.rsign_any A hA)
  have hsz : (Ty.sm A).size = 6 := rfl
  have hb := hide (b1 w 40 (Ty.sm A))
  have hr := hide (at0 w (.cells (Ty.sm A) 40))
  have hl : Hid (w.heap.size < (w.alloc (.cells (Ty.sm A) 40)).heap.size) := by show _ < _; simp
  clear hA hS
  generalize Ty.sm A = ca at *
  go_enter Try.func19, Try.ntmps19
  go_wp2_with (refine wpList_loadN 6 40 22 Try.underlying40 size40 rfl _ rfl w.heap.size ca rfl hsz hr.out ?_)
  refine (HR.out _).mono ?_
  rintro e1 w1 ⟨rfl, hw1⟩
  have hb1 := hide (chain hb.out hw1)
  have hr1 := hide ((hw1.block _ hl.out).trans hr.out)
  clear hw1 hr hl hb
  rcases hE with hE | hE
  · subst hE
    have HV : Hid (tot A U 0 = U) := by show _ = _; unfold tot; rw [if_neg (by decide)]
    go_wp2
    all_goals go_ret
    all_goals exact ⟨by rw [HV.out]; rfl, hb1.out⟩
  · subst hE
    by_cases c : Ty.sgn A < 0
    · have HV : Hid (tot A U 20 = 4286578688) := by show _ = _; unfold tot inf32; rw [if_pos rfl, if_neg (by omega)]; rfl
      go_wp2_with (refine wpList_loadN 6 40 22 Try.underlying40 size40 rfl _ rfl w.heap.size ca rfl hsz hr1.out ?_)
      refine (HG.out _).mono ?_
      rintro e2 w2 ⟨rfl, hw2⟩
      have hb3 := hide (chain hb1.out hw2)
      clear hw2
      go_wp2
      all_goals go_ret
      all_goals exact ⟨by rw [HV.out]; rfl, hb3.out⟩
    · have HV : Hid (tot A U 20 = 2139095040) := by show _ = _; unfold tot inf32; rw [if_pos rfl, if_pos (by omega)]; rfl
      go_wp2_with (refine wpList_loadN 6 40 22 Try.underlying40 size40 rfl _ rfl w.heap.size ca rfl hsz hr1.out ?_)
      refine (HG.out _).mono ?_
      rintro e2 w2 ⟨rfl, hw2⟩
      have hb3 := hide (chain hb1.out hw2)
      clear hw2
      go_wp2
      all_goals go_ret
      all_goals exact ⟨by rw [HV.out]; rfl, hb3.out⟩
end Kt
end Go.Proofs.Ytobhmadckoemdaa
