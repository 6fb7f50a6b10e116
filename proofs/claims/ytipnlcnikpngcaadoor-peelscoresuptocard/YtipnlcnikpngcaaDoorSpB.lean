import Derived.Test.YtipnlcnikpngcaaDoorSpA
namespace Go.Proofs.YtipnlcnikpngcaaDoor
namespace Wp
open Go.RowKit
set_option linter.unusedVariables false
set_option maxRecDepth 8000
/-- What goes along an edge. -/
def setSc (N A C : Nat) (s : Nat → Int) (x y : Nat) (k : Bool) : Int × Int × Bool := if x = y then (0, 0, false) else if s 1 = 0 then ((pr N A C (if k = true then y else x) : Nat), 0, true) else if s 1 = 1 then (all64, 1, true) else (0, 0, false)
abbrev Kt (b : Nat) (N A C x y z : Int) (w : World) : Prop := K3 b N A C w ∧ K3 (b + 1 + 1) x y z w
set_option maxHeartbeats 4000000 in
theorem tell_any (N A C : Nat) (s : Nat → Int) (x y : Nat) (z : Int) (k : Bool) (hx : x < N) (hy : y < N) (hN : N ≤ 2147483647) (hA : A < N) (hC : C < N) (w : World) :
    Calls Tryd.prog 82 #[.agg (rk N A C), .agg (sv s), .agg (ev x y z), .bool k, .int .u64 1] w fun e w' => e = .returned (.tuple #[.int .u64 (setSc N A C s x y k).1, .int .u64 (setSc N A C s x y k).2.1, .bool (setSc N A C s x y k).2.2, .int .i64 0]) ∧ Below w.heap.size w w' := by
  by_cases h1 : x = y
  · have hE : setSc N A C s x y k = (0, 0, false) := by unfold setSc; rw [if_pos h1]
    rw [hE]
    have hb : ((x : Int) == (y : Int)) = true := by simp [h1]
    clear h1 hE
    go_enter Tryd.func82, Tryd.ntmps82
    go_wp2
    refine bodyPost_ret (results_tmp4 rfl _ _ _) rfl ?_
    exact ⟨rfl, by repeat first | exact Below.refl _ _ | refine belowD ?_ | refine belowN ?_ _ | refine bA ?_ (by first | exact Nat.le_refl _ | (simp only [World.size_alloc]; omega)) _⟩
  · have hb : ((x : Int) == (y : Int)) = false := by simp; omega
    by_cases h2 : s 1 = 0
    · obtain ⟨v, hv, hvN, hvI⟩ : ∃ v : Nat, (if k = true then y else x) = v ∧ v < N ∧ (if k = true then (y : Int) else (x : Int)) = v := by
        cases k
        · exact ⟨x, rfl, hx, rfl⟩
        · exact ⟨y, rfl, hy, rfl⟩
      have hE : setSc N A C s x y k = (((pr N A C v : Nat) : Int), 0, true) := by unfold setSc; rw [if_neg h1, if_pos h2, hv]
      rw [hE]
      have hT := teller_any (x : Int) (y : Int) z k
      rw [hvI] at hT
      have HT := hide hT
      have HP := hide (prio_at N A C v hvN hN hA hC)
      generalize pr N A C v = q at HP
      have hb2 : (s 1 == 0) = true := by simp [h2]
      clear h1 hE hT hx hy hN hA hC hv hvN hvI h2
      go_enter Tryd.func82, Tryd.ntmps82
      go_wp2
      go_region_with (first | (go_at_call 83; refine (HT.out _).mono ?_; rintro e1 w1 ⟨rfl, hw1⟩; subst w1) | (go_at_call 79; refine (HP.out _).mono ?_; rintro e2 w2 ⟨rfl, hw2⟩; subst w2))
      all_goals go_wp2
      all_goals refine bodyPost_ret (results_tmp4 rfl _ _ _) rfl ?_
      all_goals exact ⟨rfl, by repeat first | exact Below.refl _ _ | refine belowD ?_ | refine belowN ?_ _ | refine bA ?_ (by first | exact Nat.le_refl _ | (simp only [World.size_alloc]; omega)) _⟩
    · have hb2 : (s 1 == 0) = false := by simp [h2]
      by_cases h3 : s 1 = 1
      · have hE : setSc N A C s x y k = (all64, 1, true) := by unfold setSc; rw [if_neg h1, if_neg h2, if_pos h3]
        rw [hE]
        have hb3 : (s 1 == 1) = true := by simp [h3]
        clear h1 h2 h3 hE
        go_enter Tryd.func82, Tryd.ntmps82
        go_wp2
        refine bodyPost_ret (results_tmp4 rfl _ _ _) rfl ?_
        exact ⟨rfl, by repeat first | exact Below.refl _ _ | refine belowD ?_ | refine belowN ?_ _ | refine bA ?_ (by first | exact Nat.le_refl _ | (simp only [World.size_alloc]; omega)) _⟩
      · have hE : setSc N A C s x y k = (0, 0, false) := by unfold setSc; rw [if_neg h1, if_neg h2, if_neg h3]
        rw [hE]
        have hb3 : (s 1 == 1) = false := by simp [h3]
        clear h1 h2 h3 hE
        go_enter Tryd.func82, Tryd.ntmps82
        go_wp2
        refine bodyPost_ret (results_tmp4 rfl _ _ _) rfl ?_
        exact ⟨rfl, by repeat first | exact Below.refl _ _ | refine belowD ?_ | refine belowN ?_ _ | refine bA ?_ (by first | exact Nat.le_refl _ | (simp only [World.size_alloc]; omega)) _⟩
set_option maxHeartbeats 4000000 in
theorem sscatter (N A C : Nat) (c s : Nat → Int) (x y : Nat) (z : Int) (k : Bool) (hx : x < N) (hy : y < N) (hN : N ≤ 2147483647) (hA : A < N) (hC : C < N) (w : World) :
    Calls Tryd.prog 81 #[.agg (rk N A C), .agg (cv c), .agg (sv s), .agg (ev x y z), .bool k] w fun e w' => e = .returned (.tuple #[.int .u64 (setSc N A C s x y k).1, .int .u64 (setSc N A C s x y k).2.1, .bool (setSc N A C s x y k).2.2, .int .i64 0]) ∧ Below w.heap.size w w' := by
  have HT := hide (tell_any N A C s x y z k hx hy hN hA hC)
  obtain ⟨a, b, d, hE⟩ : ∃ a b d, setSc N A C s x y k = (a, b, d) := ⟨_, _, _, rfl⟩
  rw [hE] at HT ⊢
  have HB0 : Hid (Below w.heap.size w ((((w.alloc (.cells (rk N A C) 57)).alloc (.cells (cv c) 65)).alloc (.cells (sv s) 41)).alloc (.cells (ev x y z) 52))) := by repeat first | exact Below.refl _ _ | refine belowD ?_ | refine belowN ?_ _ | refine bA ?_ (by first | exact Nat.le_refl _ | (simp only [World.size_alloc]; omega)) _
  clear hE hx hy hN hA hC
  go_enter Tryd.func81, Tryd.ntmps81
  go_wp2_with (fail)
  refine (HT.out _).mono ?_
  rintro e1 w1 ⟨rfl, hw1⟩
  have HB1 : Hid (Below w.heap.size w w1) := HB0.out.trans (hw1.mono HB0.out.size)
  clear hw1
  go_wp2
  refine bodyPost_ret (results_tmp4 rfl _ _ _) rfl ?_
  exact ⟨rfl, HB1.out⟩
theorem neq_in (W : World) : (binOp .neq 41 (.agg #[.int .u64 1, .int .u64 1, .int .u64 18446744073709551615, .int .u64 0, .int .u64 0, .int .u64 0, .int .u64 0, .int .u64 0]) (.agg #[.int .u64 0, .int .u64 0, .int .u64 18446744073709551615, .int .u64 0, .int .u64 0, .int .u64 0, .int .u64 0, .int .u64 0])).run Tryd.prog W = .ok (.bool true) W := by
  have uU := Tryd.underlying23
  have aU := Tryd.isAgg23
  have zU := Tryd.sizeOf23
  simp only [binOp, Op.equal, Op.maxDepth, Sem.run_bind]
  rw [show (10000 : Nat) = 9999 + 1 from rfl, Op.equalIn]
  simp only [Sem.run_bind, run_underlying Tryd.underlying41, Result.andThen_ok]
  simp only [Std.Legacy.Range.forIn_eq_forIn_range', Std.Legacy.Range.size, Nat.sub_zero, Nat.add_sub_cancel, Nat.div_one, List.range'_succ, List.range'_zero, List.forIn_cons, List.forIn_nil]
  go_simp
theorem neq_out (W : World) : (binOp .neq 41 (.agg #[.int .u64 0, .int .u64 2, .int .u64 18446744073709551615, .int .u64 0, .int .u64 0, .int .u64 0, .int .u64 0, .int .u64 0]) (.agg #[.int .u64 0, .int .u64 0, .int .u64 18446744073709551615, .int .u64 0, .int .u64 0, .int .u64 0, .int .u64 0, .int .u64 0])).run Tryd.prog W = .ok (.bool true) W := by
  have uU := Tryd.underlying23
  have aU := Tryd.isAgg23
  have zU := Tryd.sizeOf23
  simp only [binOp, Op.equal, Op.maxDepth, Sem.run_bind]
  rw [show (10000 : Nat) = 9999 + 1 from rfl, Op.equalIn]
  simp only [Sem.run_bind, run_underlying Tryd.underlying41, Result.andThen_ok]
  simp only [Std.Legacy.Range.forIn_eq_forIn_range', Std.Legacy.Range.size, Nat.sub_zero, Nat.add_sub_cancel, Nat.div_one, List.range'_succ, List.range'_zero, List.forIn_cons, List.forIn_nil]
  go_simp
theorem neq_wait (W : World) : (binOp .neq 41 (.agg #[.int .u64 0, .int .u64 0, .int .u64 18446744073709551615, .int .u64 0, .int .u64 0, .int .u64 0, .int .u64 0, .int .u64 0]) (.agg #[.int .u64 0, .int .u64 0, .int .u64 18446744073709551615, .int .u64 0, .int .u64 0, .int .u64 0, .int .u64 0, .int .u64 0])).run Tryd.prog W = .ok (.bool false) W := by
  have uU := Tryd.underlying23
  have aU := Tryd.isAgg23
  have zU := Tryd.sizeOf23
  simp only [binOp, Op.equal, Op.maxDepth, Sem.run_bind]
  rw [show (10000 : Nat) = 9999 + 1 from rfl, Op.equalIn]
  simp only [Sem.run_bind, run_underlying Tryd.underlying41, Result.andThen_ok]
  simp only [Std.Legacy.Range.forIn_eq_forIn_range', Std.Legacy.Range.size, Nat.sub_zero, Nat.add_sub_cancel, Nat.div_one, List.range'_succ, List.range'_zero, List.forIn_cons, List.forIn_nil]
  go_simp
/-- What a vertex becomes. -/
def setAp (N A C : Nat) (v : Nat) (s : Nat → Int) : (Nat → Int) × Bool := if s 1 = 0 then (if s 3 = 0 then (if ((pr N A C v : Nat) : Int) < s 2 then (w5 1 1 all64 0 0, true) else (w5 0 0 all64 0 0, false)) else (w5 0 2 all64 0 0, true)) else (w5 (s 0) 2 all64 0 0, false)
set_option maxHeartbeats 4000000 in
theorem sapply (N A C : Nat) (c : Nat → Int) (v : Nat) (s : Nat → Int) (hx : v < N) (hN : N ≤ 2147483647) (hA : A < N) (hC : C < N) (w : World) :
    Calls Tryd.prog 80 #[.agg (rk N A C), .agg (cv c), .int .u32 (v : Int), .agg (sv s)] w fun e w' => e = .returned (.tuple #[.agg (sv (setAp N A C v s).1), .bool (setAp N A C v s).2, .int .i64 0]) ∧ Below w.heap.size w w' := by
  have HP := hide (prio_at N A C v hx hN hA hC)
  by_cases h1 : s 1 = 0
  · have hb1 : (s 1 != 0) = false := by simp [h1]
    by_cases h3 : s 3 = 0
    · have hb3 : (s 3 != 0) = false := by simp [h3]
      by_cases h2 : ((pr N A C v : Nat) : Int) < s 2
      · have hE : setAp N A C v s = (w5 1 1 all64 0 0, true) := by unfold setAp; rw [if_pos h1, if_pos h3, if_pos h2]
        have hq := neq_in
        rw [hE]
        generalize pr N A C v = q at HP h2
        clear hE h1 h3 hx hN hA hC
        go_enter Tryd.func80, Tryd.ntmps80
        go_wp2_with (fail)
        refine (HP.out _).mono ?_
        rintro e1 w1 ⟨rfl, hw1⟩
        subst w1
        go_wp2
        go_region
        all_goals go_wp2
        all_goals (refine bodyPost_ret (v := .tuple #[.agg (sv (w5 1 1 all64 0 0)), .bool true, .int .i64 0]) ?_ rfl ⟨rfl, by repeat first | exact Below.refl _ _ | refine belowD ?_ | refine belowN ?_ _ | refine bA ?_ (by first | exact Nat.le_refl _ | (simp only [World.size_alloc]; omega) | (simp only [World.size_alloc, World.size_drew]; omega)) _⟩)
        all_goals simp only [results, Tryd.results80, asAddr, sv_w5]
        all_goals go_simp
      · have hE : setAp N A C v s = (w5 0 0 all64 0 0, false) := by unfold setAp; rw [if_pos h1, if_pos h3, if_neg h2]
        have hq := neq_wait
        rw [hE]
        generalize pr N A C v = q at HP h2
        clear hE h1 h3 hx hN hA hC
        go_enter Tryd.func80, Tryd.ntmps80
        go_wp2_with (fail)
        refine (HP.out _).mono ?_
        rintro e1 w1 ⟨rfl, hw1⟩
        subst w1
        go_wp2
        go_region
        all_goals go_wp2
        all_goals (refine bodyPost_ret (v := .tuple #[.agg (sv (w5 0 0 all64 0 0)), .bool false, .int .i64 0]) ?_ rfl ⟨rfl, by repeat first | exact Below.refl _ _ | refine belowD ?_ | refine belowN ?_ _ | refine bA ?_ (by first | exact Nat.le_refl _ | (simp only [World.size_alloc]; omega) | (simp only [World.size_alloc, World.size_drew]; omega)) _⟩)
        all_goals simp only [results, Tryd.results80, asAddr, sv_w5]
        all_goals go_simp
    · have hb3 : (s 3 != 0) = true := by simp [h3]
      have hE : setAp N A C v s = (w5 0 2 all64 0 0, true) := by unfold setAp; rw [if_pos h1, if_neg h3]
      have hq := neq_out
      rw [hE]
      generalize pr N A C v = q at HP
      clear hE h1 h3 hx hN hA hC
      go_enter Tryd.func80, Tryd.ntmps80
      go_wp2_with (fail)
      refine (HP.out _).mono ?_
      rintro e1 w1 ⟨rfl, hw1⟩
      subst w1
      go_wp2
      go_region
      all_goals go_wp2
      all_goals (refine bodyPost_ret (v := .tuple #[.agg (sv (w5 0 2 all64 0 0)), .bool true, .int .i64 0]) ?_ rfl ⟨rfl, by repeat first | exact Below.refl _ _ | refine belowD ?_ | refine belowN ?_ _ | refine bA ?_ (by first | exact Nat.le_refl _ | (simp only [World.size_alloc]; omega) | (simp only [World.size_alloc, World.size_drew]; omega)) _⟩)
      all_goals simp only [results, Tryd.results80, asAddr, sv_w5]
      all_goals go_simp
  · have hb1 : (s 1 != 0) = true := by simp [h1]
    have hE : setAp N A C v s = (w5 (s 0) 2 all64 0 0, false) := by unfold setAp; rw [if_neg h1]
    rw [hE]
    generalize pr N A C v = q at HP
    clear hE h1 hx hN hA hC
    go_enter Tryd.func80, Tryd.ntmps80
    go_wp2_with (fail)
    refine (HP.out _).mono ?_
    rintro e1 w1 ⟨rfl, hw1⟩
    subst w1
    go_wp2
    all_goals (refine bodyPost_ret (v := .tuple #[.agg (sv (w5 (s 0) 2 all64 0 0)), .bool false, .int .i64 0]) ?_ rfl ⟨rfl, by repeat first | exact Below.refl _ _ | refine belowD ?_ | refine belowN ?_ _ | refine bA ?_ (by first | exact Nat.le_refl _ | (simp only [World.size_alloc]; omega) | (simp only [World.size_alloc, World.size_drew]; omega)) _⟩)
    all_goals simp only [results, Tryd.results80, asAddr, sv_w5]
    all_goals go_simp
end Wp
end Go.Proofs.YtipnlcnikpngcaaDoor
