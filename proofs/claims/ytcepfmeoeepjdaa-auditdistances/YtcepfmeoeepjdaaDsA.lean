import Derived.Test.YtcepfmeoeepjdaaDsM
import Derived.Test.YtcepfmeoeepjdaaAuF
namespace Go.Proofs.Ytcepfmeoeepjdaa
namespace Au
open Go.RowKit
set_option linter.unusedVariables false
set_option maxRecDepth 8000
theorem wi64 (x : Int) (h0 : -9223372036854775808 ≤ x) (h1 : x ≤ 9223372036854775807) : IntKind.i64.wrap x = x := by rw [IntKind.wrap_i64]; omega
theorem w64e (x : Int) (h0 : -9223372036854775808 ≤ x) (h1 : x ≤ 9223372036854775807) : wrap64 x = x := by unfold wrap64; omega
/-- An edge's weight, the document's. -/
theorem rweight_any (k : Int) (z : Nat) (w : World) : Calls Try.prog 80 #[.int .i64 k, .int .u32 (z : Int)] w fun e w' => e = .returned (.int .i64 (wk k z)) ∧ w' = w := by
  by_cases e : k = 1
  · have hb : (k == 1) = true := by rw [e]; rfl
    have hE : Hid (wk k z = 1) := by show _ = _; unfold wk; rw [if_pos e]
    rw [hE.out]
    clear e
    go_enter Try.func80, Try.ntmps80
    go_wp2
    all_goals go_ret
    all_goals exact ⟨rfl, rfl⟩
  · have hb : (k == 1) = false := by simpa using e
    have hE : Hid (wrap32 z = wk k z) := by show _ = _; unfold wk; rw [if_neg e]
    have hB := wk_b k z
    rw [← hE.out] at hB
    rw [← hE.out]
    clear e
    go_enter Try.func80, Try.ntmps80
    go_wp2
    all_goals go_ret
    all_goals first | exact ⟨rfl, rfl⟩ | exact ⟨ret_int (w64e _ (by omega) (by omega)), rfl⟩
/-- The program's: the kind stands in the inquiry. -/
theorem weight_any (qb s rb n : Nat) (kd : Int) (x y z : Nat) (w : World) (h1 : w.cell? ⟨qb, 1, none⟩ = some (.int .i64 kd)) (hq : qb < w.heap.size) : Calls Try.prog 104 #[.agg #[.pointer (some ⟨qb, 0, none⟩), .int .u32 (s : Int), .slice (some ⟨rb, 0, none⟩) n n], eV x y z] w fun e w' => e = .returned (.int .i64 (wk kd z)) ∧ Below w.heap.size w w' := by
  have HB : Hid (∀ C C', Below w.heap.size w ((w.alloc (.cells C 103)).alloc (.cells C' 73))) := fun C C' => bA (b1 _ _ _) (by simp) _
  by_cases e : kd = 1
  · have hb : (kd == 1) = true := by rw [e]; rfl
    have hE : Hid (wk kd z = 1) := by show _ = _; unfold wk; rw [if_pos e]
    rw [hE.out]
    clear e
    go_enter Try.func104, Try.ntmps104
    go_wp2
    all_goals go_ret
    all_goals exact ⟨rfl, HB.out _ _⟩
  · have hb : (kd == 1) = false := by simpa using e
    have hE : Hid (wrap32 z = wk kd z) := by show _ = _; unfold wk; rw [if_neg e]
    have hB := wk_b kd z
    rw [← hE.out] at hB
    rw [← hE.out]
    clear e
    go_enter Try.func104, Try.ntmps104
    go_wp2
    all_goals go_ret
    all_goals first | exact ⟨rfl, HB.out _ _⟩ | exact ⟨ret_int (w64e _ (by omega) (by omega)), HB.out _ _⟩
/-- How a sum stands to a number. -/
def cm (a w b : Int) : Int := if a + w < b then -1 else if b < a + w then 1 else 0
theorem rcompare_any (a x b : Int) (ha : -9223372036854775808 ≤ a ∧ a ≤ 9223372036854775807) (hx : -2147483648 ≤ x ∧ x ≤ 2147483647) (hb : -9223372036854775808 ≤ b ∧ b ≤ 9223372036854775807) (w : World) : Calls Try.prog 79 #[.int .i64 a, .int .i64 x, .int .i64 b] w fun e w' => e = .returned (.int .i64 (cm a x b)) ∧ w' = w := by
  have hs : a + x ≤ 9223372036854775807 → -9223372036854775808 ≤ a + x → wrap64 (a + x) = a + x := fun h1 h2 => w64e _ h2 h1
  by_cases x0 : 0 < x
  · have hd : wrap64 (9223372036854775807 - x) = 9223372036854775807 - x := w64e _ (by omega) (by omega)
    have hn : ¬ x < 0 := by omega
    by_cases c : 9223372036854775807 - x < a
    · have hE : Hid (cm a x b = 1) := by show _ = _; unfold cm; rw [if_neg (by omega), if_pos (by omega)]
      rw [hE.out]
      clear hs ha hx hb
      go_enter Try.func79, Try.ntmps79
      go_wp2
      all_goals go_ret
      all_goals exact ⟨rfl, rfl⟩
    · have hs2 := hs (by omega) (by omega)
      obtain ⟨q, hq⟩ : ∃ q, a + x = q := ⟨_, rfl⟩
      have hE : Hid (cm a x b = if q < b then -1 else if b < q then 1 else 0) := by show _ = _; unfold cm; rw [hq]
      rw [hE.out]
      rw [hq] at hs2
      have hs3 : wrap64 (a + x) = q := by rw [hq]; exact hs2
      clear hs ha hx hb hE hs2 hq
      by_cases c1 : q < b
      · rw [if_pos c1]
        go_enter Try.func79, Try.ntmps79
        go_wp2
        all_goals go_ret
        all_goals exact ⟨rfl, rfl⟩
      · rw [if_neg c1]
        by_cases c2 : b < q
        · rw [if_pos c2]
          go_enter Try.func79, Try.ntmps79
          go_wp2
          all_goals go_ret
          all_goals exact ⟨rfl, rfl⟩
        · rw [if_neg c2]
          go_enter Try.func79, Try.ntmps79
          go_wp2
          all_goals go_ret
          all_goals exact ⟨rfl, rfl⟩
  · by_cases x1 : x < 0
    · have hd : wrap64 (-9223372036854775808 - x) = -9223372036854775808 - x := w64e _ (by omega) (by omega)
      by_cases c : a < -9223372036854775808 - x
      · have hE : Hid (cm a x b = -1) := by show _ = _; unfold cm; rw [if_pos (by omega)]
        rw [hE.out]
        clear hs ha hx hb
        go_enter Try.func79, Try.ntmps79
        go_wp2
        all_goals go_ret
        all_goals exact ⟨rfl, rfl⟩
      · have hs2 := hs (by omega) (by omega)
        obtain ⟨q, hq⟩ : ∃ q, a + x = q := ⟨_, rfl⟩
        have hE : Hid (cm a x b = if q < b then -1 else if b < q then 1 else 0) := by show _ = _; unfold cm; rw [hq]
        rw [hE.out]
        have hs3 : wrap64 (a + x) = q := by rw [hs2, hq]
        clear hs ha hx hb hE hs2 hq
        by_cases c1 : q < b
        · rw [if_pos c1]
          go_enter Try.func79, Try.ntmps79
          go_wp2
          all_goals go_ret
          all_goals exact ⟨rfl, rfl⟩
        · rw [if_neg c1]
          by_cases c2 : b < q
          · rw [if_pos c2]
            go_enter Try.func79, Try.ntmps79
            go_wp2
            all_goals go_ret
            all_goals exact ⟨rfl, rfl⟩
          · rw [if_neg c2]
            go_enter Try.func79, Try.ntmps79
            go_wp2
            all_goals go_ret
            all_goals exact ⟨rfl, rfl⟩
    · have hs2 := hs (by omega) (by omega)
      obtain ⟨q, hq⟩ : ∃ q, a + x = q := ⟨_, rfl⟩
      have hE : Hid (cm a x b = if q < b then -1 else if b < q then 1 else 0) := by show _ = _; unfold cm; rw [hq]
      rw [hE.out]
      have hs3 : wrap64 (a + x) = q := by rw [hs2, hq]
      clear hs ha hx hb hE hs2 hq
      by_cases c1 : q < b
      · rw [if_pos c1]
        go_enter Try.func79, Try.ntmps79
        go_wp2
        all_goals go_ret
        all_goals exact ⟨rfl, rfl⟩
      · rw [if_neg c1]
        by_cases c2 : b < q
        · rw [if_pos c2]
          go_enter Try.func79, Try.ntmps79
          go_wp2
          all_goals go_ret
          all_goals exact ⟨rfl, rfl⟩
        · rw [if_neg c2]
          go_enter Try.func79, Try.ntmps79
          go_wp2
          all_goals go_ret
          all_goals exact ⟨rfl, rfl⟩
theorem isnan_any (x : Int) (w : World) : Calls Try.prog 125 #[.int .i64 x] w fun e w' => e = .returned (.bool false) ∧ w' = w := by
  have hb : (x != x) = false := by simp
  go_enter Try.func125, Try.ntmps125
  go_wp2
  all_goals go_ret
  all_goals exact ⟨rfl, rfl⟩
theorem ccompare_any (x y : Int) (w : World) : Calls Try.prog 123 #[.int .i64 x, .int .i64 y] w fun e w' => e = .returned (.int .i64 (if x < y then -1 else if y < x then 1 else 0)) ∧ w' = w := by
  have HN := hide isnan_any
  by_cases c1 : x < y
  · rw [if_pos c1]
    go_enter Try.func123, Try.ntmps123
    go_wp2_with (fail)
    refine (HN.out _ _).mono ?_
    rintro e1 w1 ⟨rfl, h1⟩
    subst w1
    go_wp2_with (fail)
    refine (HN.out _ _).mono ?_
    rintro e2 w2 ⟨rfl, h2⟩
    subst w2
    go_wp2
    all_goals go_ret
    all_goals exact ⟨rfl, rfl⟩
  · rw [if_neg c1]
    by_cases c2 : y < x
    · rw [if_pos c2]
      go_enter Try.func123, Try.ntmps123
      go_wp2_with (fail)
      refine (HN.out _ _).mono ?_
      rintro e1 w1 ⟨rfl, h1⟩
      subst w1
      go_wp2_with (fail)
      refine (HN.out _ _).mono ?_
      rintro e2 w2 ⟨rfl, h2⟩
      subst w2
      go_wp2
      all_goals go_ret
      all_goals exact ⟨rfl, rfl⟩
    · rw [if_neg c2]
      go_enter Try.func123, Try.ntmps123
      go_wp2_with (fail)
      refine (HN.out _ _).mono ?_
      rintro e1 w1 ⟨rfl, h1⟩
      subst w1
      go_wp2_with (fail)
      refine (HN.out _ _).mono ?_
      rintro e2 w2 ⟨rfl, h2⟩
      subst w2
      go_wp2
      all_goals go_ret
      all_goals exact ⟨rfl, rfl⟩
/-- The sum in two's complement. -/
def ad (a x : Int) : Int := if (decide (a < wrap64 (a + x)) != decide (0 < x)) = true then 0 else wrap64 (a + x)
def ade (a x : Int) : Int := if (decide (a < wrap64 (a + x)) != decide (0 < x)) = true then 13 else 0
theorem gadd_any (a x : Int) (w : World) : Calls Try.prog 122 #[.int .i64 a, .int .i64 x] w fun e w' => e = .returned (.tuple #[.int .i64 (ad a x), .int .i64 (ade a x)]) ∧ w' = w := by
  unfold ad ade
  obtain ⟨q, hq⟩ : ∃ q, wrap64 (a + x) = q := ⟨_, rfl⟩
  rw [hq]
  cases hb : (decide (a < q) != decide (0 < x)) with
  | true =>
    go_enter Try.func122, Try.ntmps122
    go_wp2
    all_goals go_ret2
    all_goals first | exact ⟨rfl, rfl⟩ | (exfalso; simp_all; done)
  | false =>
    go_enter Try.func122, Try.ntmps122
    go_wp2
    all_goals go_ret2
    all_goals first | exact ⟨rfl, rfl⟩ | (exfalso; simp_all; done)
theorem against_any (a x b : Int) (ha : -9223372036854775808 ≤ a ∧ a ≤ 9223372036854775807) (hx : -2147483648 ≤ x ∧ x ≤ 2147483647) (hb : -9223372036854775808 ≤ b ∧ b ≤ 9223372036854775807) (w : World) : Calls Try.prog 103 #[.int .i64 a, .int .i64 x, .int .i64 b] w fun e w' => e = .returned (.int .i64 (cm a x b)) ∧ w' = w := by
  have HA := hide (gadd_any a x)
  have HC := hide ccompare_any
  by_cases c : -9223372036854775808 ≤ a + x ∧ a + x ≤ 9223372036854775807
  · have h1 : wrap64 (a + x) = a + x := w64e _ c.1 c.2
    have h2 : (decide (a < a + x) != decide (0 < x)) = false := by
      by_cases k : 0 < x
      · have k2 : a < a + x := by omega
        simp [k, k2]
      · have k2 : ¬ a < a + x := by omega
        simp [k, k2]
    have h3 : ade a x = 0 := by unfold ade; rw [h1, h2]; rfl
    have h4 : ad a x = a + x := by unfold ad; rw [h1, h2]; rfl
    rw [h3, h4] at HA
    have hE : Hid (cm a x b = if a + x < b then -1 else if b < a + x then 1 else 0) := rfl
    obtain ⟨q, hq⟩ : ∃ q, a + x = q := ⟨_, rfl⟩
    rw [hE.out]
    rw [hq] at HA ⊢
    clear h1 h2 h3 h4 hE hq c ha hx hb
    go_enter Try.func103, Try.ntmps103
    go_wp2_with (fail)
    refine (HA.out _).mono ?_
    rintro e1 w1 ⟨rfl, h1⟩
    subst w1
    go_wp2_with (fail)
    refine (HC.out _ _ _).mono ?_
    rintro e2 w2 ⟨rfl, h2⟩
    subst w2
    go_wp2
    all_goals go_ret
    all_goals exact ⟨rfl, rfl⟩
  · have h3 : ade a x = 13 := by
      unfold ade
      rw [if_pos]
      have e : wrap64 (a + x) = a + x - 18446744073709551616 ∨ wrap64 (a + x) = a + x + 18446744073709551616 := by unfold wrap64; omega
      by_cases k : 0 < x
      · have : ¬ a < wrap64 (a + x) := by unfold wrap64; omega
        simp [k, this]
      · have : a < wrap64 (a + x) := by unfold wrap64; omega
        simp [k, this]
    rw [h3] at HA
    have hE : Hid (cm a x b = if x < 0 then -1 else if 0 < x then 1 else 0) := by
      show _ = _
      unfold cm
      by_cases k : 0 < x
      · rw [if_neg (by omega), if_pos (by omega), if_neg (by omega), if_pos k]
      · rw [if_pos (by omega), if_pos (by omega)]
    rw [hE.out]
    clear h3 hE c ha hx hb
    generalize ad a x = q at *
    go_enter Try.func103, Try.ntmps103
    go_wp2_with (fail)
    refine (HA.out _).mono ?_
    rintro e1 w1 ⟨rfl, h1⟩
    subst w1
    go_wp2_with (fail)
    refine (HC.out _ _ _).mono ?_
    rintro e2 w2 ⟨rfl, h2⟩
    subst w2
    go_wp2
    all_goals go_ret
    all_goals exact ⟨rfl, rfl⟩
end Au
end Go.Proofs.Ytcepfmeoeepjdaa
