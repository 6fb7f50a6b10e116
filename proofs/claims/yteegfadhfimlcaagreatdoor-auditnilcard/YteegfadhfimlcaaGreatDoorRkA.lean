import Derived.Test.YteegfadhfimlcaaGreatDoorRkO
import Derived.Test.YteegfadhfimlcaaGreatDoorRkG
import Derived.Laws.Externs
namespace Go.Proofs.YteegfadhfimlcaaGreatDoor
namespace Rn
open Go.RowKit
set_option linter.unusedVariables false
set_option maxRecDepth 8000
theorem frombits (n : Int) (w : World) : (callFunc 131 #[.int .u32 n]).run Tryz.prog w = .ok (.value (.float .f32 n.toNat)) w := by
  rw [run_callFunc_extern Tryz.func131 (by kernel_rfl) (by kernel_rfl) (by kernel_rfl) (e := Extern.MathFloatBits.float32frombits) (by kernel_rfl)]
  rfl
theorem float_any (u : Int) (w : World) : Calls Tryz.prog 72 #[.int .u32 u] w fun e w' => e = .returned (.float .f32 u.toNat) ∧ w' = w := by
  have h := frombits u w
  go_enter Tryz.func72, Tryz.ntmps72
  go_wp2
  go_ret
  exact ⟨rfl, rfl⟩
theorem fcmp_gt (x y : Nat) (W : World) : (binOp .gtr 93 (.float .f32 x) (.float .f32 y)).run Tryz.prog W = .ok (.bool (Ieee.single.order x y == some .gt)) W := rfl
theorem fcmp_lt (x y : Nat) (W : World) : (binOp .lss 93 (.float .f32 x) (.float .f32 y)).run Tryz.prog W = .ok (.bool (Ieee.single.order x y == some .lt)) W := rfl
theorem fsub_run {x y r : Nat} (h : Ieee.single.sub x y = some r) (W : World) : (binOp .sub 93 (.float .f32 x) (.float .f32 y)).run Tryz.prog W = .ok (.float .f32 r) W := by
  show (Op.floatArith .sub .f32 x y).run Tryz.prog W = _
  unfold Op.floatArith
  simp [FloatKind.format, h]
theorem fdiv_run {x y r : Nat} (h : Ieee.single.div x y = some r) (W : World) : (binOp .quo 93 (.float .f32 x) (.float .f32 y)).run Tryz.prog W = .ok (.float .f32 r) W := by
  show (Op.floatArith .quo .f32 x y).run Tryz.prog W = _
  unfold Op.floatArith
  simp [FloatKind.format, h]
theorem fconv_run (n : Int) (W : World) : (convert 22 93 (.int .u32 n)).run Tryz.prog W = .ok (.float .f32 (Ieee.single.nearest (decide (n < 0)) n.natAbs 0)) W := by
  unfold convert
  simp only [Sem.run_bind, run_underlying Tryz.underlying22, run_underlying Tryz.underlying93, Result.andThen_ok]
  rfl
theorem near_wd (neg : Bool) (m : Nat) (p : Int) : ∃ s U, Ieee.single.nearest neg m p = Fl.wd s U ∧ U ≤ 2139095040 := by
  by_cases h : m = 0
  · subst h; exact ⟨_, _, Fl.nearest_zero neg p, by omega⟩
  · exact ⟨_, _, Fl.nearest_raw neg m p h, Nat.min_le_right _ _⟩
theorem sub_ok (d : Nat) (h : d < 1065353216) : ∃ s U, Ieee.single.sub 1065353216 d = some (Fl.wd s U) ∧ U ≤ 2139095040 := by
  have hr : ∃ m i, Ieee.single.read d = .number false m i := by
    rw [Fl.rd, Nat.mod_eq_of_lt (show d < 2147483648 by omega), Fl.neg0 d (by omega)]
    by_cases h3 : d < 8388608
    · exact ⟨_, _, if_pos h3⟩
    · rw [if_neg h3, if_pos (by omega)]; exact ⟨_, _, rfl⟩
  obtain ⟨m, i, hr⟩ := hr
  unfold Ieee.Format.sub
  rw [Fl.read1, hr]
  show ∃ s U, some (Ieee.single.nearest _ _ _) = _ ∧ _
  obtain ⟨s, U, e, hU⟩ := near_wd (if Ieee.signed false 8388608 ((-23 : Int) - min (-23) i).toNat + Ieee.signed true m (i - min (-23) i).toNat = 0 then false && true else decide (Ieee.signed false 8388608 ((-23 : Int) - min (-23) i).toNat + Ieee.signed true m (i - min (-23) i).toNat < 0)) (Ieee.signed false 8388608 ((-23 : Int) - min (-23) i).toNat + Ieee.signed true m (i - min (-23) i).toNat).natAbs (min (-23) i)
  exact ⟨s, U, congrArg some e, hU⟩
theorem read_wd (s : Bool) (U : Nat) (h : U ≤ 2139095040) : (∃ t m i, Ieee.single.read (Fl.wd s U) = .number t m i) ∨ ∃ t, Ieee.single.read (Fl.wd s U) = .infinity t := by
  have e : Fl.wd s U % 2147483648 = U := by unfold Fl.wd; cases s <;> simp <;> omega
  rw [Fl.rd, e]
  by_cases h1 : U < 8388608
  · rw [if_pos h1]; exact Or.inl ⟨_, _, _, rfl⟩
  rw [if_neg h1]
  by_cases h2 : U < 2139095040
  · rw [if_pos h2]; exact Or.inl ⟨_, _, _, rfl⟩
  rw [if_neg h2, if_pos (by omega)]; exact Or.inr ⟨_, rfl⟩
theorem div_ok (s : Bool) (U b : Nat) (h : U ≤ 2139095040) (t : Bool) (Y : Nat) (j : Int) (hb : Ieee.single.read b = .number t Y j) (hY : Y ≠ 0) : ∃ r, Ieee.single.div (Fl.wd s U) b = some r := by
  unfold Ieee.Format.div
  rw [hb]
  rcases read_wd s U h with ⟨t', m, i, e⟩ | ⟨t', e⟩
  · rw [e]; unfold Ieee.Datum.quotient; simp only [if_neg hY]; exact ⟨_, rfl⟩
  · rw [e]; exact ⟨_, rfl⟩
/-- What PageRank reckons ahead of its making is a number. -/
theorem base_ok (d : Nat) (n : Int) (h : d < 1065353216) (h0 : 1 ≤ n) (h1 : n ≤ 2147483647) : ∃ x y, Ieee.single.sub 1065353216 d = some x ∧ Ieee.single.div x (Ieee.single.nearest (decide (n < 0)) n.natAbs 0) = some y := by
  obtain ⟨s, U, e, hU⟩ := sub_ok d h
  have hd : decide (n < 0) = false := by simp; omega
  rw [hd]
  obtain ⟨b0, b1⟩ := Fl.whole_b n.natAbs (by omega) (by omega)
  obtain ⟨y, hy⟩ := div_ok s U _ hU _ _ _ (Fl.read_norm _ b0 b1) (by omega)
  exact ⟨_, y, e, hy⟩
/-- How many vertices there may be; how many rounds. -/
def sz (n : Int) : Bool := decide (1 ≤ n) && decide (n ≤ 2147483647)
def pc (k : Int) : Bool := decide (1 ≤ k) && decide (k ≤ 65536)
theorem size_any (n : Int) (w : World) : Calls Tryz.prog 129 #[.int .u32 n] w fun e w' => e = .returned (.bool (sz n)) ∧ w' = w := by
  have HS : Hid (sz n = (decide (1 ≤ n) && decide (n ≤ 2147483647))) := rfl
  go_enter Tryz.func129, Tryz.ntmps129
  go_wp2
  all_goals go_ret
  all_goals exact ⟨ret_bool (by rw [HS.out]; simp; try omega), rfl⟩
theorem pace_any (k : Int) (w : World) : Calls Tryz.prog 130 #[.int .i64 k] w fun e w' => e = .returned (.bool (pc k)) ∧ w' = w := by
  have HS : Hid (pc k = (decide (1 ≤ k) && decide (k ≤ 65536))) := rfl
  go_enter Tryz.func130, Tryz.ntmps130
  go_wp2
  all_goals go_ret
  all_goals exact ⟨ret_bool (by rw [HS.out]; simp; try omega), rfl⟩
/-- What a maker answers: a program, or an error. -/
def MK (E : Int) (w : World) (e : Ending) (w' : World) : Prop := ∃ p, e = .returned (.tuple #[.pointer p, .int .i64 E]) ∧ (E = 0 → ∃ x, p = some x) ∧ (E ≠ 0 → p = none) ∧ Below w.heap.size w w'
theorem MK.no {E : Int} {w w' : World} (h : E ≠ 0) (hb : Below w.heap.size w w') : MK E w (.returned (.tuple #[.pointer none, .int .i64 E])) w' := ⟨none, rfl, fun h' => absurd h' h, fun _ => rfl, hb⟩
theorem MK.yes {w w' : World} {x : Addr} (hb : Below w.heap.size w w') : MK 0 w (.returned (.tuple #[.pointer (some x), .int .i64 0])) w' := ⟨some x, rfl, fun _ => ⟨x, rfl⟩, fun h => absurd rfl h, hb⟩
set_option maxHeartbeats 2000000 in
theorem cond_any (n k : Int) (w : World) : Calls Tryz.prog 85 #[.int .u32 n, .int .u64 k] w fun e w' => MK (if sz n = true then 0 else 2) w e w' := by
  have HZ := hide (size_any n)
  cases hs : sz n
  · rw [hs] at HZ
    rw [if_neg (by decide)]
    go_enter Tryz.func85, Tryz.ntmps85
    go_wp2_with (fail)
    refine (HZ.out _).mono ?_
    rintro e1 w1 ⟨rfl, hw1⟩
    subst w1
    go_wp2
    all_goals go_ret2
    all_goals exact MK.no (by decide) (Below.refl _ _)
  · rw [hs] at HZ
    rw [if_pos rfl]
    go_enter Tryz.func85, Tryz.ntmps85
    go_wp2_with (fail)
    refine (HZ.out _).mono ?_
    rintro e1 w1 ⟨rfl, hw1⟩
    subst w1
    go_wp2
    all_goals go_ret2
    all_goals exact MK.yes (by repeat first | exact Below.refl _ _ | refine belowD ?_ | refine belowN ?_ _ | refine bA ?_ (by first | exact Nat.le_refl _ | (simp only [World.size_alloc]; omega)) _)
end Rn
end Go.Proofs.YteegfadhfimlcaaGreatDoor
