import Derived.Test.YtlkipgpfjpmliaaFmB
import Derived.Laws.EntriesVeiled
namespace Go.Proofs.Ytlkipgpfjpmliaa
namespace Ft
open Go.RowKit
set_option linter.unusedVariables false
set_option maxRecDepth 8000
/-- What a maker answers: a program, or an error. -/
def MK (E : Int) (w : World) (e : Ending) (w' : World) : Prop := ∃ p, e = .returned (.tuple #[.pointer p, .int .i64 E]) ∧ (E = 0 → ∃ x, p = some x) ∧ (E ≠ 0 → p = none) ∧ Below w.heap.size w w'
theorem MK.no {E : Int} {w w' : World} (h : E ≠ 0) (hb : Below w.heap.size w w') : MK E w (.returned (.tuple #[.pointer none, .int .i64 E])) w' := ⟨none, rfl, fun h' => absurd h' h, fun _ => rfl, hb⟩
theorem MK.yes {w w' : World} {x : Addr} (hb : Below w.heap.size w w') : MK 0 w (.returned (.tuple #[.pointer (some x), .int .i64 0])) w' := ⟨some x, rfl, fun _ => ⟨x, rfl⟩, fun h => absurd rfl h, hb⟩
theorem row1 (w : World) (s : Int) : Row (w.alloc (.cells #[.int .u32 s] 25)) (some ⟨w.heap.size, 0, none⟩) [s] := fun _ => ⟨_, rfl, by simp, fun i e he => by
  have hi : i = 0 := by
    rcases Nat.eq_zero_or_pos i with h | h
    · exact h
    · rw [List.getElem?_eq_none (by simp; omega)] at he; cases he
  subst hi
  simp at he
  subst he
  rw [show (⟨w.heap.size, 0, none⟩ : Addr).add 0 = ⟨w.heap.size, 0, none⟩ from rfl]
  exact cell_new w #[.int .u32 s] 25 0 _ rfl⟩
set_option maxHeartbeats 2000000 in
theorem bfs_any (n s : Int) (w : World) : Calls Try.prog 19 #[.int .u32 n, .int .u32 s] w fun e w' => MK (lv n [s]) w e w' := by
  have HL := hide (levels_any n _ 1 [s] _ (row1 w s) (fun h => by cases h) (by simp))
  have HB := hide (b1 w 25 #[.int .u32 s])
  have hE : ∃ E, lv n [s] = E := ⟨_, rfl⟩
  obtain ⟨E, hE⟩ := hE
  have HE := hide hE
  rw [hE]
  clear hE
  go_enter Try.func19, Try.ntmps19
  go_wp2_with (fail)
  refine HL.out.mono ?_
  rintro e1 w1 ⟨p, b, l, c', rfl, h1⟩
  rw [HE.out]
  have HB2 : Hid (Below w.heap.size w w1) := HB.out.trans (h1.mono (by simp))
  have HZ : Hid (w.heap.size ≤ w1.heap.size) := HB2.out.size
  clear h1
  by_cases h0 : E = 0
  · subst h0
    go_wp2
    all_goals go_ret2
    all_goals exact MK.yes (by repeat first | exact HB2.out | refine belowD ?_ | refine bA ?_ (by first | exact HZ.out | (simp only [World.size_alloc]; exact Nat.le_succ_of_le HZ.out)) _)
  · have hb : (E != 0) = true := by simp [h0]
    have H0 := hide h0
    clear h0
    go_wp2
    all_goals go_ret2
    all_goals exact MK.no H0.out (by repeat first | exact HB2.out | refine belowD ?_ | refine bA ?_ (by first | exact HZ.out | (simp only [World.size_alloc]; exact Nat.le_succ_of_le HZ.out)) _)
set_option maxHeartbeats 2000000 in
theorem reach_any (n : Int) (a : Option Addr) (c : Nat) (L : List Int) (w : World) (hr : Row w a L) (hn : a = none → c = 0) (h63 : L.length ≤ 35184372088832) : Calls Try.prog 20 #[.int .u32 n, .slice a L.length c] w fun e w' => MK (lv n L) w e w' := by
  have HL := hide (levels_any n a c L w hr hn h63)
  have hE : ∃ E, lv n L = E := ⟨_, rfl⟩
  obtain ⟨E, hE⟩ := hE
  have HE := hide hE
  rw [hE]
  clear hE hr hn h63
  generalize L.length = k at *
  go_enter Try.func20, Try.ntmps20
  go_wp2_with (fail)
  refine HL.out.mono ?_
  rintro e1 w1 ⟨p, b, l, c', rfl, h1⟩
  rw [HE.out]
  have HB2 : Hid (Below w.heap.size w w1) := h1
  have HZ : Hid (w.heap.size ≤ w1.heap.size) := HB2.out.size
  clear h1
  by_cases h0 : E = 0
  · subst h0
    go_wp2
    all_goals go_ret2
    all_goals exact MK.yes (by repeat first | exact HB2.out | refine belowD ?_ | refine bA ?_ (by first | exact HZ.out | (simp only [World.size_alloc]; exact Nat.le_succ_of_le HZ.out)) _)
  · have hb : (E != 0) = true := by simp [h0]
    have H0 := hide h0
    clear h0
    go_wp2
    all_goals go_ret2
    all_goals exact MK.no H0.out (by repeat first | exact HB2.out | refine belowD ?_ | refine bA ?_ (by first | exact HZ.out | (simp only [World.size_alloc]; exact Nat.le_succ_of_le HZ.out)) _)
set_option maxHeartbeats 2000000 in
theorem wcc_any (n : Int) (w : World) : Calls Try.prog 21 #[.int .u32 n] w fun e w' => MK (if sz n = true then 0 else 2) w e w' := by
  have HZ := hide (size_any n)
  cases hs : sz n
  · rw [hs] at HZ
    rw [if_neg (by decide)]
    go_enter Try.func21, Try.ntmps21
    go_wp2_with (fail)
    refine (HZ.out _).mono ?_
    rintro e1 w1 ⟨rfl, rfl⟩
    go_wp2
    all_goals go_ret2
    all_goals exact MK.no (by decide) (Below.refl _ _)
  · rw [hs] at HZ
    rw [if_pos rfl]
    go_enter Try.func21, Try.ntmps21
    go_wp2_with (fail)
    refine (HZ.out _).mono ?_
    rintro e1 w1 ⟨rfl, rfl⟩
    go_wp2
    all_goals go_ret2
    all_goals exact MK.yes (b1 _ _ _)
set_option maxHeartbeats 2000000 in
theorem ways_any (n s k : Int) (w : World) : Calls Try.prog 26 #[.int .u32 n, .int .u32 s, .int .i64 k] w fun e w' => e = .returned (.pointer (some ⟨w.heap.size, 0, none⟩)) ∧ Below w.heap.size w w' := by
  go_enter Try.func26, Try.ntmps26
  go_wp2
  go_ret
  exact ⟨rfl, b1 _ _ _⟩
/-- The error that SSSP answers. -/
def se (n s k : Int) : Int := if sz n = true ∧ (k = 1 ∨ k = 2) then (if s < n then 0 else 130) else 2
set_option maxHeartbeats 2000000 in
theorem sssp_any (n s k : Int) (w : World) : Calls Try.prog 22 #[.int .u32 n, .int .u32 s, .int .i64 k] w fun e w' => MK (se n s k) w e w' := by
  have HZ := hide (size_any n)
  have HW := hide (ways_any n s k)
  cases hs : sz n
  · rw [hs] at HZ
    have HV : Hid (se n s k = 2) := by show _ = _; unfold se; rw [if_neg]; simp [hs]
    go_enter Try.func22, Try.ntmps22
    go_wp2_with (fail)
    refine (HZ.out _).mono ?_
    rintro e1 w1 ⟨rfl, rfl⟩
    go_wp2
    all_goals go_ret2
    all_goals (rw [HV.out]; exact MK.no (by decide) (Below.refl _ _))
  rw [hs] at HZ
  by_cases hk : k = 1 ∨ k = 2
  rotate_left
  · have HV : Hid (se n s k = 2) := by show _ = _; unfold se; rw [if_neg]; exact fun h => hk h.2
    have h1 : (k != 1) = true := by simp; omega
    have h2 : (k != 2) = true := by simp; omega
    clear hk
    go_enter Try.func22, Try.ntmps22
    go_wp2_with (fail)
    refine (HZ.out _).mono ?_
    rintro e1 w1 ⟨rfl, rfl⟩
    go_wp2
    all_goals go_ret2
    all_goals (rw [HV.out]; exact MK.no (by decide) (Below.refl _ _))
  by_cases hsn : s < n
  rotate_left
  · have HV : Hid (se n s k = 130) := by show _ = _; unfold se; rw [if_pos ⟨hs, hk⟩, if_neg hsn]
    rcases hk with rfl | rfl
    all_goals go_enter Try.func22, Try.ntmps22
    all_goals go_wp2_with (fail)
    all_goals refine (HZ.out _).mono ?_
    all_goals rintro e1 w1 ⟨rfl, rfl⟩
    all_goals go_wp2
    all_goals go_ret2
    all_goals (rw [HV.out]; exact MK.no (by decide) (Below.refl _ _))
  · have HV : Hid (se n s k = 0) := by show _ = _; unfold se; rw [if_pos ⟨hs, hk⟩, if_pos hsn]
    rcases hk with rfl | rfl
    all_goals go_enter Try.func22, Try.ntmps22
    all_goals go_wp2_with (fail)
    all_goals refine (HZ.out _).mono ?_
    all_goals rintro e1 w1 ⟨rfl, rfl⟩
    all_goals go_wp2_with (fail)
    all_goals refine (HW.out _).mono ?_
    all_goals rintro e2 w2 ⟨rfl, hB⟩
    all_goals have HB := hide hB
    all_goals clear hB
    all_goals go_wp2
    all_goals go_ret2
    all_goals (rw [HV.out]; exact MK.yes (bA HB.out HB.out.size _))
theorem ptr_some (x : Addr) (W : World) : (binOp .eql 37 (.pointer (some x)) (.pointer none)).run Try.prog W = .ok (.bool false) W := rfl
theorem ptr_none (W : World) : (binOp .eql 37 (.pointer none) (.pointer none)).run Try.prog W = .ok (.bool true) W := rfl
theorem app_next {w w1 : World} {L : List Int} {a : Option Addr} {c : Nat} (hb : Below w.heap.size w w1) (hr : Row w a L) (hn : a = none → c = 0) : Src (w1.alloc (.cells #[] 25)) (.slice a L.length c) L.length (us L) :=
  ((hr.on hb).on (b1 _ _ _)).src hn
theorem app_below {w w1 w2 : World} (hb : Below w.heap.size w w1) (h2 : (w1.alloc (.cells #[] 25)).grownBy w2 (some w1.heap.size)) : Below w.heap.size w w2 :=
  (bA hb hb.size (.cells #[] 25)).grown h2 (by simp; exact Nat.le_succ_of_le hb.size) (fun j hj => by cases hj; exact hb.size)
end Ft
end Go.Proofs.Ytlkipgpfjpmliaa
