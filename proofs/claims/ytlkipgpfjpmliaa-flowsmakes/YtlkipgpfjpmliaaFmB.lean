import Derived.Test.YtlkipgpfjpmliaaFmA
import Derived.Laws.CopyOwn
namespace Go.Proofs.Ytlkipgpfjpmliaa
namespace Ft
open Go.RowKit
set_option linter.unusedVariables false
set_option maxRecDepth 8000
theorem nil_eq (c : Nat) (W : World) : (binOp .eql 58 (.slice none 0 0) (.slice none 0 0)).run Try.prog W = .ok (.bool true) W := rfl
theorem some_ne (x : Addr) (l c : Nat) (W : World) : (binOp .eql 58 (.slice (some x) l c) (.slice none 0 0)).run Try.prog W = .ok (.bool false) W := rfl
set_option maxHeartbeats 1000000 in
theorem clone_any (a : Option Addr) (c : Nat) (L : List Int) (w : World) (hr : Row w a L) (hn : a = none → c = 0) (h63 : L.length ≤ 35184372088832) :
    Calls Try.prog 28 #[.slice a L.length c] w fun e w' => ∃ b l c', e = .returned (.slice b l c') ∧ Below w.heap.size w w' := by
  cases a with
  | none =>
    obtain rfl := hn rfl
    have hL : L.length = 0 := by
      rcases Nat.eq_zero_or_pos L.length with h | h
      · exact h
      · obtain ⟨x, h1, _⟩ := hr h; cases h1
    rw [hL]
    have hq := nil_eq 0
    clear hr hn h63 hL
    go_enter Try.func28, Try.ntmps28
    go_wp2
    all_goals go_ret
    all_goals exact ⟨_, _, _, rfl, Below.refl _ _⟩
  | some x =>
    have hq := some_ne x L.length c
    have hs0 := hide (hr.src (c := c) hn)
    have HO := hide (comp_own w w.heap.size (Nat.le_refl _))
    have hs : Hid (Src (w.alloc (.cells #[] 25)) (.slice (some x) L.length c) L.length (us L)) := by
      exact (hr.on (b1 _ _ _)).src hn
    clear hr hs0 hn
    go_enter Try.func28, Try.ntmps28
    go_wp2_with (refine wpList_append_src rfl _ _ rfl w.heap.size _ _ 0 L.length [] (us L) rfl HO.out rfl hs.out (by omega) (by simp) ?_)
    rintro v' w' h1 h2 h3
    have hU : UL w' w.heap.size v' L := by unfold UL; simpa using h1
    have hB : Below w.heap.size w w' := (b1 w 25 #[]).grown h2 (by simp) (fun j hj => (World.ownsRow.lt HO.out j hj).1)
    obtain ⟨b, c', rfl, hR, hc⟩ := hU.row
    clear h1 h2 h3 HO hs hU
    go_wp2
    go_ret
    exact ⟨b, _, c', rfl, hB⟩
theorem cell_new (v : World) (c : Array Value) (t : TypeId) (i : Nat) (x : Value) (h : c[i]? = some x) : (v.alloc (.cells c t)).cell? ⟨v.heap.size, i, none⟩ = some x := by
  have := at0 v (.cells c t)
  simp only [World.cell?, this]; exact h
theorem size72 : (Try.prog.info? 72).map (·.size) = some 2 := by kernel_rfl
theorem one2 (n : Int) (b : Option Addr) (l c : Nat) : (#[Value.int .u32 n, .slice b l c]).all (·.oneCell') = true := by
  rw [Array.all_eq_true]
  intro i hi
  match i, hi with
  | 0, _ => rfl
  | 1, _ => rfl
/-- The error that the list's maker answers. -/
def lv (n : Int) (L : List Int) : Int := if sz n = true then (if 0 < L.length ∧ L.length ≤ 64 ∧ ∀ e ∈ L, e < n then 0 else 130) else 2
theorem lv_no {n : Int} (L : List Int) (h : sz n = false) : lv n L = 2 := by simp [lv, h]
theorem lv_len {n : Int} {L : List Int} (h : sz n = true) (hl : ¬ (0 < L.length ∧ L.length ≤ 64)) : lv n L = 130 := by
  unfold lv; rw [if_pos h, if_neg (fun x => hl ⟨x.1, x.2.1⟩)]
theorem lv_max {n m : Int} {L : List Int} (h : sz n = true) (hm : Mx L L.length m) (hnm : n ≤ m) : lv n L = 130 := by
  unfold lv; rw [if_pos h, if_neg]
  intro x
  obtain ⟨i, _, hi⟩ := hm.1
  have := x.2.2 m (List.mem_of_getElem? hi)
  omega
theorem lv_ok {n m : Int} {L : List Int} (h : sz n = true) (h0 : 0 < L.length) (h64 : L.length ≤ 64) (hm : Mx L L.length m) (hnm : m < n) : lv n L = 0 := by
  unfold lv; rw [if_pos h, if_pos]
  refine ⟨h0, h64, fun e he => ?_⟩
  obtain ⟨i, hi⟩ := List.mem_iff_getElem?.1 he
  have hil : i < L.length := by
    rcases Nat.lt_or_ge i L.length with k | k
    · exact k
    · rw [List.getElem?_eq_none (by omega)] at hi; cases hi
  have := hm.2 i e hil hi
  omega
/-- What it answers. -/
def LR (n : Int) (L : List Int) (w : World) (e : Ending) (w' : World) : Prop := ∃ p b l c', e = .returned (.tuple #[.agg #[.int .u32 p, .slice b l c'], .int .i64 (lv n L)]) ∧ Below w.heap.size w w'
set_option maxHeartbeats 2000000 in
theorem levels_any (n : Int) (a : Option Addr) (c : Nat) (L : List Int) (w : World) (hr : Row w a L) (hn : a = none → c = 0) (h63 : L.length ≤ 35184372088832) :
    Calls Try.prog 24 #[.int .u32 n, .slice a L.length c] w fun e w' => LR n L w e w' := by
  have HR := hide hr
  have HB0 := hide (fun o => b1 w 72 o)
  cases hs : sz n
  · have HV := hide (lv_no L hs)
    have HZ := hide (size_any n)
    rw [hs] at HZ
    clear hr
    go_enter Try.func24, Try.ntmps24
    go_wp2_with (fail)
    refine (HZ.out _).mono ?_
    rintro e1 w1 ⟨rfl, rfl⟩
    go_wp2
    refine bodyPost_ret (v := .tuple #[.agg #[.int .u32 0, .slice none 0 0], .int .i64 2]) ?_ rfl ⟨0, none, 0, 0, by rw [HV.out], HB0.out _⟩
    simp only [results, Try.results24, asAddr]
    go_simp
  have HZ := hide (size_any n)
  rw [hs] at HZ
  by_cases hl : 0 < L.length ∧ L.length ≤ 64
  rotate_left
  · have HV := hide (lv_len hs hl)
    have hl' : L.length = 0 ∨ 64 < L.length := by omega
    clear hr hl
    generalize hk : L.length = k at *
    rcases hl' with rfl | hl'
    · go_enter Try.func24, Try.ntmps24
      go_wp2_with (fail)
      refine (HZ.out _).mono ?_
      rintro e1 w1 ⟨rfl, rfl⟩
      go_wp2
      refine bodyPost_ret (v := .tuple #[.agg #[.int .u32 0, .slice none 0 0], .int .i64 130]) ?_ rfl ⟨0, none, 0, 0, by rw [HV.out], HB0.out _⟩
      simp only [results, Try.results24, asAddr]
      go_simp
    · go_enter Try.func24, Try.ntmps24
      go_wp2_with (fail)
      refine (HZ.out _).mono ?_
      rintro e1 w1 ⟨rfl, rfl⟩
      go_wp2
      refine bodyPost_ret (v := .tuple #[.agg #[.int .u32 0, .slice none 0 0], .int .i64 130]) ?_ rfl ⟨0, none, 0, 0, by rw [HV.out], HB0.out _⟩
      simp only [results, Try.results24, asAddr]
      go_simp
  obtain ⟨hl0, hl1⟩ := hl
  have HX := hide (max_any a c L (w.alloc (.cells #[.int .u32 0, .slice none 0 0] 72)) (hr.on (b1 _ _ _)) hl0 (by omega))
  have HC := hide (clone_any a c L (w.alloc (.cells #[.int .u32 0, .slice none 0 0] 72)) (hr.on (b1 _ _ _)) hn h63)
  have HV1 : Hid (∀ m, Mx L L.length m → n ≤ m → lv n L = 130) := fun m h1 h2 => lv_max hs h1 h2
  have HV2 : Hid (∀ m, Mx L L.length m → m < n → lv n L = 0) := fun m h1 h2 => lv_ok hs hl0 hl1 h1 h2
  clear hr hn h63 HR
  generalize hk : L.length = k at *
  have HK := hide hk
  clear hk
  have hkz : ((k : Int) == 0) = false := by simp; omega
  have hk64 : decide (64 < (k : Int)) = false := by simp; omega
  go_enter Try.func24, Try.ntmps24
  go_wp2_with (fail)
  refine (HZ.out _).mono ?_
  rintro e1 w1 ⟨rfl, rfl⟩
  go_wp2_with (fail)
  refine HX.out.mono ?_
  rintro e2 w2 ⟨m, rfl, hm, rfl⟩
  have hm' := hide hm
  clear hm
  by_cases hnm : n ≤ m
  · have HV := hide (HV1.out m hm'.out hnm)
    go_wp2
    refine bodyPost_ret (v := .tuple #[.agg #[.int .u32 0, .slice none 0 0], .int .i64 130]) ?_ rfl ⟨0, none, 0, 0, by rw [HV.out], HB0.out _⟩
    simp only [results, Try.results24, asAddr]
    go_simp
  · have HV := hide (HV2.out m hm'.out (by omega))
    have hd : decide (n ≤ m) = false := by simp; omega
    go_wp2_with (fail)
    refine HC.out.mono ?_
    rintro e3 w3 ⟨b, l, c', rfl, hB⟩
    have HB := hide hB
    have hq : w3.heap[w.heap.size]? = some (.cells #[.int .u32 0, .slice none 0 0] 72) := (hB.block _ (by simp)).trans (at0 _ _)
    have HQ := hide hq
    have HQ2 := hide (setRow_heap w3 w.heap.size _ #[.int .u32 n, .slice b l c'] 72 (0, 0) hq)
    have HBB : Hid (Below w.heap.size w (w3.setRow w.heap.size #[.int .u32 n, .slice b l c'])) := below_setRow ((HB0.out _).trans (hB.mono (by simp))) (Nat.le_refl _) _
    clear hB hq HB
    go_wp2_with (refine wpList_storeN 2 72 size72 rfl _ _ rfl w.heap.size #[.int .u32 n, .slice b l c'] _ rfl rfl rfl rfl (one2 _ _ _ _) HQ.out ?_)
    refine bodyPost_ret (v := .tuple #[.agg #[.int .u32 n, .slice b l c'], .int .i64 0]) ?_ rfl ⟨n, b, l, c', by rw [HV.out], HBB.out⟩
    simp only [results, Try.results24, asAddr]
    simp [run_loadVar_row _ _ 72 72 _ (0, 0) _ HQ2.out Try.underlying72 rfl size72]
end Ft
end Go.Proofs.Ytlkipgpfjpmliaa
