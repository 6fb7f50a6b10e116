import Derived.Test.YtcepfmeoeepjdaaAuH
namespace Go.Proofs.Ytcepfmeoeepjdaa
namespace Au
open Go.RowKit
set_option linter.unusedVariables false
set_option maxRecDepth 8000
set_option maxHeartbeats 4000000 in
theorem kept_any (a : Option Addr) (n c g cap : Nat) (S : Nat → Nat → Int) (hn : n * 64 ≤ 140737488351232) (hc : n + 2 ≤ cap) (w : World) (hr : Row8 w a n S) (hs : SR w g (n + 2) (mk n n S)) :
    Calls Try.prog 19 #[.slice (some ⟨g, 0, none⟩) n cap, .slice a n c] w fun e w' => e = .returned (.bool true) ∧ Below w.heap.size w w' := by
  have HR := hide hr
  have HS := hide hs
  clear hr hs
  go_enter Try.func19, Try.ntmps19
  go_wp2_with (fail)
  go_loopw [5] (fun t wr => ∃ k : Nat, k ≤ n ∧ t = .int .i64 k ∧ Hid (Below w.heap.size w wr)) (fun t _ => n - (intOf t).toNat)
  case atStart => exact ⟨0, Nat.zero_le _, rfl, Below.refl _ _⟩
  case round =>
    obtain ⟨k, hk, rfl, HB⟩ := hrel
    by_cases cc : k < n
    · have hcc : (k : Int) < (n : Int) := by omega
      obtain ⟨x, rfl, hx⟩ := (HR.out.on HB.out (Nat.le_refl _)) (by omega)
      obtain ⟨q0, q1, q2, q3, q4, q5, q6, q7⟩ := hx.k k cc
      obtain ⟨p0, p1, p2, p3, p4, p5, p6, p7⟩ := (HS.out.of (w' := wr) (HB.out.block g HS.out.lt)).k8 k (by omega)
      have hsk : mk n n S k = S k := by unfold mk; rw [if_pos cc, if_pos cc]
      rw [hsk] at p0 p1 p2 p3 p4 p5 p6 p7
      have hne := neq63 (S k)
      have HBN : Hid (∀ m, Below w.heap.size w (wr.drewN m)) := fun m => belowN HB.out m
      have hnc : (k : Int) < (cap : Int) := by omega
      clear hx hsk
      generalize S k = s at *
      go_wp2_with (fail)
      go_quiet (fail)
      go_wp2
      exact ⟨⟨k + 1, cc, by go_num, HBN.out _⟩, by simp [intOf]; omega⟩
    · have hkn : n = k := by omega
      subst hkn
      have hS1 := HS.out.of (w' := wr) (HB.out.block g HS.out.lt)
      have e1 : mk n n S n = mark 77 := by unfold mk; rw [if_neg (by omega), if_pos rfl]
      have e2 : mk n n S (n + 1) = mark 78 := by unfold mk; rw [if_neg (by omega), if_neg (by omega)]
      have k1 := hS1.k8 n (by omega)
      have k2 := hS1.k8 (n + 1) (by omega)
      rw [e1] at k1
      rw [e2] at k2
      obtain ⟨p0, p1, p2, p3, p4, p5, p6, p7⟩ := k1
      obtain ⟨r0, r1, r2, r3, r4, r5, r6, r7⟩ := k2
      have h77 : ∀ W, Sem.run Try.prog (binOp BinOp.eql 63 (.agg #[.int .u64 77, .int .u64 77, .int .u64 77, .int .u64 0, .int .u64 0, .int .u64 0, .int .u64 0, .int .u64 0]) (.agg #[.int .u64 77, .int .u64 77, .int .u64 77, .int .u64 0, .int .u64 0, .int .u64 0, .int .u64 0, .int .u64 0])) W = .ok (.bool true) W := eql63 (mark 77)
      have h78 : ∀ W, Sem.run Try.prog (binOp BinOp.eql 63 (.agg #[.int .u64 78, .int .u64 78, .int .u64 78, .int .u64 0, .int .u64 0, .int .u64 0, .int .u64 0, .int .u64 0]) (.agg #[.int .u64 78, .int .u64 78, .int .u64 78, .int .u64 0, .int .u64 0, .int .u64 0, .int .u64 0, .int .u64 0])) W = .ok (.bool true) W := eql63 (mark 78)
      simp only [show mark 77 0 = 77 from rfl, show mark 77 1 = 77 from rfl, show mark 77 2 = 77 from rfl, show mark 77 3 = 0 from rfl, show mark 77 4 = 0 from rfl, show mark 77 5 = 0 from rfl, show mark 77 6 = 0 from rfl, show mark 77 7 = 0 from rfl] at p0 p1 p2 p3 p4 p5 p6 p7
      simp only [show mark 78 0 = 78 from rfl, show mark 78 1 = 78 from rfl, show mark 78 2 = 78 from rfl, show mark 78 3 = 0 from rfl, show mark 78 4 = 0 from rfl, show mark 78 5 = 0 from rfl, show mark 78 6 = 0 from rfl, show mark 78 7 = 0 from rfl] at r0 r1 r2 r3 r4 r5 r6 r7
      have hcc : ¬ (n : Int) < (n : Int) := by omega
      have hw1 : wrap64 ((n : Int) + 2) = (n : Int) + 2 := by unfold wrap64; omega
      have hw2 : wrap64 ((n : Int) + 1) = (n : Int) + 1 := by unfold wrap64; omega
      have hl1 : (n : Int) + 2 ≤ (cap : Int) := by omega
      have HBN := HB
      clear hS1 e1 e2 cc hk
      go_wp2
      all_goals go_ret
      all_goals exact ⟨rfl, HBN.out⟩
set_option maxHeartbeats 4000000 in
theorem spare_any (g rl : Nat) (need : Nat) (hr : rl ≤ 5000) (hn : need ≤ 10000000000) (w : World) (h : ∀ j, need ≤ j → j < rl → w.cell? ⟨g, j, none⟩ = some (.int .u64 99)) :
    Calls Try.prog 20 #[.slice (some ⟨g, 0, none⟩) rl rl, .int .i64 (need : Int)] w fun e w' => e = .returned (.bool true) ∧ w' = w := by
  have HH := hide h
  clear h
  go_enter Try.func20, Try.ntmps20
  go_wp2_with (fail)
  go_loopw [5] (fun t wr => ∃ k : Nat, need ≤ k ∧ k ≤ need + rl ∧ t = .int .i64 k ∧ wr = w) (fun t _ => rl - (intOf t).toNat)
  case atStart => exact ⟨need, Nat.le_refl _, by omega, rfl, rfl⟩
  case round =>
    obtain ⟨k, hk, hk2, rfl, rfl⟩ := hrel
    by_cases cc : k < rl
    · have hcc : (k : Int) < (rl : Int) := by omega
      have hc := HH.out k hk cc
      go_wp2
      exact ⟨⟨k + 1, by omega, by omega, by go_num, by first | trivial | rfl⟩, by simp [intOf]; omega⟩
    · have hcc : ¬ (k : Int) < (rl : Int) := by omega
      go_wp2
      all_goals go_ret
      all_goals exact ⟨rfl, rfl⟩
set_option maxHeartbeats 4000000 in
theorem agree_any (E : Int) (o : Vd) (b : Bool) (x y : Int) (h : E = 0 → b = vR o ∧ x = vV o ∧ y = vK o) (w : World) :
    Calls Try.prog 18 #[.agg (vx E o), .int .i64 E, .agg #[.bool b, .int .u32 x, .int .i64 y], .int .i64 E] w fun e w' => e = .returned (.bool true) ∧ Below w.heap.size w w' := by
  have HN := hide (num_any E)
  have HB : Hid (∀ C C', Below w.heap.size w ((w.alloc (.cells C 35)).alloc (.cells C' 35))) := fun C C' => bA (b1 _ _ _) (by simp) _
  have hq := eql35
  by_cases hE : E = 0
  · obtain ⟨rfl, rfl, rfl⟩ := h hE
    subst hE
    rw [show vx 0 o = #[.bool (vR o), .int .u32 (vV o), .int .i64 (vK o)] from rfl]
    generalize vR o = b0 at *
    generalize vV o = b1 at *
    generalize vK o = b2 at *
    clear h
    go_enter Try.func18, Try.ntmps18
    go_wp2_with (fail)
    refine (HN.out _).mono ?_
    rintro e1 w1 ⟨rfl, hw1⟩
    subst w1
    go_wp2
    all_goals go_ret
    all_goals exact ⟨rfl, HB.out _ _⟩
  · have h1 : (E != 0) = true := by simpa using hE
    rw [show vx E o = z3 from if_neg hE]
    clear h hE
    go_enter Try.func18, Try.ntmps18
    go_wp2_with (fail)
    refine (HN.out _).mono ?_
    rintro e1 w1 ⟨rfl, hw1⟩
    subst w1
    have hEE : (E == E) = true := by simp
    go_wp2
    all_goals go_ret
    all_goals exact ⟨rfl, HB.out _ _⟩
/-- A list of numbers as it lies. -/
def GI (w : World) (b n : Nat) (G : Nat → Int) : Prop := ∃ C : Array Value, w.heap[b]? = some (.cells C 3 (0, 0)) ∧ ∀ v, v < n → C[v]? = some (.int .i64 (G v))
theorem GI.lt {w : World} {b n : Nat} {G : Nat → Int} (h : GI w b n G) : b < w.heap.size := by
  obtain ⟨C, h, _⟩ := h
  exact lt_of_some h
theorem GI.of {w w' : World} {b n : Nat} {G : Nat → Int} (h : GI w b n G) (e : w'.heap[b]? = w.heap[b]?) : GI w' b n G := by
  obtain ⟨C, h, h2⟩ := h
  exact ⟨C, e.trans h, h2⟩
theorem GI.on {X : Nat → Prop} {w w' : World} {b n : Nat} {G : Nat → Int} (h : GI w b n G) (hb : Ch X w w') (hx : ¬ X b) : GI w' b n G := h.of (hb.block b h.lt hx)
theorem GI.cell {w : World} {b n : Nat} {G : Nat → Int} (h : GI w b n G) (v : Nat) (hv : v < n) : w.cell? ⟨b, v, none⟩ = some (.int .i64 (G v)) := by
  obtain ⟨C, h, h2⟩ := h
  exact (cell_of_row w b _ _ 3 (0, 0) h).trans (h2 v hv)
theorem GI.fz {w : World} {b n : Nat} {G : Nat → Int} (h : GI w b n G) (j : Nat) : w.frozen? ⟨b, j, none⟩ = false := by
  obtain ⟨C, h, h2⟩ := h
  exact frozen_of_row w b _ _ 3 h
theorem GI.set {w : World} {b n : Nat} {G : Nat → Int} (h : GI w b n G) (j : Nat) (x : Int) : GI (w.setCell ⟨b, j, none⟩ (.int .i64 x)) b n (up G j x) := by
  obtain ⟨C, h, h2⟩ := h
  rw [setCell_eq_setRow w b j C 3 (0, 0) _ h]
  refine ⟨_, setRow_heap w b _ _ 3 (0, 0) h, fun v hv => ?_⟩
  show _ = some (Value.int .i64 (if v = j then x else G v))
  rw [Array.getElem?_setIfInBounds]
  have hv2 := h2 v hv
  have := (Array.getElem?_eq_some_iff.1 hv2).1
  by_cases e : j = v
  · subst e; rw [if_pos rfl, if_pos this, if_pos rfl]
  · rw [if_neg e, if_neg (fun k => e k.symm)]; exact hv2
theorem infoI : (Try.prog.info? 3).map (fun i => (i.zero, i.size, i.bytes)) = some (some (.int .i64 0), 1, 8) := by kernel_rfl
theorem make_ints (w : World) (n : Nat) (hn : n ≤ 1000000) : (Instr.makeSlice 83 (.int .u32 (n : Int)) (.int .u32 (n : Int))).run Try.prog w = .ok (.slice (some ⟨w.heap.size, 0, none⟩) n n) (w.alloc (.cells (madeCells #[.int .i64 0] n) 3)) := by
  have h := infoI
  cases hh : Try.prog.info? 3 with
  | none => rw [hh] at h; cases h
  | some i =>
    rw [hh] at h
    simp at h
    have hr := run_make (P := Try.prog) w 83 3 i (.int .i64 0) Try.underlying83 hh h.1 .u32 .u32 n n (by omega) (by omega) (by rw [h.2.2]; omega) (by omega)
    rw [h.2.1] at hr
    simp only [Int.toNat_natCast, Nat.mul_one] at hr
    rw [hr]
    rfl
theorem GI.new (w : World) (n : Nat) : GI (w.alloc (.cells (madeCells #[.int .i64 0] n) 3)) w.heap.size n (fun _ => 0) := by
  refine ⟨_, at0 _ _, fun j hj => ?_⟩
  simp [madeCells, hj, Nat.mod_one]
set_option maxHeartbeats 4000000 in
theorem begin_any (n : Nat) (hn : n ≤ 5000) (w : World) : Calls Try.prog 51 #[.int .u32 (n : Int)] w fun e w' => ∃ g, e = .returned (.agg #[.slice (some ⟨g, 0, none⟩) n n]) ∧ w.heap.size ≤ g ∧ GI w' g n (fun _ => 0) ∧ Below w.heap.size w w' := by
  have hmk := make_ints (w.alloc (.cells #[.slice none 0 0] 85)) n (by omega)
  have HG := hide (GI.new (w.alloc (.cells #[.slice none 0 0] 85)) n)
  simp only [World.size_alloc] at hmk HG
  generalize madeCells #[.int .i64 0] n = mc at *
  have HF : Hid (∀ v : Value, GI ((w.alloc (.cells #[v] 85)).alloc (.cells mc 3)) (w.heap.size + 1) n (fun _ => 0) ∧ Below w.heap.size w ((w.alloc (.cells #[v] 85)).alloc (.cells mc 3))) := fun v => by
    obtain ⟨C, h1, h2⟩ := HG.out
    have e1 := at0 (w.alloc (.cells #[.slice none 0 0] 85)) (.cells mc 3)
    have e2 := at0 (w.alloc (.cells #[v] 85)) (.cells mc 3)
    simp only [World.size_alloc] at e1 e2
    exact ⟨⟨C, e2.trans (e1.symm.trans h1), h2⟩, bA (b1 _ _ _) (by simp) _⟩
  clear HG
  go_enter Try.func51, Try.ntmps51
  go_wp2
  all_goals (refine bodyPost_ret (v := .agg #[.slice (some ⟨w.heap.size + 1, 0, none⟩) n n]) ?_ rfl ?_)
  all_goals first | (simp [results, Try.f51, go_sem]; done) | exact ⟨w.heap.size + 1, rfl, Nat.le_succ _, HF.out _⟩
end Au
end Go.Proofs.Ytcepfmeoeepjdaa
