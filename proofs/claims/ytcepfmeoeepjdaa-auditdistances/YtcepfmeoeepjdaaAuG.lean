import Derived.Test.YtcepfmeoeepjdaaAuF
namespace Go.Proofs.Ytcepfmeoeepjdaa
namespace Au
open Go.RowKit
set_option linter.unusedVariables false
set_option maxRecDepth 8000
theorem uw (x : Int) (h0 : 0 ≤ x) (h1 : x < 4294967296) : IntKind.u32.wrap x = x := by simp only [IntKind.wrap, IntKind.signed, IntKind.bits]; simp; omega
/-- A number cut to a range. -/
def ct (lo hi x : Int) : Int := if x < lo then lo else if hi < x then hi else x
theorem ct_b (lo hi x : Int) (h : lo ≤ hi) : lo ≤ ct lo hi x ∧ ct lo hi x ≤ hi := by unfold ct; split; omega; split; omega; omega
/-- A case as it comes in. -/
structure Cs where
  N : Nat
  sa : Option Addr
  sn : Nat
  sc : Nat
  ea : Option Addr
  en : Nat
  ec : Nat
  bh : Int
  room : Int
  src : Int
  qa : Option Addr
  qn : Nat
  qc : Nat
  kind : Int
  rN : Int
  rA : Int
  rC : Int
  damp : Int
  rounds : Int
  seed : Int
abbrev cb (c : Cs) : Array Value := #[.int .u32 (c.N : Int), .slice c.sa c.sn c.sc, .slice c.ea c.en c.ec, .int .i64 c.bh, .int .i64 c.room, .int .u32 c.src, .slice c.qa c.qn c.qc, .int .i64 c.kind, .int .u32 c.rN, .int .u32 c.rA, .int .u32 c.rC, .int .u32 c.damp, .int .i64 c.rounds, .int .u64 c.seed]
abbrev K14 (b : Nat) (c : Cs) (w : World) : Prop := w.cell? ⟨b, 0, none⟩ = some (.int .u32 (c.N : Int)) ∧ w.cell? ⟨b, 1, none⟩ = some (.slice c.sa c.sn c.sc) ∧ w.cell? ⟨b, 2, none⟩ = some (.slice c.ea c.en c.ec) ∧ w.cell? ⟨b, 3, none⟩ = some (.int .i64 c.bh) ∧ w.cell? ⟨b, 4, none⟩ = some (.int .i64 c.room) ∧ w.cell? ⟨b, 5, none⟩ = some (.int .u32 c.src) ∧ w.cell? ⟨b, 6, none⟩ = some (.slice c.qa c.qn c.qc) ∧ w.cell? ⟨b, 7, none⟩ = some (.int .i64 c.kind) ∧ w.cell? ⟨b, 8, none⟩ = some (.int .u32 c.rN) ∧ w.cell? ⟨b, 9, none⟩ = some (.int .u32 c.rA) ∧ w.cell? ⟨b, 10, none⟩ = some (.int .u32 c.rC) ∧ w.cell? ⟨b, 11, none⟩ = some (.int .u32 c.damp) ∧ w.cell? ⟨b, 12, none⟩ = some (.int .i64 c.rounds) ∧ w.cell? ⟨b, 13, none⟩ = some (.int .u64 c.seed)
def Cb (w : World) (b : Nat) (c : Cs) : Prop := w.heap[b]? = some (.cells (cb c) 30 (0, 0))
theorem Cb.k {w : World} {b : Nat} {c : Cs} (h : Cb w b c) : K14 b c w := by
  refine ⟨?_, ?_, ?_, ?_, ?_, ?_, ?_, ?_, ?_, ?_, ?_, ?_, ?_, ?_⟩ <;> exact (cell_of_row w b _ _ 30 (0, 0) h).trans rfl
theorem Cb.lt {w : World} {b : Nat} {c : Cs} (h : Cb w b c) : b < w.heap.size := lt_of_some h
set_option maxHeartbeats 1000000 in
theorem behind_any (c : Cs) (w : World) : Calls Try.prog 13 #[.agg (cb c)] w fun e w' => e = .returned (.int .i64 (ct 0 200 c.bh)) ∧ w' = w.alloc (.cells (cb c) 30) := by
  unfold ct
  by_cases h1 : c.bh < 0
  · rw [if_pos h1]
    go_enter Try.func13, Try.ntmps13
    go_wp2
    all_goals go_ret
    all_goals exact ⟨rfl, rfl⟩
  · rw [if_neg h1]
    by_cases h2 : 200 < c.bh
    · rw [if_pos h2]
      go_enter Try.func13, Try.ntmps13
      go_wp2
      all_goals go_ret
      all_goals first | exact ⟨rfl, rfl⟩ | (exfalso; omega)
    · rw [if_neg h2]
      go_enter Try.func13, Try.ntmps13
      go_wp2
      all_goals go_ret
      all_goals first | exact ⟨rfl, rfl⟩ | (refine ⟨ret_int ?_, rfl⟩; omega) | (exfalso; omega)
set_option maxHeartbeats 1000000 in
theorem num_any (x : Int) (w : World) : Calls Try.prog 37 #[.int .i64 x] w fun e w' => e = .returned (.int .i64 x) ∧ w' = w := by
  go_enter Try.func37, Try.ntmps37
  go_wp2
  all_goals go_ret
  all_goals exact ⟨rfl, rfl⟩
/-- May there be so many vertices? -/
def sz (n : Nat) : Int := if n < 1 ∨ 2147483647 < n then 2 else 0
set_option maxHeartbeats 1000000 in
theorem sized_any (n : Nat) (w : World) : Calls Try.prog 39 #[.int .u32 (n : Int)] w fun e w' => e = .returned (.int .i64 (sz n)) ∧ w' = w := by
  unfold sz
  by_cases h1 : n < 1
  · rw [if_pos (Or.inl h1)]
    have h : decide ((n : Int) < 1) = true := by simp; omega
    go_enter Try.func39, Try.ntmps39
    go_wp2
    all_goals go_ret
    all_goals exact ⟨rfl, rfl⟩
  · have h : decide ((n : Int) < 1) = false := by simp; omega
    by_cases h2 : 2147483647 < n
    · rw [if_pos (Or.inr h2)]
      have h' : decide ((2147483647 : Int) < (n : Int)) = true := by simp; omega
      go_enter Try.func39, Try.ntmps39
      go_wp2
      all_goals go_ret
      all_goals exact ⟨rfl, rfl⟩
    · rw [if_neg (by omega)]
      have h' : decide ((2147483647 : Int) < (n : Int)) = false := by simp; omega
      go_enter Try.func39, Try.ntmps39
      go_wp2
      all_goals go_ret
      all_goals exact ⟨rfl, rfl⟩
set_option maxHeartbeats 1000000 in
theorem rsized_any (n : Nat) (w : World) : Calls Try.prog 15 #[.int .u32 (n : Int)] w fun e w' => e = .returned (.int .i64 (sz n)) ∧ w' = w := by
  unfold sz
  by_cases h1 : n < 1
  · rw [if_pos (Or.inl h1)]
    have h : decide ((n : Int) < 1) = true := by simp; omega
    go_enter Try.func15, Try.ntmps15
    go_wp2
    all_goals go_ret
    all_goals exact ⟨rfl, rfl⟩
  · have h : decide ((n : Int) < 1) = false := by simp; omega
    by_cases h2 : 2147483647 < n
    · rw [if_pos (Or.inr h2)]
      have h' : decide ((2147483647 : Int) < (n : Int)) = true := by simp; omega
      go_enter Try.func15, Try.ntmps15
      go_wp2
      all_goals go_ret
      all_goals exact ⟨rfl, rfl⟩
    · rw [if_neg (by omega)]
      have h' : decide ((2147483647 : Int) < (n : Int)) = false := by simp; omega
      go_enter Try.func15, Try.ntmps15
      go_wp2
      all_goals go_ret
      all_goals exact ⟨rfl, rfl⟩
theorem infoW : (Try.prog.info? 28).map (fun i => (i.zero, i.size, i.bytes)) = some (some (.int .u64 0), 1, 8) := by kernel_rfl
theorem make_words (w : World) (n : Nat) (hn : n ≤ 1000000) : (Instr.makeSlice 32 (.int .i64 (n : Int)) (.int .i64 (n : Int))).run Try.prog w = .ok (.slice (some ⟨w.heap.size, 0, none⟩) n n) (w.alloc (.cells (madeCells #[.int .u64 0] n) 28)) := by
  have h := infoW
  cases hh : Try.prog.info? 28 with
  | none => rw [hh] at h; cases h
  | some i =>
    rw [hh] at h
    simp at h
    have hr := run_make (P := Try.prog) w 32 28 i (.int .u64 0) Try.underlying32 hh h.1 .i64 .i64 n n (by omega) (by omega) (by rw [h.2.2]; omega) (by omega)
    rw [h.2.1] at hr
    simp only [Int.toNat_natCast, Nat.mul_one] at hr
    rw [hr]
    rfl
theorem GU.new (w : World) (n : Nat) : GU (w.alloc (.cells (madeCells #[.int .u64 0] n) 28)) w.heap.size n (fun _ => 0) := by
  refine ⟨_, at0 _ _, fun j hj => ?_⟩
  simp [madeCells, hj, Nat.mod_one]
theorem ct_max (x : Int) : max x 0 = if x < 0 then 0 else x := by split <;> omega
/-- The room as it is made. -/
def rm (c : Cs) : Nat := (ct 0 5000 c.room).toNat
theorem rm_b (c : Cs) : rm c ≤ 5000 ∧ ct 0 5000 c.room = (rm c : Nat) := by have := ct_b 0 5000 c.room (by decide); unfold rm; omega
/-- A row of words of just this length. -/
def Cz (w : World) (g m : Nat) : Prop := ∃ C, w.heap[g]? = some (.cells C 28 (0, 0)) ∧ C.size = m
set_option maxHeartbeats 4000000 in
theorem words_any (c : Cs) (w : World) : Calls Try.prog 10 #[.agg (cb c)] w fun e w' => ∃ g, e = .returned (.slice (some ⟨g, 0, none⟩) (rm c) (rm c)) ∧ w.heap.size ≤ g ∧ GU w' g (rm c) (fun _ => 99) ∧ Cz w' g (rm c) ∧ Below w.heap.size w w' := by
  obtain ⟨hr1, hr2⟩ := rm_b c
  obtain ⟨m, hm⟩ : ∃ m, rm c = m := ⟨_, rfl⟩
  rw [hm] at hr1 hr2 ⊢
  have hmk := make_words (w.alloc (.cells (cb c) 30)) m (by omega)
  have HG0 := hide (GU.new (w.alloc (.cells (cb c) 30)) m)
  have HB0 : Hid (Below w.heap.size w ((w.alloc (.cells (cb c) 30)).alloc (.cells (madeCells #[.int .u64 0] m) 28))) := bA (b1 _ _ _) (by simp) _
  have hsz : (madeCells #[.int .u64 0] m).size = m := by simp [madeCells]
  have HC0 : Hid (Cz ((w.alloc (.cells (cb c) 30)).alloc (.cells (madeCells #[.int .u64 0] m) 28)) (w.heap.size + 1) m) := ⟨_, by have := at0 (w.alloc (.cells (cb c) 30)) (.cells (madeCells #[.int .u64 0] m) 28); simpa using this, hsz⟩
  clear hsz
  simp only [World.size_alloc] at hmk HG0
  generalize madeCells #[.int .u64 0] m = mc at *
  have hd : c.room < 0 ∧ m = 0 ∨ 5000 < c.room ∧ m = 5000 ∨ (0 ≤ c.room ∧ c.room ≤ 5000 ∧ c.room = m) := by unfold ct at hr2; split at hr2 <;> (try split at hr2) <;> omega
  clear hr2 hm
  go_enter Try.func10, Try.ntmps10
  rcases hd with hd | hd | hd
  · obtain ⟨h1, rfl⟩ := hd
    have hmk : (Instr.makeSlice 32 (.int .i64 0) (.int .i64 0)).run Try.prog (w.alloc (.cells (cb c) 30)) = .ok (.slice (some ⟨w.heap.size + 1, 0, none⟩) 0 0) ((w.alloc (.cells (cb c) 30)).alloc (.cells mc 28)) := hmk
    go_wp2_with (fail)
    clear hmk
    generalize (w.alloc (.cells (cb c) 30)).alloc (.cells mc 28) = w0 at *
    go_loopw [5] (fun v wr => ∃ j : Nat, j ≤ 0 ∧ v = .int .i64 j ∧ Hid (GU wr (w.heap.size + 1) 0 (fun v => if v < j then 99 else 0)) ∧ Hid (Cz wr (w.heap.size + 1) 0) ∧ Hid (Below w.heap.size w wr)) (fun v _ => 0 - (intOf v).toNat)
    case atStart => exact ⟨0, Nat.zero_le _, rfl, by simpa using HG0, HC0, HB0⟩
    case round =>
      clear HG0 HB0 HC0
      obtain ⟨j, hj, rfl, HG, HC, HB⟩ := hrel
      by_cases cc : j < 0
      · exfalso; omega
      · have hjn : j = 0 := by omega
        have HGf : Hid (GU wr (w.heap.size + 1) 0 (fun _ => 99)) := HG.out.ext (fun v hv => if_pos (by omega))
        have hcc : ¬ (j : Int) < 0 := by omega
        clear cc hj HG hjn
        go_wp2
        all_goals go_ret
        all_goals exact ⟨w.heap.size + 1, rfl, by omega, HGf.out, HC.out, HB.out⟩
  · obtain ⟨h1, rfl⟩ := hd
    have hmk : (Instr.makeSlice 32 (.int .i64 5000) (.int .i64 5000)).run Try.prog (w.alloc (.cells (cb c) 30)) = .ok (.slice (some ⟨w.heap.size + 1, 0, none⟩) 5000 5000) ((w.alloc (.cells (cb c) 30)).alloc (.cells mc 28)) := hmk
    go_wp2_with (fail)
    clear hmk
    generalize (w.alloc (.cells (cb c) 30)).alloc (.cells mc 28) = w0 at *
    go_loopw [5] (fun v wr => ∃ j : Nat, j ≤ 5000 ∧ v = .int .i64 j ∧ Hid (GU wr (w.heap.size + 1) 5000 (fun v => if v < j then 99 else 0)) ∧ Hid (Cz wr (w.heap.size + 1) 5000) ∧ Hid (Below w.heap.size w wr)) (fun v _ => 5000 - (intOf v).toNat)
    case atStart => exact ⟨0, Nat.zero_le _, rfl, by simpa using HG0, HC0, HB0⟩
    case round =>
      clear HG0 HB0 HC0
      obtain ⟨j, hj, rfl, HG, HC, HB⟩ := hrel
      by_cases cc : j < 5000
      · have hf := HG.out.fz j
        have hc := HG.out.cell j cc
        have hcc : (j : Int) < 5000 := by omega
        have HG1 := hide (HG.out.set j 99)
        have HG2 : Hid (GU (wr.setCell ⟨w.heap.size + 1, j, none⟩ (.int .u64 99)) (w.heap.size + 1) 5000 (fun v => if v < j + 1 then 99 else 0)) := HG1.out.1.ext (fun v hv => by
          by_cases e : v = j
          · subst e; rw [up_eq, if_pos (by omega)]
          · rw [up_ne _ _ _ _ e]
            by_cases e2 : v < j
            · rw [if_pos e2, if_pos (by omega)]
            · rw [if_neg e2, if_neg (by omega)])
        have HB2 : Hid (Below w.heap.size w (wr.setCell ⟨w.heap.size + 1, j, none⟩ (.int .u64 99))) := by
          obtain ⟨C1, h1⟩ := HG1.out.2
          show Below _ _ _
          rw [h1]
          exact below_setRow HB.out (by omega) _
        have HC2 : Hid (Cz (wr.setCell ⟨w.heap.size + 1, j, none⟩ (.int .u64 99)) (w.heap.size + 1) 5000) := by
          obtain ⟨C, q1, q2⟩ := HC.out
          refine ⟨C.setIfInBounds j (.int .u64 99), ?_, by simpa using q2⟩
          rw [setCell_eq_setRow wr _ j C 28 (0, 0) _ q1]
          exact setRow_heap wr _ _ _ 28 (0, 0) q1
        clear HG1
        go_wp2
        exact ⟨⟨j + 1, cc, by go_num, HG2, HC2, HB2⟩, by simp [intOf]; omega⟩
      · have hjn : j = 5000 := by omega
        have HGf : Hid (GU wr (w.heap.size + 1) 5000 (fun _ => 99)) := HG.out.ext (fun v hv => if_pos (by omega))
        have hcc : ¬ (j : Int) < 5000 := by omega
        clear cc hj HG hjn
        go_wp2
        all_goals go_ret
        all_goals exact ⟨w.heap.size + 1, rfl, by omega, HGf.out, HC.out, HB.out⟩
  · obtain ⟨h1, h2, h3⟩ := hd
    go_wp2_with (fail)
    clear hmk
    generalize (w.alloc (.cells (cb c) 30)).alloc (.cells mc 28) = w0 at *
    go_loopw [5] (fun v wr => ∃ j : Nat, j ≤ m ∧ v = .int .i64 j ∧ Hid (GU wr (w.heap.size + 1) m (fun v => if v < j then 99 else 0)) ∧ Hid (Cz wr (w.heap.size + 1) m) ∧ Hid (Below w.heap.size w wr)) (fun v _ => m - (intOf v).toNat)
    case atStart => exact ⟨0, Nat.zero_le _, rfl, by simpa using HG0, HC0, HB0⟩
    case round =>
      clear HG0 HB0 HC0
      obtain ⟨j, hj, rfl, HG, HC, HB⟩ := hrel
      by_cases cc : j < m
      · have hf := HG.out.fz j
        have hc := HG.out.cell j cc
        have hcc : (j : Int) < (m : Int) := by omega
        have HG1 := hide (HG.out.set j 99)
        have HG2 : Hid (GU (wr.setCell ⟨w.heap.size + 1, j, none⟩ (.int .u64 99)) (w.heap.size + 1) m (fun v => if v < j + 1 then 99 else 0)) := HG1.out.1.ext (fun v hv => by
          by_cases e : v = j
          · subst e; rw [up_eq, if_pos (by omega)]
          · rw [up_ne _ _ _ _ e]
            by_cases e2 : v < j
            · rw [if_pos e2, if_pos (by omega)]
            · rw [if_neg e2, if_neg (by omega)])
        have HB2 : Hid (Below w.heap.size w (wr.setCell ⟨w.heap.size + 1, j, none⟩ (.int .u64 99))) := by
          obtain ⟨C1, h1⟩ := HG1.out.2
          show Below _ _ _
          rw [h1]
          exact below_setRow HB.out (by omega) _
        have HC2 : Hid (Cz (wr.setCell ⟨w.heap.size + 1, j, none⟩ (.int .u64 99)) (w.heap.size + 1) m) := by
          obtain ⟨C, q1, q2⟩ := HC.out
          refine ⟨C.setIfInBounds j (.int .u64 99), ?_, by simpa using q2⟩
          rw [setCell_eq_setRow wr _ j C 28 (0, 0) _ q1]
          exact setRow_heap wr _ _ _ 28 (0, 0) q1
        clear HG1
        go_wp2
        exact ⟨⟨j + 1, cc, by go_num, HG2, HC2, HB2⟩, by simp [intOf]; omega⟩
      · have hjn : j = m := by omega
        have HGf : Hid (GU wr (w.heap.size + 1) m (fun _ => 99)) := HG.out.ext (fun v hv => if_pos (by omega))
        have hcc : ¬ (j : Int) < (m : Int) := by omega
        clear cc hj HG hjn
        go_wp2
        all_goals go_ret
        all_goals exact ⟨w.heap.size + 1, rfl, by omega, HGf.out, HC.out, HB.out⟩
end Au
end Go.Proofs.Ytcepfmeoeepjdaa
