import Derived.Test.YtgoigcpdfecfhaaGreatDoorMgB
namespace Go.Proofs.YtgoigcpdfecfhaaGreatDoor
namespace Au
open Go.RowKit
set_option linter.unusedVariables false
set_option maxRecDepth 8000
theorem uw (x : Int) (h0 : 0 ≤ x) (h1 : x < 4294967296) : IntKind.u32.wrap x = x := by simp only [IntKind.wrap, IntKind.signed, IntKind.bits]; simp; omega
/-- A number cut to a range. -/
def ct (lo hi x : Int) : Int := if x < lo then lo else if hi < x then hi else x
theorem ct_b (lo hi x : Int) (h : lo ≤ hi) : lo ≤ ct lo hi x ∧ ct lo hi x ≤ hi := by unfold ct; split; omega; split; omega; omega
/-- A case as it comes in. -/
structure Cs where
  N : Nat
  sa : Option Addr
  sn : Nat
  sc : Nat
  ea : Option Addr
  en : Nat
  ec : Nat
  bh : Int
  room : Int
  src : Int
  qa : Option Addr
  qn : Nat
  qc : Nat
  kind : Int
  rN : Int
  rA : Int
  rC : Int
  damp : Int
  rounds : Int
  seed : Int
abbrev cb (c : Cs) : Array Value := #[.int .u32 (c.N : Int), .slice c.sa c.sn c.sc, .slice c.ea c.en c.ec, .int .i64 c.bh, .int .i64 c.room, .int .u32 c.src, .slice c.qa c.qn c.qc, .int .i64 c.kind, .int .u32 c.rN, .int .u32 c.rA, .int .u32 c.rC, .int .u32 c.damp, .int .i64 c.rounds, .int .u64 c.seed]
abbrev K14 (b : Nat) (c : Cs) (w : World) : Prop := w.cell? ⟨b, 0, none⟩ = some (.int .u32 (c.N : Int)) ∧ w.cell? ⟨b, 1, none⟩ = some (.slice c.sa c.sn c.sc) ∧ w.cell? ⟨b, 2, none⟩ = some (.slice c.ea c.en c.ec) ∧ w.cell? ⟨b, 3, none⟩ = some (.int .i64 c.bh) ∧ w.cell? ⟨b, 4, none⟩ = some (.int .i64 c.room) ∧ w.cell? ⟨b, 5, none⟩ = some (.int .u32 c.src) ∧ w.cell? ⟨b, 6, none⟩ = some (.slice c.qa c.qn c.qc) ∧ w.cell? ⟨b, 7, none⟩ = some (.int .i64 c.kind) ∧ w.cell? ⟨b, 8, none⟩ = some (.int .u32 c.rN) ∧ w.cell? ⟨b, 9, none⟩ = some (.int .u32 c.rA) ∧ w.cell? ⟨b, 10, none⟩ = some (.int .u32 c.rC) ∧ w.cell? ⟨b, 11, none⟩ = some (.int .u32 c.damp) ∧ w.cell? ⟨b, 12, none⟩ = some (.int .i64 c.rounds) ∧ w.cell? ⟨b, 13, none⟩ = some (.int .u64 c.seed)
def Cb (w : World) (b : Nat) (c : Cs) : Prop := w.heap[b]? = some (.cells (cb c) 30 (0, 0))
theorem Cb.k {w : World} {b : Nat} {c : Cs} (h : Cb w b c) : K14 b c w := by
  refine ⟨?_, ?_, ?_, ?_, ?_, ?_, ?_, ?_, ?_, ?_, ?_, ?_, ?_, ?_⟩ <;> exact (cell_of_row w b _ _ 30 (0, 0) h).trans rfl
theorem Cb.lt {w : World} {b : Nat} {c : Cs} (h : Cb w b c) : b < w.heap.size := lt_of_some h
set_option maxHeartbeats 1000000 in
theorem behind_any (c : Cs) (w : World) : Calls Tryz.prog 10 #[.agg (cb c)] w fun e w' => e = .returned (.int .i64 (ct 0 200 c.bh)) ∧ w' = w.alloc (.cells (cb c) 30) := by
  unfold ct
  by_cases h1 : c.bh < 0
  · rw [if_pos h1]
    go_enter Tryz.func10, Tryz.ntmps10
    go_wp2
    all_goals go_ret
    all_goals exact ⟨rfl, rfl⟩
  · rw [if_neg h1]
    by_cases h2 : 200 < c.bh
    · rw [if_pos h2]
      go_enter Tryz.func10, Tryz.ntmps10
      go_wp2
      all_goals go_ret
      all_goals first | exact ⟨rfl, rfl⟩ | (exfalso; omega)
    · rw [if_neg h2]
      go_enter Tryz.func10, Tryz.ntmps10
      go_wp2
      all_goals go_ret
      all_goals first | exact ⟨rfl, rfl⟩ | (refine ⟨ret_int ?_, rfl⟩; omega) | (exfalso; omega)
set_option maxHeartbeats 1000000 in
theorem num_any (x : Int) (w : World) : Calls Tryz.prog 28 #[.int .i64 x] w fun e w' => e = .returned (.int .i64 x) ∧ w' = w := by
  go_enter Tryz.func28, Tryz.ntmps28
  go_wp2
  all_goals go_ret
  all_goals exact ⟨rfl, rfl⟩
/-- May there be so many vertices? -/
def sz (n : Nat) : Int := if n < 1 ∨ 2147483647 < n then 2 else 0
set_option maxHeartbeats 1000000 in
theorem sized_any (n : Nat) (w : World) : Calls Tryz.prog 128 #[.int .u32 (n : Int)] w fun e w' => e = .returned (.int .i64 (sz n)) ∧ w' = w := by
  unfold sz
  by_cases h1 : n < 1
  · rw [if_pos (Or.inl h1)]
    have h : decide ((n : Int) < 1) = true := by simp; omega
    go_enter Tryz.func128, Tryz.ntmps128
    go_wp2
    all_goals go_ret
    all_goals exact ⟨rfl, rfl⟩
  · have h : decide ((n : Int) < 1) = false := by simp; omega
    by_cases h2 : 2147483647 < n
    · rw [if_pos (Or.inr h2)]
      have h' : decide ((2147483647 : Int) < (n : Int)) = true := by simp; omega
      go_enter Tryz.func128, Tryz.ntmps128
      go_wp2
      all_goals go_ret
      all_goals exact ⟨rfl, rfl⟩
    · rw [if_neg (by omega)]
      have h' : decide ((2147483647 : Int) < (n : Int)) = false := by simp; omega
      go_enter Tryz.func128, Tryz.ntmps128
      go_wp2
      all_goals go_ret
      all_goals exact ⟨rfl, rfl⟩
set_option maxHeartbeats 1000000 in
theorem rsized_any (n : Nat) (w : World) : Calls Tryz.prog 12 #[.int .u32 (n : Int)] w fun e w' => e = .returned (.int .i64 (sz n)) ∧ w' = w := by
  unfold sz
  by_cases h1 : n < 1
  · rw [if_pos (Or.inl h1)]
    have h : decide ((n : Int) < 1) = true := by simp; omega
    go_enter Tryz.func12, Tryz.ntmps12
    go_wp2
    all_goals go_ret
    all_goals exact ⟨rfl, rfl⟩
  · have h : decide ((n : Int) < 1) = false := by simp; omega
    by_cases h2 : 2147483647 < n
    · rw [if_pos (Or.inr h2)]
      have h' : decide ((2147483647 : Int) < (n : Int)) = true := by simp; omega
      go_enter Tryz.func12, Tryz.ntmps12
      go_wp2
      all_goals go_ret
      all_goals exact ⟨rfl, rfl⟩
    · rw [if_neg (by omega)]
      have h' : decide ((2147483647 : Int) < (n : Int)) = false := by simp; omega
      go_enter Tryz.func12, Tryz.ntmps12
      go_wp2
      all_goals go_ret
      all_goals exact ⟨rfl, rfl⟩
theorem infoW : (Tryz.prog.info? 28).map (fun i => (i.zero, i.size, i.bytes)) = some (some (.int .u64 0), 1, 8) := by kernel_rfl
theorem make_words (w : World) (n : Nat) (hn : n ≤ 1000000) : (Instr.makeSlice 32 (.int .i64 (n : Int)) (.int .i64 (n : Int))).run Tryz.prog w = .ok (.slice (some ⟨w.heap.size, 0, none⟩) n n) (w.alloc (.cells (madeCells #[.int .u64 0] n) 28)) := by
  have h := infoW
  cases hh : Tryz.prog.info? 28 with
  | none => rw [hh] at h; cases h
  | some i =>
    rw [hh] at h
    simp at h
    have hr := run_make (P := Tryz.prog) w 32 28 i (.int .u64 0) Tryz.underlying32 hh h.1 .i64 .i64 n n (by omega) (by omega) (by rw [h.2.2]; omega) (by omega)
    rw [h.2.1] at hr
    simp only [Int.toNat_natCast, Nat.mul_one] at hr
    rw [hr]
    rfl
theorem GU.new (w : World) (n : Nat) : GU (w.alloc (.cells (madeCells #[.int .u64 0] n) 28)) w.heap.size n (fun _ => 0) := by
  refine ⟨_, at0 _ _, fun j hj => ?_⟩
  simp [madeCells, hj, Nat.mod_one]
theorem ct_max (x : Int) : max x 0 = if x < 0 then 0 else x := by split <;> omega
/-- The room as it is made. -/
def rm (c : Cs) : Nat := (ct 0 5000 c.room).toNat
theorem rm_b (c : Cs) : rm c ≤ 5000 ∧ ct 0 5000 c.room = (rm c : Nat) := by have := ct_b 0 5000 c.room (by decide); unfold rm; omega
/-- A row of words of just this length. -/
def Cz (w : World) (g m : Nat) : Prop := ∃ C, w.heap[g]? = some (.cells C 28 (0, 0)) ∧ C.size = m
set_option maxHeartbeats 4000000 in
theorem words_any (c : Cs) (w : World) : Calls Tryz.prog 7 #[.agg (cb c)] w fun e w' => ∃ g, e = .returned (.slice (some ⟨g, 0, none⟩) (rm c) (rm c)) ∧ w.heap.size ≤ g ∧ GU w' g (rm c) (fun _ => 99) ∧ Cz w' g (rm c) ∧ Below w.heap.size w w' := by
  obtain ⟨hr1, hr2⟩ := rm_b c
  obtain ⟨m, hm⟩ : ∃ m, rm c = m := ⟨_, rfl⟩
  rw [hm] at hr1 hr2 ⊢
  have hmk := make_words (w.alloc (.cells (cb c) 30)) m (by omega)
  have HG0 := hide (GU.new (w.alloc (.cells (cb c) 30)) m)
  have HB0 : Hid (Below w.heap.size w ((w.alloc (.cells (cb c) 30)).alloc (.cells (madeCells #[.int .u64 0] m) 28))) := bA (b1 _ _ _) (by simp) _
  have hsz : (madeCells #[.int .u64 0] m).size = m := by simp [madeCells]
  have HC0 : Hid (Cz ((w.alloc (.cells (cb c) 30)).alloc (.cells (madeCells #[.int .u64 0] m) 28)) (w.heap.size + 1) m) := ⟨_, by have := at0 (w.alloc (.cells (cb c) 30)) (.cells (madeCells #[.int .u64 0] m) 28); simpa using this, hsz⟩
  clear hsz
  simp only [World.size_alloc] at hmk HG0
  generalize madeCells #[.int .u64 0] m = mc at *
  have hd : c.room < 0 ∧ m = 0 ∨ 5000 < c.room ∧ m = 5000 ∨ (0 ≤ c.room ∧ c.room ≤ 5000 ∧ c.room = m) := by unfold ct at hr2; split at hr2 <;> (try split at hr2) <;> omega
  clear hr2 hm
  go_enter Tryz.func7, Tryz.ntmps7
  rcases hd with hd | hd | hd
  · obtain ⟨h1, rfl⟩ := hd
    have hmk : (Instr.makeSlice 32 (.int .i64 0) (.int .i64 0)).run Tryz.prog (w.alloc (.cells (cb c) 30)) = .ok (.slice (some ⟨w.heap.size + 1, 0, none⟩) 0 0) ((w.alloc (.cells (cb c) 30)).alloc (.cells mc 28)) := hmk
    go_wp2_with (fail)
    clear hmk
    generalize (w.alloc (.cells (cb c) 30)).alloc (.cells mc 28) = w0 at *
    go_loopw [5] (fun v wr => ∃ j : Nat, j ≤ 0 ∧ v = .int .i64 j ∧ Hid (GU wr (w.heap.size + 1) 0 (fun v => if v < j then 99 else 0)) ∧ Hid (Cz wr (w.heap.size + 1) 0) ∧ Hid (Below w.heap.size w wr)) (fun v _ => 0 - (intOf v).toNat)
    case atStart => exact ⟨0, Nat.zero_le _, rfl, by simpa using HG0, HC0, HB0⟩
    case round =>
      clear HG0 HB0 HC0
      obtain ⟨j, hj, rfl, HG, HC, HB⟩ := hrel
      by_cases cc : j < 0
      · exfalso; omega
      · have hjn : j = 0 := by omega
        have HGf : Hid (GU wr (w.heap.size + 1) 0 (fun _ => 99)) := HG.out.ext (fun v hv => if_pos (by omega))
        have hcc : ¬ (j : Int) < 0 := by omega
        clear cc hj HG hjn
        go_wp2
        all_goals go_ret
        all_goals exact ⟨w.heap.size + 1, rfl, by omega, HGf.out, HC.out, HB.out⟩
  · obtain ⟨h1, rfl⟩ := hd
    have hmk : (Instr.makeSlice 32 (.int .i64 5000) (.int .i64 5000)).run Tryz.prog (w.alloc (.cells (cb c) 30)) = .ok (.slice (some ⟨w.heap.size + 1, 0, none⟩) 5000 5000) ((w.alloc (.cells (cb c) 30)).alloc (.cells mc 28)) := hmk
    go_wp2_with (fail)
    clear hmk
    generalize (w.alloc (.cells (cb c) 30)).alloc (.cells mc 28) = w0 at *
    go_loopw [5] (fun v wr => ∃ j : Nat, j ≤ 5000 ∧ v = .int .i64 j ∧ Hid (GU wr (w.heap.size + 1) 5000 (fun v => if v < j then 99 else 0)) ∧ Hid (Cz wr (w.heap.size + 1) 5000) ∧ Hid (Below w.heap.size w wr)) (fun v _ => 5000 - (intOf v).toNat)
    case atStart => exact ⟨0, Nat.zero_le _, rfl, by simpa using HG0, HC0, HB0⟩
    case round =>
      clear HG0 HB0 HC0
      obtain ⟨j, hj, rfl, HG, HC, HB⟩ := hrel
      by_cases cc : j < 5000
      · have hf := HG.out.fz j
        have hc := HG.out.cell j cc
        have hcc : (j : Int) < 5000 := by omega
        have HG1 := hide (HG.out.set j 99)
        have HG2 : Hid (GU (wr.setCell ⟨w.heap.size + 1, j, none⟩ (.int .u64 99)) (w.heap.size + 1) 5000 (fun v => if v < j + 1 then 99 else 0)) := HG1.out.1.ext (fun v hv => by
          by_cases e : v = j
          · subst e; rw [up_eq, if_pos (by omega)]
          · rw [up_ne _ _ _ _ e]
            by_cases e2 : v < j
            · rw [if_pos e2, if_pos (by omega)]
            · rw [if_neg e2, if_neg (by omega)])
        have HB2 : Hid (Below w.heap.size w (wr.setCell ⟨w.heap.size + 1, j, none⟩ (.int .u64 99))) := by
          obtain ⟨C1, h1⟩ := HG1.out.2
          show Below _ _ _
          rw [h1]
          exact below_setRow HB.out (by omega) _
        have HC2 : Hid (Cz (wr.setCell ⟨w.heap.size + 1, j, none⟩ (.int .u64 99)) (w.heap.size + 1) 5000) := by
          obtain ⟨C, q1, q2⟩ := HC.out
          refine ⟨C.setIfInBounds j (.int .u64 99), ?_, by simpa using q2⟩
          rw [setCell_eq_setRow wr _ j C 28 (0, 0) _ q1]
          exact setRow_heap wr _ _ _ 28 (0, 0) q1
        clear HG1
        go_wp2
        exact ⟨⟨j + 1, cc, by go_num, HG2, HC2, HB2⟩, by simp [intOf]; omega⟩
      · have hjn : j = 5000 := by omega
        have HGf : Hid (GU wr (w.heap.size + 1) 5000 (fun _ => 99)) := HG.out.ext (fun v hv => if_pos (by omega))
        have hcc : ¬ (j : Int) < 5000 := by omega
        clear cc hj HG hjn
        go_wp2
        all_goals go_ret
        all_goals exact ⟨w.heap.size + 1, rfl, by omega, HGf.out, HC.out, HB.out⟩
  · obtain ⟨h1, h2, h3⟩ := hd
    go_wp2_with (fail)
    clear hmk
    generalize (w.alloc (.cells (cb c) 30)).alloc (.cells mc 28) = w0 at *
    go_loopw [5] (fun v wr => ∃ j : Nat, j ≤ m ∧ v = .int .i64 j ∧ Hid (GU wr (w.heap.size + 1) m (fun v => if v < j then 99 else 0)) ∧ Hid (Cz wr (w.heap.size + 1) m) ∧ Hid (Below w.heap.size w wr)) (fun v _ => m - (intOf v).toNat)
    case atStart => exact ⟨0, Nat.zero_le _, rfl, by simpa using HG0, HC0, HB0⟩
    case round =>
      clear HG0 HB0 HC0
      obtain ⟨j, hj, rfl, HG, HC, HB⟩ := hrel
      by_cases cc : j < m
      · have hf := HG.out.fz j
        have hc := HG.out.cell j cc
        have hcc : (j : Int) < (m : Int) := by omega
        have HG1 := hide (HG.out.set j 99)
        have HG2 : Hid (GU (wr.setCell ⟨w.heap.size + 1, j, none⟩ (.int .u64 99)) (w.heap.size + 1) m (fun v => if v < j + 1 then 99 else 0)) := HG1.out.1.ext (fun v hv => by
          by_cases e : v = j
          · subst e; rw [up_eq, if_pos (by omega)]
          · rw [up_ne _ _ _ _ e]
            by_cases e2 : v < j
            · rw [if_pos e2, if_pos (by omega)]
            · rw [if_neg e2, if_neg (by omega)])
        have HB2 : Hid (Below w.heap.size w (wr.setCell ⟨w.heap.size + 1, j, none⟩ (.int .u64 99))) := by
          obtain ⟨C1, h1⟩ := HG1.out.2
          show Below _ _ _
          rw [h1]
          exact below_setRow HB.out (by omega) _
        have HC2 : Hid (Cz (wr.setCell ⟨w.heap.size + 1, j, none⟩ (.int .u64 99)) (w.heap.size + 1) m) := by
          obtain ⟨C, q1, q2⟩ := HC.out
          refine ⟨C.setIfInBounds j (.int .u64 99), ?_, by simpa using q2⟩
          rw [setCell_eq_setRow wr _ j C 28 (0, 0) _ q1]
          exact setRow_heap wr _ _ _ 28 (0, 0) q1
        clear HG1
        go_wp2
        exact ⟨⟨j + 1, cc, by go_num, HG2, HC2, HB2⟩, by simp [intOf]; omega⟩
      · have hjn : j = m := by omega
        have HGf : Hid (GU wr (w.heap.size + 1) m (fun _ => 99)) := HG.out.ext (fun v hv => if_pos (by omega))
        have hcc : ¬ (j : Int) < (m : Int) := by omega
        clear cc hj HG hjn
        go_wp2
        all_goals go_ret
        all_goals exact ⟨w.heap.size + 1, rfl, by omega, HGf.out, HC.out, HB.out⟩
end Au
end Go.Proofs.YtgoigcpdfecfhaaGreatDoor
namespace Go.Proofs.YtgoigcpdfecfhaaGreatDoor
namespace Au
open Go.RowKit
set_option linter.unusedVariables false
set_option maxRecDepth 8000
def Tp8 (t e : TypeId) : Prop := Tryz.prog.underlying t = some (.slice e) ∧ ∃ i z, Tryz.prog.info? e = some i ∧ i.zero = some z ∧ i.size = 8 ∧ i.bytes = 64 ∧ z.cells.size = 8
theorem infoS : (Tryz.prog.info? 59).map (fun i => (i.zero, i.size, i.bytes)) = some (some (.agg z8), 8, 64) := by kernel_rfl
theorem tp8 : Tp8 23 59 := by
  refine ⟨Tryz.underlying23, ?_⟩
  have h := infoS
  cases hh : Tryz.prog.info? 59 with
  | none => rw [hh] at h; cases h
  | some i =>
    rw [hh] at h
    simp at h
    exact ⟨i, .agg z8, rfl, h.1, h.2.1, h.2.2, rfl⟩
/-- What an append takes: nothing, or cells that lie somewhere. -/
def Src8 (w : World) (sv : Value) (m : Nat) (news : List Value) : Prop :=
  (sv = .slice none 0 0 ∧ m = 0 ∧ news = []) ∨ ∃ ad c, sv = .slice (some ad) m c ∧ news.length = m * 8 ∧ (∀ j u, news[j]? = some u → w.cell? (ad.add j) = some u) ∧ ∀ u ∈ news, u.oneCell' = true
theorem step_append8 {t e : TypeId} (hT : Tp8 t e) {w : World} {ops : Array Oper} {o : Oper} {a : Act} {K : Act → World → Prop} {Q : Exit → Act → World → Prop} {E : Prop} (hgd : o.guard = none) (s x : Operand)
    (ho : o.op = .call { callee := .builtin .append, args := #[s, x], argTypes := #[t, t] }) (base : Nat) (v sv : Value) (n m : Nat) (xs news : List Value) (hs : a.eval s = v) (hown : w.ownsRow base e 8 v n xs)
    (hx : a.eval x = sv) (hsrc : Src8 w sv m news) (h63 : (n + m) * 64 ≤ 140737488355328) (hbase : base ≤ w.heap.size)
    (h : ∀ v' w', w'.ownsRow base e 8 v' (n + m) (xs ++ news) → w.grownBy w' v.ownBlock → (v'.ownBlock = v.ownBlock ∨ v'.ownBlock = some w.heap.size) → K (a.put o.dst v') w') :
    if Region.wanted o (yielded ops a.tmps) = true then Oper.wp Tryz.prog o a w K Q else E := by
  have hw : Region.wanted o (yielded ops a.tmps) = true := by simp [Region.wanted, hgd]
  rw [if_pos hw]
  obtain ⟨hu, i0, z, hi, hz0, hz1, hz2, hz3⟩ := hT
  rcases hsrc with ⟨rfl, rfl, rfl⟩ | ⟨ad, c, rfl, hl, hc, h1⟩
  · have hr := run_append_owned_none (P := Tryz.prog) (w := w) base t o.type e i0 8 hu hi v n xs hown
    unfold Oper.wp execOp
    simp only [ho, resolve, invoke, builtin, Sem.run_bind, Sem.run_pure, Result.andThen_ok, List.map_toArray, List.map_cons, List.map_nil, hs, hx, hr]
    exact h v w (by simpa using hown) (grown_refl _ _) (Or.inl rfl)
  · obtain ⟨v', w', hr, h2, h3, h4, h5⟩ := run_append_own_at (P := Tryz.prog) w base t o.type e i0 z 8 64 hu hi hz0 hz1 hz2 hz3 (by decide) v n xs hown ad m c news (by omega) hc h1 (by unfold maxLen; omega) (by omega) hbase
    unfold Oper.wp execOp
    simp only [ho, resolve, invoke, builtin, Sem.run_bind, Sem.run_pure, Result.andThen_ok, List.map_toArray, List.map_cons, List.map_nil, hs, hx, hr]
    exact h v' w' h2 h3 h5
theorem wpList_append8 {t e : TypeId} (hT : Tp8 t e) {w : World} {ops : Array Oper} {rest : List Oper} {o : Oper} {a : Act} {Q : Exit → Act → World → Prop} (hgd : o.guard = none) (s x : Operand)
    (ho : o.op = .call { callee := .builtin .append, args := #[s, x], argTypes := #[t, t] }) (base : Nat) (v sv : Value) (n m : Nat) (xs news : List Value) (hs : a.eval s = v) (hown : w.ownsRow base e 8 v n xs)
    (hx : a.eval x = sv) (hsrc : Src8 w sv m news) (h63 : (n + m) * 64 ≤ 140737488355328) (hbase : base ≤ w.heap.size)
    (h : ∀ v' w', w'.ownsRow base e 8 v' (n + m) (xs ++ news) → w.grownBy w' v.ownBlock → (v'.ownBlock = v.ownBlock ∨ v'.ownBlock = some w.heap.size) → wpList Tryz.prog ops Q rest (a.put o.dst v') w') : wpList Tryz.prog ops Q (o :: rest) a w := by
  obtain ⟨hu, i0, z, hi, hz0, hz1, hz2, hz3⟩ := hT
  rcases hsrc with ⟨rfl, rfl, rfl⟩ | ⟨ad, c, rfl, hl, hc, h1⟩
  · refine wpList_append_own_none hgd s x t ho base e i0 8 hu hi v n xs hs hown hx ?_
    exact h v w (by simpa using hown) (grown_refl _ _) (Or.inl rfl)
  · exact wpList_append_own_at w hgd s x t ho base e i0 z 8 64 hu hi hz0 hz1 hz2 hz3 (by decide) v n xs hs hown ad m c news hx (by omega) hc h1 (by unfold maxLen; omega) (by omega) hbase (fun v' w' h2 h3 _ h5 => h v' w' h2 h3 h5)
theorem cell_new (v : World) (N : Nat) (c : Array Value) (t : TypeId) (i : Nat) (x : Value) (hN : v.heap.size = N) (h : c[i]? = some x) : (v.alloc (.cells c t)).cell? ⟨N, i, none⟩ = some x := by
  subst hN
  have h1 : (v.alloc (.cells c t)).heap[v.heap.size]? = some (.cells c t) := at0 v _
  simp only [World.cell?, h1, h]
  rfl
/-- One state in a new block. -/
theorem src_new8 (w : World) (s : Nat → Int) (t : TypeId) (c : Nat) : Src8 (w.alloc (.cells (sv s) t)) (.slice (some ⟨w.heap.size, 0, none⟩) 1 c) 1 (sv s).toList := by
  refine Or.inr ⟨_, _, rfl, rfl, ?_, ?_⟩
  · intro j u hj
    rw [add0]
    exact cell_new w _ _ t j u rfl (by simpa using hj)
  · intro u hu
    simp at hu
    rcases hu with rfl | rfl | rfl | rfl | rfl | rfl | rfl | rfl <;> rfl
/-- The cells of the first k states. -/
def cs (S : Nat → Nat → Int) : Nat → List Value
  | 0 => []
  | k + 1 => cs S k ++ (sv (S k)).toList
theorem cs_len (S : Nat → Nat → Int) (k : Nat) : (cs S k).length = k * 8 := by
  induction k with
  | zero => rfl
  | succ k ih => simp only [cs, List.length_append, ih]; simp; omega
theorem cs_get (S : Nat → Nat → Int) (k v i : Nat) (hv : v < k) (hi : i < 8) : (cs S k)[v * 8 + i]? = some (.int .u64 (S v i)) := by
  induction k with
  | zero => omega
  | succ k ih =>
    simp only [cs]
    by_cases h : v < k
    · rw [List.getElem?_append_left (by rw [cs_len]; omega)]
      exact ih h
    · have hk : v = k := by omega
      subst hk
      rw [List.getElem?_append_right (by rw [cs_len]; omega), cs_len, show v * 8 + i - v * 8 = i by omega]
      have := sv_get (S v) i hi
      simpa using this
/-- A list of states as it lies. -/
def SR (w : World) (b n : Nat) (S : Nat → Nat → Int) : Prop := ∃ C : Array Value, w.heap[b]? = some (.cells C 59 (0, 0)) ∧ ∀ v, v < n → ∀ i, i < 8 → C[v * 8 + i]? = some (.int .u64 (S v i))
theorem SR.lt {w : World} {b n : Nat} {S : Nat → Nat → Int} (h : SR w b n S) : b < w.heap.size := by
  obtain ⟨C, h, _⟩ := h
  exact lt_of_some h
theorem SR.of {w w' : World} {b n : Nat} {S : Nat → Nat → Int} (h : SR w b n S) (e : w'.heap[b]? = w.heap[b]?) : SR w' b n S := by
  obtain ⟨C, h, h2⟩ := h
  exact ⟨C, e.trans h, h2⟩
theorem SR.on {X : Nat → Prop} {w w' : World} {b n : Nat} {S : Nat → Nat → Int} (h : SR w b n S) (hb : Ch X w w') (hx : ¬ X b) : SR w' b n S := h.of (hb.block b h.lt hx)
theorem SR.c {w : World} {b n : Nat} {S : Nat → Nat → Int} (h : SR w b n S) (v : Nat) (hv : v < n) (i : Nat) (hi : i < 8) : w.cell? ⟨b, v * 8 + i, none⟩ = some (.int .u64 (S v i)) := by
  obtain ⟨C, h, h2⟩ := h
  exact (cell_of_row w b _ _ 59 (0, 0) h).trans (h2 v hv i hi)
/-- A list of our own holds the states. -/
theorem own_sr {w : World} {B : Nat} {v : Value} {n : Nat} {S : Nat → Nat → Int} (h : w.ownsRow B 59 8 v n (cs S n)) (hn : 0 < n) : ∃ g cap, v = .slice (some ⟨g, 0, none⟩) n cap ∧ B ≤ g ∧ n ≤ cap ∧ SR w g n S := by
  obtain ⟨h1, h2⟩ := h
  rcases h2 with ⟨rfl, h0⟩ | ⟨g, cap, cur, rfl, h3, h4, h5, h6, h7, h8⟩
  · omega
  · refine ⟨g, cap, rfl, h3, h5, cur, h4, fun u hu i hi => ?_⟩
    have hg := cs_get S n u i hu hi
    rw [← h8, List.getElem?_take, if_pos (by omega)] at hg
    simpa using hg
theorem cs_ext (S T : Nat → Nat → Int) (k : Nat) (h : ∀ v, v < k → S v = T v) : cs S k = cs T k := by
  induction k with
  | zero => rfl
  | succ k ih => simp only [cs]; rw [ih (fun v hv => h v (by omega)), h k (by omega)]
/-- States as they come in. -/
def At8 (w : World) (x : Addr) (n : Nat) (S : Nat → Nat → Int) : Prop := x.block < w.heap.size ∧ ∀ v, v < n → ∀ i, i < 8 → w.cell? (x.add (v * 8 + i)) = some (.int .u64 (S v i))
def Row8 (w : World) (a : Option Addr) (n : Nat) (S : Nat → Nat → Int) : Prop := 0 < n → ∃ x, a = some x ∧ At8 w x n S
theorem Row8.on {w w' : World} {a : Option Addr} {n B : Nat} {S : Nat → Nat → Int} (h : Row8 w a n S) (hb : Below B w w') (hB : w.heap.size ≤ B) : Row8 w' a n S := fun h0 => by
  obtain ⟨x, e, h1, h2⟩ := h h0
  exact ⟨x, e, Nat.lt_of_lt_of_le h1 hb.size, fun v hv i hi => (hb.cell (p := x.add (v * 8 + i)) (by rw [add_block]; omega)).trans (h2 v hv i hi)⟩
theorem Row8.ch {X : Nat → Prop} {w w' : World} {a : Option Addr} {n B : Nat} {S : Nat → Nat → Int} (h : Row8 w a n S) (hc : Ch X w w') (hX : ∀ k, X k → w.heap.size ≤ k) : Row8 w' a n S := h.on (hc.below (B := w.heap.size) (fun k hk hx => by have := hX k hx; omega) (Nat.le_refl _)) (Nat.le_refl _)
abbrev K8i (x : Addr) (v : Nat) (s : Nat → Int) (w : World) : Prop := w.cell? (x.add (v * 8)) = some (.int .u64 (s 0)) ∧ w.cell? ⟨(x.add (v * 8)).block, (x.add (v * 8)).off + 1, none⟩ = some (.int .u64 (s 1)) ∧ w.cell? ⟨(x.add (v * 8)).block, (x.add (v * 8)).off + 2, none⟩ = some (.int .u64 (s 2)) ∧ w.cell? ⟨(x.add (v * 8)).block, (x.add (v * 8)).off + 3, none⟩ = some (.int .u64 (s 3)) ∧ w.cell? ⟨(x.add (v * 8)).block, (x.add (v * 8)).off + 4, none⟩ = some (.int .u64 (s 4)) ∧ w.cell? ⟨(x.add (v * 8)).block, (x.add (v * 8)).off + 5, none⟩ = some (.int .u64 (s 5)) ∧ w.cell? ⟨(x.add (v * 8)).block, (x.add (v * 8)).off + 6, none⟩ = some (.int .u64 (s 6)) ∧ w.cell? ⟨(x.add (v * 8)).block, (x.add (v * 8)).off + 7, none⟩ = some (.int .u64 (s 7))
theorem At8.k {w : World} {x : Addr} {n : Nat} {S : Nat → Nat → Int} (h : At8 w x n S) (v : Nat) (hv : v < n) : K8i x v (S v) w := by
  have e : ∀ i, 0 < i → i < 8 → w.cell? ⟨(x.add (v * 8)).block, (x.add (v * 8)).off + i, none⟩ = some (.int .u64 (S v i)) := fun i h0 hi => by
    have := h.2 v hv i hi
    rw [← Addr.add_add] at this
    unfold Addr.add at this ⊢
    split at this <;> simp_all
  exact ⟨h.2 v hv 0 (by decide), e 1 (by decide) (by decide), e 2 (by decide) (by decide), e 3 (by decide) (by decide), e 4 (by decide) (by decide), e 5 (by decide) (by decide), e 6 (by decide) (by decide), e 7 (by decide) (by decide)⟩
abbrev K8o (b o : Nat) (c : Nat → Int) (w : World) : Prop := w.cell? ⟨b, o, none⟩ = some (.int .u64 (c 0)) ∧ w.cell? ⟨b, o + 1, none⟩ = some (.int .u64 (c 1)) ∧ w.cell? ⟨b, o + 2, none⟩ = some (.int .u64 (c 2)) ∧ w.cell? ⟨b, o + 3, none⟩ = some (.int .u64 (c 3)) ∧ w.cell? ⟨b, o + 4, none⟩ = some (.int .u64 (c 4)) ∧ w.cell? ⟨b, o + 5, none⟩ = some (.int .u64 (c 5)) ∧ w.cell? ⟨b, o + 6, none⟩ = some (.int .u64 (c 6)) ∧ w.cell? ⟨b, o + 7, none⟩ = some (.int .u64 (c 7))
theorem SR.k8 {w : World} {b n : Nat} {S : Nat → Nat → Int} (h : SR w b n S) (v : Nat) (hv : v < n) : K8o b (v * 8) (S v) w :=
  ⟨h.c v hv 0 (by decide), h.c v hv 1 (by decide), h.c v hv 2 (by decide), h.c v hv 3 (by decide), h.c v hv 4 (by decide), h.c v hv 5 (by decide), h.c v hv 6 (by decide), h.c v hv 7 (by decide)⟩
def mark (x : Int) : Nat → Int := fun i => if i < 3 then x else 0
/-- What states makes of a list of n, cut to m. -/
def mk (n m : Nat) (S : Nat → Nat → Int) : Nat → Nat → Int := fun v => if v < m then (if v < n then S v else fun _ => 0) else if v = m then mark 77 else mark 78
theorem src2 (w : World) (s t : Nat → Int) (ty : TypeId) (c : Nat) : Src8 (w.alloc (.cells (sv s ++ sv t) ty)) (.slice (some ⟨w.heap.size, 0, none⟩) 2 c) 2 ((sv s).toList ++ (sv t).toList) := by
  refine Or.inr ⟨_, _, rfl, rfl, ?_, ?_⟩
  · intro j u hj
    rw [add0]
    exact cell_new w _ _ ty j u rfl (by simpa using hj)
  · intro u hu
    simp at hu
    rcases hu with h | h | h | h | h | h | h | h | h | h | h | h | h | h | h | h <;> (subst h; rfl)
theorem own_nil (w : World) (t : TypeId) (B n : Nat) : w.ownsRow B t n (.slice none 0 0) 0 [] := ⟨by simp, .inl ⟨rfl, rfl⟩⟩
set_option maxHeartbeats 4000000 in
theorem states_any (a : Option Addr) (n c m : Nat) (S : Nat → Nat → Int) (hm : m * 64 ≤ 140737488351232) (hn : n * 64 ≤ 140737488351232) (w : World) (hr : Row8 w a n S) :
    Calls Tryz.prog 6 #[.slice a n c, .int .i64 (m : Int)] w fun e w' => ∃ g cap, e = .returned (.slice (some ⟨g, 0, none⟩) m cap) ∧ m + 2 ≤ cap ∧ w.heap.size ≤ g ∧ SR w' g (m + 2) (mk n m S) ∧ Below w.heap.size w w' := by
  have HR := hide hr
  clear hr
  go_enter Tryz.func6, Tryz.ntmps6
  go_wp2_with (fail)
  go_loopw [5, 6] (fun v t wr => ∃ k : Nat, k ≤ m ∧ t = .int .i64 k ∧ Hid (wr.ownsRow w.heap.size 59 8 v k (cs (mk n m S) k)) ∧ Hid (Below w.heap.size w wr)) (fun _ t _ => m - (intOf t).toNat)
  case atStart => exact ⟨0, Nat.zero_le _, rfl, own_nil _ _ _ _, Below.refl _ _⟩
  case round =>
    obtain ⟨k, hk, rfl, HO, HB⟩ := hrel
    obtain ⟨v, hv5⟩ : ∃ v, v = u5 := ⟨_, rfl⟩
    subst hv5
    by_cases cc : k < m
    · have hcc : (k : Int) < (m : Int) := by omega
      have hbs := HB.out.size
      obtain ⟨s, hs⟩ : ∃ s, mk n m S k = s := ⟨_, rfl⟩
      have HO1 : Hid (((wr.alloc (.cells (sv s) 59)).alloc (.cells (sv s) 59)).ownsRow w.heap.size 59 8 v k (cs (mk n m S) k)) := (HO.out.alloc _).alloc _
      have HS : Hid (∀ c, Src8 ((wr.alloc (.cells (sv s) 59)).alloc (.cells (sv s) 59)) (.slice (some ⟨wr.heap.size + 1, 0, none⟩) 1 c) 1 (sv s).toList) := fun c => by
        have := src_new8 (wr.alloc (.cells (sv s) 59)) s 59 c
        simpa using this
      have HB1 : Hid (Below w.heap.size w ((wr.alloc (.cells (sv s) 59)).alloc (.cells (sv s) 59))) := bA (bA HB.out hbs _) (by simp only [World.size_alloc]; omega) _
      have HX : Hid (∀ v' w', w'.ownsRow w.heap.size 59 8 v' (k + 1) (cs (mk n m S) k ++ (sv s).toList) → ((wr.alloc (.cells (sv s) 59)).alloc (.cells (sv s) 59)).grownBy w' v.ownBlock → w'.ownsRow w.heap.size 59 8 v' (k + 1) (cs (mk n m S) (k + 1)) ∧ Below w.heap.size w w') := fun v' w' h1 h2 => by
        refine ⟨by simp only [cs]; rw [hs]; exact h1, HB1.out.grown h2 (by simp only [World.size_alloc]; omega) (fun j hj => (HO1.out.lt j hj).1)⟩
      by_cases ck : k < n
      · have hck : (k : Int) < (n : Int) := by omega
        obtain ⟨x, rfl, hx⟩ := HR.out (by omega)
        obtain ⟨q0, q1, q2, q3, q4, q5, q6, q7⟩ := (show At8 (wr.alloc (.cells z8 59)) x n S from by
          obtain ⟨x', e', hx'⟩ := (HR.out.on (bA HB.out hbs (.cells z8 59)) (Nat.le_refl _)) (by omega)
          cases e'; exact hx').k k ck
        have hsk : s = S k := by rw [← hs]; unfold mk; rw [if_pos cc, if_pos ck]
        rw [← hsk] at q0 q1 q2 q3 q4 q5 q6 q7
        clear hx hs hsk
        go_wp2_with (at_builtin; refine wpList_append8 tp8 rfl _ _ rfl w.heap.size _ _ k 1 _ _ rfl HO1.out rfl (HS.out _) (by omega) (by simp only [World.size_alloc]; omega) ?_)
        intro v1 w1 hown1 hgr1 hat1
        have HE := hide (HX.out v1 w1 hown1 hgr1)
        clear hown1 hgr1 hat1 q0 q1 q2 q3 q4 q5 q6 q7 HX HO1 HS HB1
        go_wp2
        exact ⟨⟨k + 1, cc, by go_num, HE.out.1, HE.out.2⟩, by simp [intOf]; omega⟩
      · have hck : ¬ (k : Int) < (n : Int) := by omega
        have hsk : s = fun _ => 0 := by rw [← hs]; unfold mk; rw [if_pos cc, if_neg ck]
        clear hs
        subst hsk
        go_wp2_with (at_builtin; refine wpList_append8 tp8 rfl _ _ rfl w.heap.size _ _ k 1 _ _ rfl HO1.out rfl (HS.out _) (by omega) (by simp only [World.size_alloc]; omega) ?_)
        intro v1 w1 hown1 hgr1 hat1
        have HE := hide (HX.out v1 w1 hown1 hgr1)
        clear hown1 hgr1 hat1 HX HO1 HS HB1
        go_wp2
        exact ⟨⟨k + 1, cc, by go_num, HE.out.1, HE.out.2⟩, by simp [intOf]; omega⟩
    · have hkm : m = k := by omega
      subst hkm
      have hbs := HB.out.size
      have hcc : ¬ (m : Int) < (m : Int) := by omega
      have HO1 : Hid ((wr.alloc (.cells (sv (mark 77) ++ sv (mark 78)) 59)).ownsRow w.heap.size 59 8 v m (cs (mk n m S) m)) := HO.out.alloc _
      have HS : Hid (∀ c, Src8 (wr.alloc (.cells (sv (mark 77) ++ sv (mark 78)) 59)) (.slice (some ⟨wr.heap.size, 0, none⟩) 2 c) 2 ((sv (mark 77)).toList ++ (sv (mark 78)).toList)) := fun c => src2 wr _ _ 59 c
      have HX : Hid (∀ v' w', w'.ownsRow w.heap.size 59 8 v' (m + 2) (cs (mk n m S) m ++ ((sv (mark 77)).toList ++ (sv (mark 78)).toList)) → (wr.alloc (.cells (sv (mark 77) ++ sv (mark 78)) 59)).grownBy w' v.ownBlock → ∃ g cap, v' = .slice (some ⟨g, 0, none⟩) (m + 2) cap ∧ m + 2 ≤ cap ∧ w.heap.size ≤ g ∧ SR w' g (m + 2) (mk n m S) ∧ Below w.heap.size w w') := fun v' w' h1 h2 => by
        have e1 : mk n m S m = mark 77 := by unfold mk; rw [if_neg (by omega), if_pos rfl]
        have e2 : mk n m S (m + 1) = mark 78 := by unfold mk; rw [if_neg (by omega), if_neg (by omega)]
        have h3 : w'.ownsRow w.heap.size 59 8 v' (m + 2) (cs (mk n m S) (m + 2)) := by
          simp only [cs]; rw [e1, e2, List.append_assoc]; exact h1
        obtain ⟨g, cap, q1, q2, q3, q4⟩ := own_sr h3 (by omega)
        exact ⟨g, cap, q1, q3, q2, q4, (bA HB.out hbs _).grown h2 (by simp only [World.size_alloc]; omega) (fun j hj => (HO1.out.lt j hj).1)⟩
      go_wp2_with (at_builtin; refine wpList_append8 tp8 rfl _ _ rfl w.heap.size _ _ m 2 _ _ rfl HO1.out rfl (HS.out _) (by omega) (by simp only [World.size_alloc]; omega) ?_)
      intro v1 w1 hown1 hgr1 hat1
      obtain ⟨g, cap, rfl, q2, q3, q4, q5⟩ := HX.out v1 w1 hown1 hgr1
      have HE : Hid (SR w1 g (m + 2) (mk n m S) ∧ Below w.heap.size w w1) := ⟨q4, q5⟩
      clear hown1 hgr1 hat1 HX HO1 HS q4 q5
      have hmc : (m : Int) ≤ (cap : Int) := by omega
      go_wp2
      all_goals go_ret
      all_goals exact ⟨g, cap, rfl, q2, q3, HE.out⟩
theorem eq63 (s : Nat → Int) (w : World) : (Op.equalIn 10000 59 (.agg (sv s)) (.agg (sv s))).run Tryz.prog w = .ok true w := by
  have uU := Tryz.underlying28
  have aU := Tryz.isAgg28
  have zU := Tryz.sizeOf28
  rw [show (10000 : Nat) = 9999 + 1 from rfl, Op.equalIn]
  simp only [Sem.run_bind, run_underlying Tryz.underlying59, Result.andThen_ok]
  simp only [Std.Legacy.Range.forIn_eq_forIn_range', Std.Legacy.Range.size, Nat.sub_zero, Nat.add_sub_cancel, Nat.div_one, List.range'_succ, List.range'_zero, List.forIn_cons, List.forIn_nil]
  go_simp
theorem neq63 (s : Nat → Int) (w : World) : Sem.run Tryz.prog (binOp BinOp.neq 59 (.agg (sv s)) (.agg (sv s))) w = .ok (.bool false) w := by
  simp [binOp, Op.equal, show Op.maxDepth = 10000 from rfl, eq63]
theorem eql63 (s : Nat → Int) (w : World) : Sem.run Tryz.prog (binOp BinOp.eql 59 (.agg (sv s)) (.agg (sv s))) w = .ok (.bool true) w := by
  simp [binOp, Op.equal, show Op.maxDepth = 10000 from rfl, eq63]
theorem eq35 (b : Bool) (x y : Int) (w : World) : (Op.equalIn 10000 35 (.agg #[.bool b, .int .u32 x, .int .i64 y]) (.agg #[.bool b, .int .u32 x, .int .i64 y])).run Tryz.prog w = .ok true w := by
  have u1 := Tryz.underlying4
  have u2 := Tryz.underlying22
  have u3 := Tryz.underlying3
  have a1 := Tryz.isAgg4
  have a2 := Tryz.isAgg22
  have a3 := Tryz.isAgg3
  have z1 := Tryz.sizeOf4
  have z2 := Tryz.sizeOf22
  have z3 := Tryz.sizeOf3
  rw [show (10000 : Nat) = 9999 + 1 from rfl, Op.equalIn]
  simp only [Sem.run_bind, run_underlying Tryz.underlying35, Result.andThen_ok]
  go_simp
theorem eql35 (b : Bool) (x y : Int) (w : World) : Sem.run Tryz.prog (binOp BinOp.eql 35 (.agg #[.bool b, .int .u32 x, .int .i64 y]) (.agg #[.bool b, .int .u32 x, .int .i64 y])) w = .ok (.bool true) w := by
  simp [binOp, Op.equal, show Op.maxDepth = 10000 from rfl, eq35]
end Au
end Go.Proofs.YtgoigcpdfecfhaaGreatDoor
namespace Go.Proofs.YtgoigcpdfecfhaaGreatDoor
namespace Au
open Go.RowKit
set_option linter.unusedVariables false
set_option maxRecDepth 8000
set_option maxHeartbeats 4000000 in
theorem kept_any (a : Option Addr) (n c g cap : Nat) (S : Nat → Nat → Int) (hn : n * 64 ≤ 140737488351232) (hc : n + 2 ≤ cap) (w : World) (hr : Row8 w a n S) (hs : SR w g (n + 2) (mk n n S)) :
    Calls Tryz.prog 20 #[.slice (some ⟨g, 0, none⟩) n cap, .slice a n c] w fun e w' => e = .returned (.bool true) ∧ Below w.heap.size w w' := by
  have HR := hide hr
  have HS := hide hs
  clear hr hs
  go_enter Tryz.func20, Tryz.ntmps20
  go_wp2_with (fail)
  go_loopw [5] (fun t wr => ∃ k : Nat, k ≤ n ∧ t = .int .i64 k ∧ Hid (Below w.heap.size w wr)) (fun t _ => n - (intOf t).toNat)
  case atStart => exact ⟨0, Nat.zero_le _, rfl, Below.refl _ _⟩
  case round =>
    obtain ⟨k, hk, rfl, HB⟩ := hrel
    by_cases cc : k < n
    · have hcc : (k : Int) < (n : Int) := by omega
      obtain ⟨x, rfl, hx⟩ := (HR.out.on HB.out (Nat.le_refl _)) (by omega)
      obtain ⟨q0, q1, q2, q3, q4, q5, q6, q7⟩ := hx.k k cc
      obtain ⟨p0, p1, p2, p3, p4, p5, p6, p7⟩ := (HS.out.of (w' := wr) (HB.out.block g HS.out.lt)).k8 k (by omega)
      have hsk : mk n n S k = S k := by unfold mk; rw [if_pos cc, if_pos cc]
      rw [hsk] at p0 p1 p2 p3 p4 p5 p6 p7
      have hne := neq63 (S k)
      have HBN : Hid (∀ m, Below w.heap.size w (wr.drewN m)) := fun m => belowN HB.out m
      have hnc : (k : Int) < (cap : Int) := by omega
      clear hx hsk
      generalize S k = s at *
      go_wp2_with (fail)
      go_quiet (fail)
      go_wp2
      exact ⟨⟨k + 1, cc, by go_num, HBN.out _⟩, by simp [intOf]; omega⟩
    · have hkn : n = k := by omega
      subst hkn
      have hS1 := HS.out.of (w' := wr) (HB.out.block g HS.out.lt)
      have e1 : mk n n S n = mark 77 := by unfold mk; rw [if_neg (by omega), if_pos rfl]
      have e2 : mk n n S (n + 1) = mark 78 := by unfold mk; rw [if_neg (by omega), if_neg (by omega)]
      have k1 := hS1.k8 n (by omega)
      have k2 := hS1.k8 (n + 1) (by omega)
      rw [e1] at k1
      rw [e2] at k2
      obtain ⟨p0, p1, p2, p3, p4, p5, p6, p7⟩ := k1
      obtain ⟨r0, r1, r2, r3, r4, r5, r6, r7⟩ := k2
      have h77 : ∀ W, Sem.run Tryz.prog (binOp BinOp.eql 59 (.agg #[.int .u64 77, .int .u64 77, .int .u64 77, .int .u64 0, .int .u64 0, .int .u64 0, .int .u64 0, .int .u64 0]) (.agg #[.int .u64 77, .int .u64 77, .int .u64 77, .int .u64 0, .int .u64 0, .int .u64 0, .int .u64 0, .int .u64 0])) W = .ok (.bool true) W := eql63 (mark 77)
      have h78 : ∀ W, Sem.run Tryz.prog (binOp BinOp.eql 59 (.agg #[.int .u64 78, .int .u64 78, .int .u64 78, .int .u64 0, .int .u64 0, .int .u64 0, .int .u64 0, .int .u64 0]) (.agg #[.int .u64 78, .int .u64 78, .int .u64 78, .int .u64 0, .int .u64 0, .int .u64 0, .int .u64 0, .int .u64 0])) W = .ok (.bool true) W := eql63 (mark 78)
      simp only [show mark 77 0 = 77 from rfl, show mark 77 1 = 77 from rfl, show mark 77 2 = 77 from rfl, show mark 77 3 = 0 from rfl, show mark 77 4 = 0 from rfl, show mark 77 5 = 0 from rfl, show mark 77 6 = 0 from rfl, show mark 77 7 = 0 from rfl] at p0 p1 p2 p3 p4 p5 p6 p7
      simp only [show mark 78 0 = 78 from rfl, show mark 78 1 = 78 from rfl, show mark 78 2 = 78 from rfl, show mark 78 3 = 0 from rfl, show mark 78 4 = 0 from rfl, show mark 78 5 = 0 from rfl, show mark 78 6 = 0 from rfl, show mark 78 7 = 0 from rfl] at r0 r1 r2 r3 r4 r5 r6 r7
      have hcc : ¬ (n : Int) < (n : Int) := by omega
      have hw1 : wrap64 ((n : Int) + 2) = (n : Int) + 2 := by unfold wrap64; omega
      have hw2 : wrap64 ((n : Int) + 1) = (n : Int) + 1 := by unfold wrap64; omega
      have hl1 : (n : Int) + 2 ≤ (cap : Int) := by omega
      have HBN := HB
      clear hS1 e1 e2 cc hk
      go_wp2
      all_goals go_ret
      all_goals exact ⟨rfl, HBN.out⟩
set_option maxHeartbeats 4000000 in
theorem spare_any (g rl : Nat) (need : Nat) (hr : rl ≤ 5000) (hn : need ≤ 10000000000) (w : World) (h : ∀ j, need ≤ j → j < rl → w.cell? ⟨g, j, none⟩ = some (.int .u64 99)) :
    Calls Tryz.prog 15 #[.slice (some ⟨g, 0, none⟩) rl rl, .int .i64 (need : Int)] w fun e w' => e = .returned (.bool true) ∧ w' = w := by
  have HH := hide h
  clear h
  go_enter Tryz.func15, Tryz.ntmps15
  go_wp2_with (fail)
  go_loopw [5] (fun t wr => ∃ k : Nat, need ≤ k ∧ k ≤ need + rl ∧ t = .int .i64 k ∧ wr = w) (fun t _ => rl - (intOf t).toNat)
  case atStart => exact ⟨need, Nat.le_refl _, by omega, rfl, rfl⟩
  case round =>
    obtain ⟨k, hk, hk2, rfl, rfl⟩ := hrel
    by_cases cc : k < rl
    · have hcc : (k : Int) < (rl : Int) := by omega
      have hc := HH.out k hk cc
      go_wp2
      exact ⟨⟨k + 1, by omega, by omega, by go_num, by first | trivial | rfl⟩, by simp [intOf]; omega⟩
    · have hcc : ¬ (k : Int) < (rl : Int) := by omega
      go_wp2
      all_goals go_ret
      all_goals exact ⟨rfl, rfl⟩
set_option maxHeartbeats 4000000 in
theorem agree_any (E : Int) (o : Vd) (b : Bool) (x y : Int) (h : E = 0 → b = vR o ∧ x = vV o ∧ y = vK o) (w : World) :
    Calls Tryz.prog 14 #[.agg (vx E o), .int .i64 E, .agg #[.bool b, .int .u32 x, .int .i64 y], .int .i64 E] w fun e w' => e = .returned (.bool true) ∧ Below w.heap.size w w' := by
  have HN := hide (num_any E)
  have HB : Hid (∀ C C', Below w.heap.size w ((w.alloc (.cells C 35)).alloc (.cells C' 35))) := fun C C' => bA (b1 _ _ _) (by simp) _
  have hq := eql35
  by_cases hE : E = 0
  · obtain ⟨rfl, rfl, rfl⟩ := h hE
    subst hE
    rw [show vx 0 o = #[.bool (vR o), .int .u32 (vV o), .int .i64 (vK o)] from rfl]
    generalize vR o = b0 at *
    generalize vV o = b1 at *
    generalize vK o = b2 at *
    clear h
    go_enter Tryz.func14, Tryz.ntmps14
    go_wp2_with (fail)
    refine (HN.out _).mono ?_
    rintro e1 w1 ⟨rfl, hw1⟩
    subst w1
    go_wp2
    all_goals go_ret
    all_goals exact ⟨rfl, HB.out _ _⟩
  · have h1 : (E != 0) = true := by simpa using hE
    rw [show vx E o = z3 from if_neg hE]
    clear h hE
    go_enter Tryz.func14, Tryz.ntmps14
    go_wp2_with (fail)
    refine (HN.out _).mono ?_
    rintro e1 w1 ⟨rfl, hw1⟩
    subst w1
    have hEE : (E == E) = true := by simp
    go_wp2
    all_goals go_ret
    all_goals exact ⟨rfl, HB.out _ _⟩
/-- A list of numbers as it lies. -/
def GI (w : World) (b n : Nat) (G : Nat → Int) : Prop := ∃ C : Array Value, w.heap[b]? = some (.cells C 3 (0, 0)) ∧ ∀ v, v < n → C[v]? = some (.int .i64 (G v))
theorem GI.lt {w : World} {b n : Nat} {G : Nat → Int} (h : GI w b n G) : b < w.heap.size := by
  obtain ⟨C, h, _⟩ := h
  exact lt_of_some h
theorem GI.of {w w' : World} {b n : Nat} {G : Nat → Int} (h : GI w b n G) (e : w'.heap[b]? = w.heap[b]?) : GI w' b n G := by
  obtain ⟨C, h, h2⟩ := h
  exact ⟨C, e.trans h, h2⟩
theorem GI.on {X : Nat → Prop} {w w' : World} {b n : Nat} {G : Nat → Int} (h : GI w b n G) (hb : Ch X w w') (hx : ¬ X b) : GI w' b n G := h.of (hb.block b h.lt hx)
theorem GI.cell {w : World} {b n : Nat} {G : Nat → Int} (h : GI w b n G) (v : Nat) (hv : v < n) : w.cell? ⟨b, v, none⟩ = some (.int .i64 (G v)) := by
  obtain ⟨C, h, h2⟩ := h
  exact (cell_of_row w b _ _ 3 (0, 0) h).trans (h2 v hv)
theorem GI.fz {w : World} {b n : Nat} {G : Nat → Int} (h : GI w b n G) (j : Nat) : w.frozen? ⟨b, j, none⟩ = false := by
  obtain ⟨C, h, h2⟩ := h
  exact frozen_of_row w b _ _ 3 h
theorem GI.set {w : World} {b n : Nat} {G : Nat → Int} (h : GI w b n G) (j : Nat) (x : Int) : GI (w.setCell ⟨b, j, none⟩ (.int .i64 x)) b n (up G j x) := by
  obtain ⟨C, h, h2⟩ := h
  rw [setCell_eq_setRow w b j C 3 (0, 0) _ h]
  refine ⟨_, setRow_heap w b _ _ 3 (0, 0) h, fun v hv => ?_⟩
  show _ = some (Value.int .i64 (if v = j then x else G v))
  rw [Array.getElem?_setIfInBounds]
  have hv2 := h2 v hv
  have := (Array.getElem?_eq_some_iff.1 hv2).1
  by_cases e : j = v
  · subst e; rw [if_pos rfl, if_pos this, if_pos rfl]
  · rw [if_neg e, if_neg (fun k => e k.symm)]; exact hv2
theorem infoI : (Tryz.prog.info? 3).map (fun i => (i.zero, i.size, i.bytes)) = some (some (.int .i64 0), 1, 8) := by kernel_rfl
theorem make_ints (w : World) (n : Nat) (hn : n ≤ 1000000) : (Instr.makeSlice 140 (.int .u32 (n : Int)) (.int .u32 (n : Int))).run Tryz.prog w = .ok (.slice (some ⟨w.heap.size, 0, none⟩) n n) (w.alloc (.cells (madeCells #[.int .i64 0] n) 3)) := by
  have h := infoI
  cases hh : Tryz.prog.info? 3 with
  | none => rw [hh] at h; cases h
  | some i =>
    rw [hh] at h
    simp at h
    have hr := run_make (P := Tryz.prog) w 140 3 i (.int .i64 0) Tryz.underlying140 hh h.1 .u32 .u32 n n (by omega) (by omega) (by rw [h.2.2]; omega) (by omega)
    rw [h.2.1] at hr
    simp only [Int.toNat_natCast, Nat.mul_one] at hr
    rw [hr]
    rfl
theorem GI.new (w : World) (n : Nat) : GI (w.alloc (.cells (madeCells #[.int .i64 0] n) 3)) w.heap.size n (fun _ => 0) := by
  refine ⟨_, at0 _ _, fun j hj => ?_⟩
  simp [madeCells, hj, Nat.mod_one]
set_option maxHeartbeats 4000000 in
theorem begin_any (n : Nat) (hn : n ≤ 5000) (w : World) : Calls Tryz.prog 98 #[.int .u32 (n : Int)] w fun e w' => ∃ g, e = .returned (.agg #[.slice (some ⟨g, 0, none⟩) n n]) ∧ w.heap.size ≤ g ∧ GI w' g n (fun _ => 0) ∧ Below w.heap.size w w' := by
  have hmk := make_ints (w.alloc (.cells #[.slice none 0 0] 142)) n (by omega)
  have HG := hide (GI.new (w.alloc (.cells #[.slice none 0 0] 142)) n)
  simp only [World.size_alloc] at hmk HG
  generalize madeCells #[.int .i64 0] n = mc at *
  have HF : Hid (∀ v : Value, GI ((w.alloc (.cells #[v] 142)).alloc (.cells mc 3)) (w.heap.size + 1) n (fun _ => 0) ∧ Below w.heap.size w ((w.alloc (.cells #[v] 142)).alloc (.cells mc 3))) := fun v => by
    obtain ⟨C, h1, h2⟩ := HG.out
    have e1 := at0 (w.alloc (.cells #[.slice none 0 0] 142)) (.cells mc 3)
    have e2 := at0 (w.alloc (.cells #[v] 142)) (.cells mc 3)
    simp only [World.size_alloc] at e1 e2
    exact ⟨⟨C, e2.trans (e1.symm.trans h1), h2⟩, bA (b1 _ _ _) (by simp) _⟩
  clear HG
  go_enter Tryz.func98, Tryz.ntmps98
  go_wp2
  all_goals (refine bodyPost_ret (v := .agg #[.slice (some ⟨w.heap.size + 1, 0, none⟩) n n]) ?_ rfl ?_)
  all_goals first | (simp [results, Tryz.f98, go_sem]; done) | exact ⟨w.heap.size + 1, rfl, Nat.le_succ _, HF.out _⟩
end Au
end Go.Proofs.YtgoigcpdfecfhaaGreatDoor
namespace Go.Proofs.YtgoigcpdfecfhaaGreatDoor
namespace Au
open Go.RowKit
set_option linter.unusedVariables false
set_option maxRecDepth 8000
/-- Of each vertex the least rule that is broken. -/
def Rl (P : Nat → Nat → Prop) (n : Nat) (G : Nat → Int) : Prop := ∀ v, v < n → (G v = 0 ∧ ∀ r, ¬ P v r) ∨ ∃ r : Nat, G v = r ∧ 1 ≤ r ∧ P v r ∧ ∀ r', P v r' → r ≤ r'
/-- What a note leaves. -/
def nx (G : Nat → Int) (v r : Nat) (b : Bool) : Nat → Int := if b = true ∧ (G v = 0 ∨ (r : Int) < G v) then up G v r else G
theorem Rl.note {P : Nat → Nat → Prop} {n : Nat} {G : Nat → Int} (h : Rl P n G) (v r : Nat) (b : Bool) (hr : 1 ≤ r) : Rl (fun a c => P a c ∨ (b = true ∧ a = v ∧ c = r)) n (nx G v r b) := by
  intro u hu
  unfold nx
  by_cases e : u = v
  · subst e
    cases b with
    | false =>
      rw [if_neg (by simp)]
      rcases h u hu with ⟨h1, h2⟩ | ⟨q, h1, h2, h3, h4⟩
      · exact Or.inl ⟨h1, fun r' hp => by rcases hp with hp | ⟨hf, _⟩; exact h2 r' hp; cases hf⟩
      · exact Or.inr ⟨q, h1, h2, Or.inl h3, fun r' hp => by rcases hp with hp | ⟨hf, _⟩; exact h4 r' hp; cases hf⟩
    | true =>
      rcases h u hu with ⟨h1, h2⟩ | ⟨q, h1, h2, h3, h4⟩
      · rw [if_pos ⟨rfl, Or.inl h1⟩]
        refine Or.inr ⟨r, up_eq _ _ _, hr, Or.inr ⟨rfl, rfl, rfl⟩, fun r' hp => ?_⟩
        rcases hp with hp | ⟨_, _, hp⟩
        · exact absurd hp (h2 r')
        · omega
      · by_cases hl : r < q
        · rw [if_pos ⟨rfl, Or.inr (by omega)⟩]
          refine Or.inr ⟨r, up_eq _ _ _, hr, Or.inr ⟨rfl, rfl, rfl⟩, fun r' hp => ?_⟩
          rcases hp with hp | ⟨_, _, hp⟩
          · have := h4 r' hp; omega
          · omega
        · rw [if_neg (by intro hh; rcases hh.2 with hh | hh <;> omega)]
          refine Or.inr ⟨q, h1, h2, Or.inl h3, fun r' hp => ?_⟩
          rcases hp with hp | ⟨_, _, hp⟩
          · exact h4 r' hp
          · omega
  · have hg : (if b = true ∧ (G v = 0 ∨ (r : Int) < G v) then up G v r else G) u = G u := by split; exact up_ne _ _ _ _ e; rfl
    rw [hg]
    rcases h u hu with ⟨h1, h2⟩ | ⟨q, h1, h2, h3, h4⟩
    · exact Or.inl ⟨h1, fun r' hp => by rcases hp with hp | ⟨_, hf, _⟩; exact h2 r' hp; exact e hf⟩
    · exact Or.inr ⟨q, h1, h2, Or.inl h3, fun r' hp => by rcases hp with hp | ⟨_, hf, _⟩; exact h4 r' hp; exact absurd hf e⟩
theorem Rl.ext {P Q : Nat → Nat → Prop} {n : Nat} {G : Nat → Int} (h : Rl P n G) (e : ∀ v r, v < n → (P v r ↔ Q v r)) : Rl Q n G := fun v hv => by
  rcases h v hv with ⟨h1, h2⟩ | ⟨q, h1, h2, h3, h4⟩
  · exact Or.inl ⟨h1, fun r hp => h2 r ((e v r hv).2 hp)⟩
  · exact Or.inr ⟨q, h1, h2, (e v q hv).1 h3, fun r hp => h4 r ((e v r hv).2 hp)⟩
theorem Rl.zero (n : Nat) : Rl (fun _ _ => False) n (fun _ => 0) := fun v hv => Or.inl ⟨rfl, fun _ h => h⟩
/-- The first of them is the least of all. -/
theorem Rl.some {P : Nat → Nat → Prop} {n : Nat} {G : Nat → Int} (h : Rl P n G) (k : Nat) (hk : k < n) (h0 : G k ≠ 0) (hl : ∀ v, v < k → G v = 0) (hP : ∀ v r, P v r → v < n) : ∃ r : Nat, G k = r ∧ Lm P (some (k, r)) := by
  rcases h k hk with ⟨h1, _⟩ | ⟨q, h1, h2, h3, h4⟩
  · exact absurd h1 h0
  · refine ⟨q, h1, h3, fun v r hp => ?_⟩
    rcases Nat.lt_trichotomy v k with e | e | e
    · exfalso
      rcases h v (hP v r hp) with ⟨_, g2⟩ | ⟨q', g1, g2, _⟩
      · exact g2 r hp
      · have := hl v e; omega
    · subst e; exact Or.inr ⟨rfl, h4 r hp⟩
    · exact Or.inl e
theorem Rl.none {P : Nat → Nat → Prop} {n : Nat} {G : Nat → Int} (h : Rl P n G) (hl : ∀ v, v < n → G v = 0) (hP : ∀ v r, P v r → v < n) : Lm P none := fun v r hp => by
  rcases h v (hP v r hp) with ⟨_, g2⟩ | ⟨q', g1, g2, _⟩
  · exact g2 r hp
  · have := hl v (hP v r hp); omega
set_option maxHeartbeats 4000000 in
theorem fnote_any (b n v r : Nat) (β : Bool) (G : Nat → Int) (hv : v < n) (hn : n ≤ 5000) (w : World) (h : GI w b n G) :
    Calls Tryz.prog 99 #[.agg #[.slice (some ⟨b, 0, none⟩) n n], .int .i64 (v : Int), .int .i64 (r : Int), .bool β] w fun e w' => (∃ x, e = .returned x) ∧ GI w' b n (nx G v r β) ∧ Ch (fun k => k = b) w w' := by
  have hc := h.cell v hv
  have hf := h.fz v
  have hlt := h.lt
  have hvn : (v : Int) < (n : Int) := by omega
  have HA : Hid (∀ C : Array Value, GI (w.alloc (.cells C 142)) b n G ∧ Ch (fun k => k = b) w (w.alloc (.cells C 142))) := fun C => ⟨h.on (X := fun _ => False) (Ch.of (b1 _ _ _)) (fun h => h), Ch.of (b1 _ _ _)⟩
  have HH : Hid (∀ C : Array Value, GI ((w.setCell ⟨b, v, none⟩ (.int .i64 (r : Int))).alloc (.cells C 142)) b n (up G v r) ∧ Ch (fun k => k = b) w ((w.setCell ⟨b, v, none⟩ (.int .i64 (r : Int))).alloc (.cells C 142))) := fun C =>
    ⟨(h.set v r).on (X := fun _ => False) (Ch.of (b1 _ _ _)) (fun h => h), ((Ch.refl (fun k => k = b) w).set _ _ (Or.inl rfl)).alloc _⟩
  clear h
  unfold nx
  cases β with
  | false =>
    rw [if_neg (by simp)]
    go_enter Tryz.func99, Tryz.ntmps99
    go_wp2
    go_end0
    exact ⟨⟨_, rfl⟩, HA.out _⟩
  | true =>
    by_cases h1 : G v = 0
    · rw [if_pos ⟨rfl, Or.inl h1⟩]
      have hb : (G v == 0) = true := by simp [h1]
      clear h1
      go_enter Tryz.func99, Tryz.ntmps99
      go_wp2
      go_end0
      exact ⟨⟨_, rfl⟩, HH.out _⟩
    · have hb : (G v == 0) = false := by simp [h1]
      by_cases h2 : (r : Int) < G v
      · rw [if_pos ⟨rfl, Or.inr h2⟩]
        clear h1
        go_enter Tryz.func99, Tryz.ntmps99
        go_wp2
        go_end0
        exact ⟨⟨_, rfl⟩, HH.out _⟩
      · rw [if_neg (by intro hh; exact hh.2.elim h1 h2)]
        clear h1
        go_enter Tryz.func99, Tryz.ntmps99
        go_wp2
        go_end0
        exact ⟨⟨_, rfl⟩, HA.out _⟩
set_option maxHeartbeats 4000000 in
theorem verdict_any (b n : Nat) (G : Nat → Int) (P : Nat → Nat → Prop) (hn : n ≤ 5000) (hR : Rl P n G) (hP : ∀ v r, P v r → v < n) (w : World) (h : GI w b n G) :
    Calls Tryz.prog 100 #[.agg #[.slice (some ⟨b, 0, none⟩) n n]] w fun e w' => ∃ o, e = .returned (.agg #[.bool (vR o), .int .u32 (vV o), .int .i64 (vK o)]) ∧ Lm P o ∧ Below w.heap.size w w' := by
  have HG := hide h
  have hlt := h.lt
  have HRl := hide hR
  have HPl := hide hP
  clear h hR hP
  have HB : Hid (∀ C C' : Array Value, Below w.heap.size w ((w.alloc (.cells C 142)).alloc (.cells C' 35))) := fun C C' => bA (b1 _ _ _) (by simp) _
  go_enter Tryz.func100, Tryz.ntmps100
  go_wp2_with (fail)
  go_loopw [3] (fun t wr => ∃ k : Nat, k ≤ n ∧ t = .int .i64 k ∧ Hid (∀ v, v < k → G v = 0) ∧ wr = (w.alloc (.cells #[.slice (some ⟨b, 0, none⟩) n n] 142)).alloc (.cells z3 35)) (fun t _ => n - (intOf t).toNat)
  case atStart => exact ⟨0, Nat.zero_le _, rfl, fun v hv => by omega, rfl⟩
  case round =>
    obtain ⟨k, hk, rfl, HZ, rfl⟩ := hrel
    by_cases cc : k < n
    · have hcc : (k : Int) < (n : Int) := by omega
      have hc := HG.out.cell k cc
      by_cases h0 : G k = 0
      · have hb : (G k != 0) = false := by simp [h0]
        have HZ1 : Hid (∀ v, v < k + 1 → G v = 0) := fun v hv => by
          by_cases e : v = k
          · rw [e]; exact h0
          · exact HZ.out v (by omega)
        clear h0
        go_wp2
        exact ⟨⟨k + 1, cc, by go_num, HZ1, by first | trivial | rfl⟩, by simp [intOf]; omega⟩
      · have hb : (G k != 0) = true := by simp [h0]
        obtain ⟨r, hr, hL⟩ := HRl.out.some k cc h0 HZ.out HPl.out
        have HL := hide hL
        rw [hr] at hc hb
        have hku : IntKind.u32.wrap (k : Int) = k := uw _ (by omega) (by omega)
        clear h0 hr hL
        go_wp2
        all_goals (refine bodyPost_ret (v := .agg #[.bool false, .int .u32 (k : Int), .int .i64 (r : Int)]) ?_ rfl ?_)
        all_goals first | (simp [results, Tryz.f100, go_sem]; done) | exact ⟨some (k, r), rfl, HL.out, HB.out _ _⟩
    · have hcc : ¬ (k : Int) < (n : Int) := by omega
      have hkn : n = k := by omega
      subst hkn
      have HL := hide (HRl.out.none HZ.out HPl.out)
      go_wp2
      all_goals (refine bodyPost_ret (v := .agg #[.bool true, .int .u32 0, .int .i64 0]) ?_ rfl ?_)
      all_goals first | (simp [results, Tryz.f100, go_sem]; done) | exact ⟨none, rfl, HL.out, HB.out _ _⟩
end Au
end Go.Proofs.YtgoigcpdfecfhaaGreatDoor
