import Derived.Test.YteegfadhfimlcaaGreatDoorNzM
namespace Go.Proofs.YteegfadhfimlcaaGreatDoor
namespace Rn
open Go.RowKit
set_option linter.unusedVariables false
set_option maxRecDepth 8000
/-- A case, cell by cell. -/
abbrev cs (n bh rm q kd dm rd sd : Int) (N A C : Nat) (xa ya za : Option Addr) (xn xc yn yc zn zc : Nat) : Array Value := #[.int .u32 n, .slice xa xn xc, .slice ya yn yc, .int .i64 bh, .int .i64 rm, .int .u32 q, .slice za zn zc, .int .i64 kd, .int .u32 (N : Int), .int .u32 (A : Int), .int .u32 (C : Int), .int .u32 dm, .int .i64 rd, .int .u64 sd]
abbrev K14 (n bh rm q kd dm rd sd : Int) (N A C : Nat) (xa ya za : Option Addr) (xn xc yn yc zn zc : Nat) (b : Nat) (W : World) : Prop := W.cell? ⟨b, 0, none⟩ = some (.int .u32 n) ∧ W.cell? ⟨b, 1, none⟩ = some (.slice xa xn xc) ∧ W.cell? ⟨b, 2, none⟩ = some (.slice ya yn yc) ∧ W.cell? ⟨b, 3, none⟩ = some (.int .i64 bh) ∧ W.cell? ⟨b, 4, none⟩ = some (.int .i64 rm) ∧ W.cell? ⟨b, 5, none⟩ = some (.int .u32 q) ∧ W.cell? ⟨b, 6, none⟩ = some (.slice za zn zc) ∧ W.cell? ⟨b, 7, none⟩ = some (.int .i64 kd) ∧ W.cell? ⟨b, 8, none⟩ = some (.int .u32 (N : Int)) ∧ W.cell? ⟨b, 9, none⟩ = some (.int .u32 (A : Int)) ∧ W.cell? ⟨b, 10, none⟩ = some (.int .u32 (C : Int)) ∧ W.cell? ⟨b, 11, none⟩ = some (.int .u32 dm) ∧ W.cell? ⟨b, 12, none⟩ = some (.int .i64 rd) ∧ W.cell? ⟨b, 13, none⟩ = some (.int .u64 sd)
theorem K14.mk {n bh rm q kd dm rd sd : Int} {N A C : Nat} {xa ya za : Option Addr} {xn xc yn yc zn zc : Nat} {b : Nat} {W : World} (h : W.heap[b]? = some (.cells (cs n bh rm q kd dm rd sd N A C xa ya za xn xc yn yc zn zc) 30 (0, 0))) : K14 n bh rm q kd dm rd sd N A C xa ya za xn xc yn yc zn zc b W := by
  refine ⟨?_, ?_, ?_, ?_, ?_, ?_, ?_, ?_, ?_, ?_, ?_, ?_, ?_, ?_⟩ <;> exact (cell_of_row _ _ _ _ _ _ h).trans rfl
theorem rounds_any (n bh rm q kd dm rd sd : Int) (N A C : Nat) (xa ya za : Option Addr) (xn xc yn yc zn zc : Nat) (w : World) : Calls Tryz.prog 15 #[.agg (cs n bh rm q kd dm rd sd N A C xa ya za xn xc yn yc zn zc)] w fun e w' => ∃ r : Int, e = .returned (.int .i64 r) ∧ Below w.heap.size w w' := by
  go_enter Tryz.func15, Tryz.ntmps15
  go_wp2
  all_goals go_ret
  all_goals first | exact ⟨_, rfl, b1 _ _ _⟩ | exact ⟨⟨_, rfl⟩, b1 _ _ _⟩
theorem infoW : (Tryz.prog.info? 28).map (fun i => (i.zero, i.size, i.bytes)) = some (some (.int .u64 0), 1, 8) := by kernel_rfl
theorem make_word (w : World) (n : Nat) (hn : n ≤ 1000000) : (Instr.makeSlice 31 (.int .i64 (n : Int)) (.int .i64 (n : Int))).run Tryz.prog w = .ok (.slice (some ⟨w.heap.size, 0, none⟩) n n) (w.alloc (.cells (madeCells #[.int .u64 0] n) 28)) := by
  have h := infoW
  cases hh : Tryz.prog.info? 28 with
  | none => rw [hh] at h; cases h
  | some i =>
    rw [hh] at h
    simp at h
    have hr := run_make (P := Tryz.prog) w 31 28 i (.int .u64 0) Tryz.underlying31 hh h.1 .i64 .i64 n n (by omega) (by omega) (by rw [h.2.2]; omega) (by omega)
    rw [h.2.1] at hr
    simp only [Int.toNat_natCast, Nat.mul_one] at hr
    rw [hr]
    rfl
theorem infoS : (Tryz.prog.info? 56).map (fun i => (i.zero, i.size, i.bytes)) = some (some (.agg #[.int .u64 0, .int .u64 0, .int .u64 0, .int .u64 0, .int .u64 0, .int .u64 0, .int .u64 0, .int .u64 0]), 8, 64) := by kernel_rfl
theorem make_st (w : World) : ∃ c, (Instr.makeSlice 23 (.int .i64 3) (.int .i64 3)).run Tryz.prog w = .ok (.slice (some ⟨w.heap.size, 0, none⟩) 3 3) (w.alloc (.cells c 56)) := by
  have h := infoS
  cases hh : Tryz.prog.info? 56 with
  | none => rw [hh] at h; cases h
  | some i =>
    rw [hh] at h
    simp at h
    have hr := run_make (P := Tryz.prog) w 23 56 i _ Tryz.underlying23 hh h.1 .i64 .i64 3 3 (by omega) (by omega) (by rw [h.2.2]; omega) (by omega)
    rw [h.2.1] at hr
    exact ⟨_, hr⟩
theorem own_ptr {w : World} {B : Nat} {t : TypeId} {q n : Nat} {v : Value} {xs : List Value} (h : w.ownsRow B t q v n xs) (hn : 0 < n) : ∃ g c, v = .slice (some ⟨g, 0, none⟩) n c := by
  rcases h.2 with ⟨_, h0⟩ | ⟨g, cap, cur, h1, _⟩
  · omega
  · exact ⟨g, cap, h1⟩
theorem ne_z3 (W : World) : Sem.run Tryz.prog (binOp BinOp.neq 36 (Value.agg z3) (Value.agg z3)) W = .ok (.bool false) W := rfl
theorem ln0 {C : Array Value} {w w1 : World} {o1 o2 : Obj} (h : Below (((w.alloc (.cells C 30)).alloc o1).alloc o2).heap.size (((w.alloc (.cells C 30)).alloc o1).alloc o2) w1) : Ln C w w1.heap.size 0 0 (.slice none 0 0) (.slice none 0 0) (w1.alloc (.cells z3 36)) := by
  have hs := h.size
  simp only [World.size_alloc] at hs
  refine ⟨keep _ ((h.block _ (by simp only [World.size_alloc]; omega)).trans (keep _ (keep _ (at0 w _)))), at0 w1 _, World.ownsRow_nil _ _ _ _, World.ownsRow_nil _ _ _ _, (fun j h => by cases h), by omega, bA ((bA (bA (b1 w _ _) (by simp) _) (by simp only [World.size_alloc]; omega) _).trans (h.mono (by simp only [World.size_alloc]; omega))) (by omega) _⟩
set_option maxHeartbeats 16000000 in
theorem law3 (n bh rm q kd dm rd sd : Int) (N A C : Nat) (xa ya za : Option Addr) (xn xc yn yc zn zc : Nat) (hN : N < 4294967296) (hA : A < 4294967296) (hd0 : 0 ≤ dm) (hd1 : dm < 4294967296) (w : World) : Calls Tryz.prog 3 #[.agg (cs n bh rm q kd dm rd sd N A C xa ya za xn xc yn yc zn zc)] w fun e w' => e = .returned (.bool true) ∧ Below w.heap.size w w' := by
  have hmk : ∀ W, (Instr.makeSlice 31 (.int .i64 10) (.int .i64 10)).run Tryz.prog W = .ok (.slice (some ⟨W.heap.size, 0, none⟩) 10 10) (W.alloc (.cells (madeCells #[.int .u64 0] 10) 28)) := fun W => make_word W 10 (by omega)
  obtain ⟨cst, hst⟩ : ∃ cst : World → Array Value, ∀ W, (Instr.makeSlice 23 (.int .i64 3) (.int .i64 3)).run Tryz.prog W = .ok (.slice (some ⟨W.heap.size, 0, none⟩) 3 3) (W.alloc (.cells (cst W) 56)) := ⟨fun W => Classical.choose (make_st W), fun W => Classical.choose_spec (make_st W)⟩
  have HD0 := hide hd0
  have HD1 := hide hd1
  have HR := hide (rounds_any n bh rm q kd dm rd sd N A C xa ya za xn xc yn yc zn zc)
  clear hd0 hd1
  go_enter Tryz.func3, Tryz.ntmps3
  go_wp2_with (fail)
  refine (nil4 _ _ _ _ _ _ _ _ _).mono ?_
  rintro e1 w1 ⟨rfl, hB1⟩
  have HLs1 := hide (ln0 hB1)
  have kz1 : (w1.alloc (.cells z3 36)).cell? ⟨w1.heap.size, 0, none⟩ = some (.bool false) ∧ (w1.alloc (.cells z3 36)).cell? ⟨w1.heap.size, 1, none⟩ = some (.int .u32 0) ∧ (w1.alloc (.cells z3 36)).cell? ⟨w1.heap.size, 2, none⟩ = some (.int .i64 0) := by
    refine ⟨?_, ?_, ?_⟩ <;> exact (cell_of_row _ _ _ _ _ _ HLs1.out.z).trans rfl
  clear hB1 hmk hst
  generalize hv0 : Value.slice none 0 0 = v0 at HLs1 ⊢
  clear hv0
  have HL1 : Hid (∀ o, ((w1.alloc (.cells z3 36)).alloc o).ownsRow (w1.heap.size + 1) 36 3 v0 0 (zl 0)) := fun o => HLs1.out.l.alloc o
  have HZ1 : Hid (∀ j u, z3.toList[j]? = some u → ((w1.alloc (.cells z3 36)).alloc (.cells z3 36)).cell? ((⟨w1.heap.size + 1, 0, none⟩ : Addr).add j) = some u) := cellsV (by first | rfl | simp only [World.size_setCell] | simp only [World.size_alloc])
  have HB1 : Hid (w1.heap.size + 1 ≤ ((w1.alloc (.cells z3 36)).alloc (.cells z3 36)).heap.size) := (by have h9 := HLs1.out.vs; rw [World.size_alloc]; exact Nat.le_succ_of_le h9)
  go_wp2_with (first | (refine wpList_appendV rfl _ _ rfl (w1.heap.size + 1) v0 0 (zl 0) ⟨w1.heap.size + 1, 0, none⟩ 1 rfl (by with_reducible exact HL1.out _) rfl (by with_reducible exact HZ1.out) (by omega) (by with_reducible exact HB1.out) ?_; intro v1 y1 o1 g1 p1; have HLa1 : Hid (Ln (cs n bh rm q kd dm rd sd N A C xa ya za xn xc yn yc zn zc) w w1.heap.size 1 0 v1 v0 y1) := (by exact HLs1.out.appL o1 g1 p1); have HM1 : Hid (∀ o, (y1.alloc o).ownsRow (w1.heap.size + 1) 37 1 v0 0 (ol 0)) := fun o => HLa1.out.e.alloc o; have HY1 : Hid (∀ x, (y1.alloc (.cells #[x] 37)).cell? ⟨y1.heap.size, 0, none⟩ = some x) := fun x => cellsE rfl x; have HC1 : Hid (∀ o, w1.heap.size + 1 ≤ (y1.alloc o).heap.size) := fun o => (by have h9 := HLa1.out.vs; rw [World.size_alloc]; exact Nat.le_succ_of_le h9); clear o1 g1 p1 HL1 HZ1 HB1) | (refine wpList_appendE rfl _ _ rfl (w1.heap.size + 1) v0 0 (ol 0) ⟨y1.heap.size, 0, none⟩ 1 rfl (by with_reducible exact HM1.out _) rfl (by with_reducible exact HY1.out _) (by omega) (by with_reducible exact HC1.out _) ?_; intro u1 x1 o1 g1 p1; have HLn1 : Hid (Ln (cs n bh rm q kd dm rd sd N A C xa ya za xn xc yn yc zn zc) w w1.heap.size 1 1 v1 u1 x1) := HLa1.out.appE o1 g1 p1; clear o1 g1 p1 HLa1 HLs1 HM1 HY1 HC1; have kc1 : K14 n bh rm q kd dm rd sd N A C xa ya za xn xc yn yc zn zc w.heap.size x1 := K14.mk HLn1.out.c) | fail)
  generalize w1.heap.size = vb at *
  refine (nil5 _ _ _ _ _ _ _ _ _ _ _ (cell1 x1 22 (.int .u32 q)) (by simp)).mono ?_
  rintro e2 w2 ⟨rfl, hB2⟩
  have HLc2 := hide ((HLn1.out.call (b1 x1 22 _)).call hB2)
  have HLs2 := hide HLc2.out.set
  have f0 : w2.frozen? ⟨vb, 0, none⟩ = false := frozen_of_row _ _ _ _ _ HLc2.out.z
  have f1 : w2.frozen? ⟨vb, 1, none⟩ = false := frozen_of_row _ _ _ _ _ HLc2.out.z
  have f2 : w2.frozen? ⟨vb, 2, none⟩ = false := frozen_of_row _ _ _ _ _ HLc2.out.z
  have g0 : w2.cell? ⟨vb, 0, none⟩ = some (.bool false) := (cell_of_row _ _ _ _ _ _ HLc2.out.z).trans rfl
  have g1 : w2.cell? ⟨vb, 1, none⟩ = some (.int .u32 0) := (cell_of_row _ _ _ _ _ _ HLc2.out.z).trans rfl
  have g2 : w2.cell? ⟨vb, 2, none⟩ = some (.int .i64 0) := (cell_of_row _ _ _ _ _ _ HLc2.out.z).trans rfl
  have kz : (((w2.setCell ⟨vb, 0, none⟩ (.bool false)).setCell ⟨vb, 1, none⟩ (.int .u32 0)).setCell ⟨vb, 2, none⟩ (.int .i64 0)).cell? ⟨vb, 0, none⟩ = some (.bool false) ∧ (((w2.setCell ⟨vb, 0, none⟩ (.bool false)).setCell ⟨vb, 1, none⟩ (.int .u32 0)).setCell ⟨vb, 2, none⟩ (.int .i64 0)).cell? ⟨vb, 1, none⟩ = some (.int .u32 0) ∧ (((w2.setCell ⟨vb, 0, none⟩ (.bool false)).setCell ⟨vb, 1, none⟩ (.int .u32 0)).setCell ⟨vb, 2, none⟩ (.int .i64 0)).cell? ⟨vb, 2, none⟩ = some (.int .i64 0) := by
    refine ⟨?_, ?_, ?_⟩ <;> exact (cell_of_row _ _ _ _ _ _ HLs2.out.z).trans rfl
  clear hB2 HLn1 kc1
  have HL2 : Hid (∀ o, (((((w2.setCell ⟨vb, 0, none⟩ (.bool false)).setCell ⟨vb, 1, none⟩ (.int .u32 0)).setCell ⟨vb, 2, none⟩ (.int .i64 0))).alloc o).ownsRow (vb + 1) 36 3 v1 1 (zl 1)) := fun o => HLs2.out.l.alloc o
  have HZ2 : Hid (∀ j u, z3.toList[j]? = some u → (((((w2.setCell ⟨vb, 0, none⟩ (.bool false)).setCell ⟨vb, 1, none⟩ (.int .u32 0)).setCell ⟨vb, 2, none⟩ (.int .i64 0))).alloc (.cells z3 36)).cell? ((⟨w2.heap.size, 0, none⟩ : Addr).add j) = some u) := cellsV (by first | rfl | simp only [World.size_setCell] | simp only [World.size_alloc])
  have HB2 : Hid (vb + 1 ≤ (((((w2.setCell ⟨vb, 0, none⟩ (.bool false)).setCell ⟨vb, 1, none⟩ (.int .u32 0)).setCell ⟨vb, 2, none⟩ (.int .i64 0))).alloc (.cells z3 36)).heap.size) := (by have h9 := HLs2.out.vs; rw [World.size_alloc]; exact Nat.le_succ_of_le h9)
  go_wp2_with (first | (refine wpList_appendV rfl _ _ rfl (vb + 1) v1 1 (zl 1) ⟨w2.heap.size, 0, none⟩ 1 rfl (by with_reducible exact HL2.out _) rfl (by with_reducible exact HZ2.out) (by omega) (by with_reducible exact HB2.out) ?_; intro v2 y2 o1 g1 p1; have HLa2 : Hid (Ln (cs n bh rm q kd dm rd sd N A C xa ya za xn xc yn yc zn zc) w vb 2 1 v2 u1 y2) := (by exact HLs2.out.appL o1 g1 p1); have HM2 : Hid (∀ o, (y2.alloc o).ownsRow (vb + 1) 37 1 u1 1 (ol 1)) := fun o => HLa2.out.e.alloc o; have HY2 : Hid (∀ x, (y2.alloc (.cells #[x] 37)).cell? ⟨y2.heap.size, 0, none⟩ = some x) := fun x => cellsE rfl x; have HC2 : Hid (∀ o, vb + 1 ≤ (y2.alloc o).heap.size) := fun o => (by have h9 := HLa2.out.vs; rw [World.size_alloc]; exact Nat.le_succ_of_le h9); clear o1 g1 p1 HL2 HZ2 HB2) | (refine wpList_appendE rfl _ _ rfl (vb + 1) u1 1 (ol 1) ⟨y2.heap.size, 0, none⟩ 1 rfl (by with_reducible exact HM2.out _) rfl (by with_reducible exact HY2.out _) (by omega) (by with_reducible exact HC2.out _) ?_; intro u2 x2 o1 g1 p1; have HLn2 : Hid (Ln (cs n bh rm q kd dm rd sd N A C xa ya za xn xc yn yc zn zc) w vb 2 2 v2 u2 x2) := HLa2.out.appE o1 g1 p1; clear o1 g1 p1 HLa2 HLs2 HM2 HY2 HC2; have kc2 : K14 n bh rm q kd dm rd sd N A C xa ya za xn xc yn yc zn zc w.heap.size x2 := K14.mk HLn2.out.c) | fail)
  clear kz f0 f1 f2 g0 g1 g2 HLc2
  refine (nil6 _ _ _ _ _ _ _ _).mono ?_
  rintro e3 w3 ⟨rfl, hB3⟩
  have HLc3 := hide (HLn2.out.call hB3)
  have HLs3 := hide HLc3.out.set
  have f0 : w3.frozen? ⟨vb, 0, none⟩ = false := frozen_of_row _ _ _ _ _ HLc3.out.z
  have f1 : w3.frozen? ⟨vb, 1, none⟩ = false := frozen_of_row _ _ _ _ _ HLc3.out.z
  have f2 : w3.frozen? ⟨vb, 2, none⟩ = false := frozen_of_row _ _ _ _ _ HLc3.out.z
  have g0 : w3.cell? ⟨vb, 0, none⟩ = some (.bool false) := (cell_of_row _ _ _ _ _ _ HLc3.out.z).trans rfl
  have g1 : w3.cell? ⟨vb, 1, none⟩ = some (.int .u32 0) := (cell_of_row _ _ _ _ _ _ HLc3.out.z).trans rfl
  have g2 : w3.cell? ⟨vb, 2, none⟩ = some (.int .i64 0) := (cell_of_row _ _ _ _ _ _ HLc3.out.z).trans rfl
  have kz : (((w3.setCell ⟨vb, 0, none⟩ (.bool false)).setCell ⟨vb, 1, none⟩ (.int .u32 0)).setCell ⟨vb, 2, none⟩ (.int .i64 0)).cell? ⟨vb, 0, none⟩ = some (.bool false) ∧ (((w3.setCell ⟨vb, 0, none⟩ (.bool false)).setCell ⟨vb, 1, none⟩ (.int .u32 0)).setCell ⟨vb, 2, none⟩ (.int .i64 0)).cell? ⟨vb, 1, none⟩ = some (.int .u32 0) ∧ (((w3.setCell ⟨vb, 0, none⟩ (.bool false)).setCell ⟨vb, 1, none⟩ (.int .u32 0)).setCell ⟨vb, 2, none⟩ (.int .i64 0)).cell? ⟨vb, 2, none⟩ = some (.int .i64 0) := by
    refine ⟨?_, ?_, ?_⟩ <;> exact (cell_of_row _ _ _ _ _ _ HLs3.out.z).trans rfl
  clear hB3 HLn2 kc2
  have HL3 : Hid (∀ o, (((((w3.setCell ⟨vb, 0, none⟩ (.bool false)).setCell ⟨vb, 1, none⟩ (.int .u32 0)).setCell ⟨vb, 2, none⟩ (.int .i64 0))).alloc o).ownsRow (vb + 1) 36 3 v2 2 (zl 2)) := fun o => HLs3.out.l.alloc o
  have HZ3 : Hid (∀ j u, z3.toList[j]? = some u → (((((w3.setCell ⟨vb, 0, none⟩ (.bool false)).setCell ⟨vb, 1, none⟩ (.int .u32 0)).setCell ⟨vb, 2, none⟩ (.int .i64 0))).alloc (.cells z3 36)).cell? ((⟨w3.heap.size, 0, none⟩ : Addr).add j) = some u) := cellsV (by first | rfl | simp only [World.size_setCell] | simp only [World.size_alloc])
  have HB3 : Hid (vb + 1 ≤ (((((w3.setCell ⟨vb, 0, none⟩ (.bool false)).setCell ⟨vb, 1, none⟩ (.int .u32 0)).setCell ⟨vb, 2, none⟩ (.int .i64 0))).alloc (.cells z3 36)).heap.size) := (by have h9 := HLs3.out.vs; rw [World.size_alloc]; exact Nat.le_succ_of_le h9)
  go_wp2_with (first | (refine wpList_appendV rfl _ _ rfl (vb + 1) v2 2 (zl 2) ⟨w3.heap.size, 0, none⟩ 1 rfl (by with_reducible exact HL3.out _) rfl (by with_reducible exact HZ3.out) (by omega) (by with_reducible exact HB3.out) ?_; intro v3 y3 o1 g1 p1; have HLa3 : Hid (Ln (cs n bh rm q kd dm rd sd N A C xa ya za xn xc yn yc zn zc) w vb 3 2 v3 u2 y3) := (by exact HLs3.out.appL o1 g1 p1); have HM3 : Hid (∀ o, (y3.alloc o).ownsRow (vb + 1) 37 1 u2 2 (ol 2)) := fun o => HLa3.out.e.alloc o; have HY3 : Hid (∀ x, (y3.alloc (.cells #[x] 37)).cell? ⟨y3.heap.size, 0, none⟩ = some x) := fun x => cellsE rfl x; have HC3 : Hid (∀ o, vb + 1 ≤ (y3.alloc o).heap.size) := fun o => (by have h9 := HLa3.out.vs; rw [World.size_alloc]; exact Nat.le_succ_of_le h9); clear o1 g1 p1 HL3 HZ3 HB3) | (refine wpList_appendE rfl _ _ rfl (vb + 1) u2 2 (ol 2) ⟨y3.heap.size, 0, none⟩ 1 rfl (by with_reducible exact HM3.out _) rfl (by with_reducible exact HY3.out _) (by omega) (by with_reducible exact HC3.out _) ?_; intro u3 x3 o1 g1 p1; have HLn3 : Hid (Ln (cs n bh rm q kd dm rd sd N A C xa ya za xn xc yn yc zn zc) w vb 3 3 v3 u3 x3) := HLa3.out.appE o1 g1 p1; clear o1 g1 p1 HLa3 HLs3 HM3 HY3 HC3; have kc3 : K14 n bh rm q kd dm rd sd N A C xa ya za xn xc yn yc zn zc w.heap.size x3 := K14.mk HLn3.out.c) | fail)
  clear kz f0 f1 f2 g0 g1 g2 HLc3
  refine (nil7 _ _ _ _ _ _ _ _ _ _).mono ?_
  rintro e4 w4 ⟨rfl, hB4⟩
  have HLc4 := hide (HLn3.out.call hB4)
  have HLs4 := hide HLc4.out.set
  have f0 : w4.frozen? ⟨vb, 0, none⟩ = false := frozen_of_row _ _ _ _ _ HLc4.out.z
  have f1 : w4.frozen? ⟨vb, 1, none⟩ = false := frozen_of_row _ _ _ _ _ HLc4.out.z
  have f2 : w4.frozen? ⟨vb, 2, none⟩ = false := frozen_of_row _ _ _ _ _ HLc4.out.z
  have g0 : w4.cell? ⟨vb, 0, none⟩ = some (.bool false) := (cell_of_row _ _ _ _ _ _ HLc4.out.z).trans rfl
  have g1 : w4.cell? ⟨vb, 1, none⟩ = some (.int .u32 0) := (cell_of_row _ _ _ _ _ _ HLc4.out.z).trans rfl
  have g2 : w4.cell? ⟨vb, 2, none⟩ = some (.int .i64 0) := (cell_of_row _ _ _ _ _ _ HLc4.out.z).trans rfl
  have kz : (((w4.setCell ⟨vb, 0, none⟩ (.bool false)).setCell ⟨vb, 1, none⟩ (.int .u32 0)).setCell ⟨vb, 2, none⟩ (.int .i64 0)).cell? ⟨vb, 0, none⟩ = some (.bool false) ∧ (((w4.setCell ⟨vb, 0, none⟩ (.bool false)).setCell ⟨vb, 1, none⟩ (.int .u32 0)).setCell ⟨vb, 2, none⟩ (.int .i64 0)).cell? ⟨vb, 1, none⟩ = some (.int .u32 0) ∧ (((w4.setCell ⟨vb, 0, none⟩ (.bool false)).setCell ⟨vb, 1, none⟩ (.int .u32 0)).setCell ⟨vb, 2, none⟩ (.int .i64 0)).cell? ⟨vb, 2, none⟩ = some (.int .i64 0) := by
    refine ⟨?_, ?_, ?_⟩ <;> exact (cell_of_row _ _ _ _ _ _ HLs4.out.z).trans rfl
  clear hB4 HLn3 kc3
  have HL4 : Hid (∀ o, (((((w4.setCell ⟨vb, 0, none⟩ (.bool false)).setCell ⟨vb, 1, none⟩ (.int .u32 0)).setCell ⟨vb, 2, none⟩ (.int .i64 0))).alloc o).ownsRow (vb + 1) 36 3 v3 3 (zl 3)) := fun o => HLs4.out.l.alloc o
  have HZ4 : Hid (∀ j u, z3.toList[j]? = some u → (((((w4.setCell ⟨vb, 0, none⟩ (.bool false)).setCell ⟨vb, 1, none⟩ (.int .u32 0)).setCell ⟨vb, 2, none⟩ (.int .i64 0))).alloc (.cells z3 36)).cell? ((⟨w4.heap.size, 0, none⟩ : Addr).add j) = some u) := cellsV (by first | rfl | simp only [World.size_setCell] | simp only [World.size_alloc])
  have HB4 : Hid (vb + 1 ≤ (((((w4.setCell ⟨vb, 0, none⟩ (.bool false)).setCell ⟨vb, 1, none⟩ (.int .u32 0)).setCell ⟨vb, 2, none⟩ (.int .i64 0))).alloc (.cells z3 36)).heap.size) := (by have h9 := HLs4.out.vs; rw [World.size_alloc]; exact Nat.le_succ_of_le h9)
  go_wp2_with (first | (refine wpList_appendV rfl _ _ rfl (vb + 1) v3 3 (zl 3) ⟨w4.heap.size, 0, none⟩ 1 rfl (by with_reducible exact HL4.out _) rfl (by with_reducible exact HZ4.out) (by omega) (by with_reducible exact HB4.out) ?_; intro v4 y4 o1 g1 p1; have HLa4 : Hid (Ln (cs n bh rm q kd dm rd sd N A C xa ya za xn xc yn yc zn zc) w vb 4 3 v4 u3 y4) := (by exact HLs4.out.appL o1 g1 p1); have HM4 : Hid (∀ o, (y4.alloc o).ownsRow (vb + 1) 37 1 u3 3 (ol 3)) := fun o => HLa4.out.e.alloc o; have HY4 : Hid (∀ x, (y4.alloc (.cells #[x] 37)).cell? ⟨y4.heap.size, 0, none⟩ = some x) := fun x => cellsE rfl x; have HC4 : Hid (∀ o, vb + 1 ≤ (y4.alloc o).heap.size) := fun o => (by have h9 := HLa4.out.vs; rw [World.size_alloc]; exact Nat.le_succ_of_le h9); clear o1 g1 p1 HL4 HZ4 HB4) | (refine wpList_appendE rfl _ _ rfl (vb + 1) u3 3 (ol 3) ⟨y4.heap.size, 0, none⟩ 1 rfl (by with_reducible exact HM4.out _) rfl (by with_reducible exact HY4.out _) (by omega) (by with_reducible exact HC4.out _) ?_; intro u4 x4 o1 g1 p1; have HLn4 : Hid (Ln (cs n bh rm q kd dm rd sd N A C xa ya za xn xc yn yc zn zc) w vb 4 4 v4 u4 x4) := HLa4.out.appE o1 g1 p1; clear o1 g1 p1 HLa4 HLs4 HM4 HY4 HC4; have kc4 : K14 n bh rm q kd dm rd sd N A C xa ya za xn xc yn yc zn zc w.heap.size x4 := K14.mk HLn4.out.c) | fail)
  clear kz f0 f1 f2 g0 g1 g2 HLc4
  refine (nil8 N A C hN hA _ _ _ _ _ _ _).mono ?_
  rintro e5 w5 ⟨rfl, hB5⟩
  have HLc5 := hide (HLn4.out.call hB5)
  have HLs5 := hide HLc5.out.set
  have f0 : w5.frozen? ⟨vb, 0, none⟩ = false := frozen_of_row _ _ _ _ _ HLc5.out.z
  have f1 : w5.frozen? ⟨vb, 1, none⟩ = false := frozen_of_row _ _ _ _ _ HLc5.out.z
  have f2 : w5.frozen? ⟨vb, 2, none⟩ = false := frozen_of_row _ _ _ _ _ HLc5.out.z
  have g0 : w5.cell? ⟨vb, 0, none⟩ = some (.bool false) := (cell_of_row _ _ _ _ _ _ HLc5.out.z).trans rfl
  have g1 : w5.cell? ⟨vb, 1, none⟩ = some (.int .u32 0) := (cell_of_row _ _ _ _ _ _ HLc5.out.z).trans rfl
  have g2 : w5.cell? ⟨vb, 2, none⟩ = some (.int .i64 0) := (cell_of_row _ _ _ _ _ _ HLc5.out.z).trans rfl
  have kz : (((w5.setCell ⟨vb, 0, none⟩ (.bool false)).setCell ⟨vb, 1, none⟩ (.int .u32 0)).setCell ⟨vb, 2, none⟩ (.int .i64 0)).cell? ⟨vb, 0, none⟩ = some (.bool false) ∧ (((w5.setCell ⟨vb, 0, none⟩ (.bool false)).setCell ⟨vb, 1, none⟩ (.int .u32 0)).setCell ⟨vb, 2, none⟩ (.int .i64 0)).cell? ⟨vb, 1, none⟩ = some (.int .u32 0) ∧ (((w5.setCell ⟨vb, 0, none⟩ (.bool false)).setCell ⟨vb, 1, none⟩ (.int .u32 0)).setCell ⟨vb, 2, none⟩ (.int .i64 0)).cell? ⟨vb, 2, none⟩ = some (.int .i64 0) := by
    refine ⟨?_, ?_, ?_⟩ <;> exact (cell_of_row _ _ _ _ _ _ HLs5.out.z).trans rfl
  clear hB5 HLn4 kc4
  have HL5 : Hid (∀ o, (((((w5.setCell ⟨vb, 0, none⟩ (.bool false)).setCell ⟨vb, 1, none⟩ (.int .u32 0)).setCell ⟨vb, 2, none⟩ (.int .i64 0))).alloc o).ownsRow (vb + 1) 36 3 v4 4 (zl 4)) := fun o => HLs5.out.l.alloc o
  have HZ5 : Hid (∀ j u, z3.toList[j]? = some u → (((((w5.setCell ⟨vb, 0, none⟩ (.bool false)).setCell ⟨vb, 1, none⟩ (.int .u32 0)).setCell ⟨vb, 2, none⟩ (.int .i64 0))).alloc (.cells z3 36)).cell? ((⟨w5.heap.size, 0, none⟩ : Addr).add j) = some u) := cellsV (by first | rfl | simp only [World.size_setCell] | simp only [World.size_alloc])
  have HB5 : Hid (vb + 1 ≤ (((((w5.setCell ⟨vb, 0, none⟩ (.bool false)).setCell ⟨vb, 1, none⟩ (.int .u32 0)).setCell ⟨vb, 2, none⟩ (.int .i64 0))).alloc (.cells z3 36)).heap.size) := (by have h9 := HLs5.out.vs; rw [World.size_alloc]; exact Nat.le_succ_of_le h9)
  go_wp2_with (first | (refine wpList_appendV rfl _ _ rfl (vb + 1) v4 4 (zl 4) ⟨w5.heap.size, 0, none⟩ 1 rfl (by with_reducible exact HL5.out _) rfl (by with_reducible exact HZ5.out) (by omega) (by with_reducible exact HB5.out) ?_; intro v5 y5 o1 g1 p1; have HLa5 : Hid (Ln (cs n bh rm q kd dm rd sd N A C xa ya za xn xc yn yc zn zc) w vb 5 4 v5 u4 y5) := (by exact HLs5.out.appL o1 g1 p1); have HM5 : Hid (∀ o, (y5.alloc o).ownsRow (vb + 1) 37 1 u4 4 (ol 4)) := fun o => HLa5.out.e.alloc o; have HY5 : Hid (∀ x, (y5.alloc (.cells #[x] 37)).cell? ⟨y5.heap.size, 0, none⟩ = some x) := fun x => cellsE rfl x; have HC5 : Hid (∀ o, vb + 1 ≤ (y5.alloc o).heap.size) := fun o => (by have h9 := HLa5.out.vs; rw [World.size_alloc]; exact Nat.le_succ_of_le h9); clear o1 g1 p1 HL5 HZ5 HB5) | (refine wpList_appendE rfl _ _ rfl (vb + 1) u4 4 (ol 4) ⟨y5.heap.size, 0, none⟩ 1 rfl (by with_reducible exact HM5.out _) rfl (by with_reducible exact HY5.out _) (by omega) (by with_reducible exact HC5.out _) ?_; intro u5 x5 o1 g1 p1; have HLn5 : Hid (Ln (cs n bh rm q kd dm rd sd N A C xa ya za xn xc yn yc zn zc) w vb 5 5 v5 u5 x5) := HLa5.out.appE o1 g1 p1; clear o1 g1 p1 HLa5 HLs5 HM5 HY5 HC5; have kc5 : K14 n bh rm q kd dm rd sd N A C xa ya za xn xc yn yc zn zc w.heap.size x5 := K14.mk HLn5.out.c) | fail)
  clear kz f0 f1 f2 g0 g1 g2 HLc5
  refine (nil9 N A C hN hA _ _ _ _ _ _ _).mono ?_
  rintro e6 w6 ⟨rfl, hB6⟩
  have HLc6 := hide (HLn5.out.call hB6)
  have HLs6 := hide HLc6.out.set
  have f0 : w6.frozen? ⟨vb, 0, none⟩ = false := frozen_of_row _ _ _ _ _ HLc6.out.z
  have f1 : w6.frozen? ⟨vb, 1, none⟩ = false := frozen_of_row _ _ _ _ _ HLc6.out.z
  have f2 : w6.frozen? ⟨vb, 2, none⟩ = false := frozen_of_row _ _ _ _ _ HLc6.out.z
  have g0 : w6.cell? ⟨vb, 0, none⟩ = some (.bool false) := (cell_of_row _ _ _ _ _ _ HLc6.out.z).trans rfl
  have g1 : w6.cell? ⟨vb, 1, none⟩ = some (.int .u32 0) := (cell_of_row _ _ _ _ _ _ HLc6.out.z).trans rfl
  have g2 : w6.cell? ⟨vb, 2, none⟩ = some (.int .i64 0) := (cell_of_row _ _ _ _ _ _ HLc6.out.z).trans rfl
  have kz : (((w6.setCell ⟨vb, 0, none⟩ (.bool false)).setCell ⟨vb, 1, none⟩ (.int .u32 0)).setCell ⟨vb, 2, none⟩ (.int .i64 0)).cell? ⟨vb, 0, none⟩ = some (.bool false) ∧ (((w6.setCell ⟨vb, 0, none⟩ (.bool false)).setCell ⟨vb, 1, none⟩ (.int .u32 0)).setCell ⟨vb, 2, none⟩ (.int .i64 0)).cell? ⟨vb, 1, none⟩ = some (.int .u32 0) ∧ (((w6.setCell ⟨vb, 0, none⟩ (.bool false)).setCell ⟨vb, 1, none⟩ (.int .u32 0)).setCell ⟨vb, 2, none⟩ (.int .i64 0)).cell? ⟨vb, 2, none⟩ = some (.int .i64 0) := by
    refine ⟨?_, ?_, ?_⟩ <;> exact (cell_of_row _ _ _ _ _ _ HLs6.out.z).trans rfl
  clear hB6 HLn5 kc5
  have HL6 : Hid (∀ o, (((((w6.setCell ⟨vb, 0, none⟩ (.bool false)).setCell ⟨vb, 1, none⟩ (.int .u32 0)).setCell ⟨vb, 2, none⟩ (.int .i64 0))).alloc o).ownsRow (vb + 1) 36 3 v5 5 (zl 5)) := fun o => HLs6.out.l.alloc o
  have HZ6 : Hid (∀ j u, z3.toList[j]? = some u → (((((w6.setCell ⟨vb, 0, none⟩ (.bool false)).setCell ⟨vb, 1, none⟩ (.int .u32 0)).setCell ⟨vb, 2, none⟩ (.int .i64 0))).alloc (.cells z3 36)).cell? ((⟨w6.heap.size, 0, none⟩ : Addr).add j) = some u) := cellsV (by first | rfl | simp only [World.size_setCell] | simp only [World.size_alloc])
  have HB6 : Hid (vb + 1 ≤ (((((w6.setCell ⟨vb, 0, none⟩ (.bool false)).setCell ⟨vb, 1, none⟩ (.int .u32 0)).setCell ⟨vb, 2, none⟩ (.int .i64 0))).alloc (.cells z3 36)).heap.size) := (by have h9 := HLs6.out.vs; rw [World.size_alloc]; exact Nat.le_succ_of_le h9)
  go_wp2_with (first | (refine wpList_appendV rfl _ _ rfl (vb + 1) v5 5 (zl 5) ⟨w6.heap.size, 0, none⟩ 1 rfl (by with_reducible exact HL6.out _) rfl (by with_reducible exact HZ6.out) (by omega) (by with_reducible exact HB6.out) ?_; intro v6 y6 o1 g1 p1; have HLa6 : Hid (Ln (cs n bh rm q kd dm rd sd N A C xa ya za xn xc yn yc zn zc) w vb 6 5 v6 u5 y6) := (by exact HLs6.out.appL o1 g1 p1); have HM6 : Hid (∀ o, (y6.alloc o).ownsRow (vb + 1) 37 1 u5 5 (ol 5)) := fun o => HLa6.out.e.alloc o; have HY6 : Hid (∀ x, (y6.alloc (.cells #[x] 37)).cell? ⟨y6.heap.size, 0, none⟩ = some x) := fun x => cellsE rfl x; have HC6 : Hid (∀ o, vb + 1 ≤ (y6.alloc o).heap.size) := fun o => (by have h9 := HLa6.out.vs; rw [World.size_alloc]; exact Nat.le_succ_of_le h9); clear o1 g1 p1 HL6 HZ6 HB6) | (refine wpList_appendE rfl _ _ rfl (vb + 1) u5 5 (ol 5) ⟨y6.heap.size, 0, none⟩ 1 rfl (by with_reducible exact HM6.out _) rfl (by with_reducible exact HY6.out _) (by omega) (by with_reducible exact HC6.out _) ?_; intro u6 x6 o1 g1 p1; have HLn6 : Hid (Ln (cs n bh rm q kd dm rd sd N A C xa ya za xn xc yn yc zn zc) w vb 6 6 v6 u6 x6) := HLa6.out.appE o1 g1 p1; clear o1 g1 p1 HLa6 HLs6 HM6 HY6 HC6; have kc6 : K14 n bh rm q kd dm rd sd N A C xa ya za xn xc yn yc zn zc w.heap.size x6 := K14.mk HLn6.out.c) | fail)
  clear kz f0 f1 f2 g0 g1 g2 HLc6
  refine (nil10 _ _ _ _ _ _ _ _).mono ?_
  rintro e7 w7 ⟨rfl, hB7⟩
  have HLc7 := hide (HLn6.out.call hB7)
  have HLs7 := hide HLc7.out.set
  have f0 : w7.frozen? ⟨vb, 0, none⟩ = false := frozen_of_row _ _ _ _ _ HLc7.out.z
  have f1 : w7.frozen? ⟨vb, 1, none⟩ = false := frozen_of_row _ _ _ _ _ HLc7.out.z
  have f2 : w7.frozen? ⟨vb, 2, none⟩ = false := frozen_of_row _ _ _ _ _ HLc7.out.z
  have g0 : w7.cell? ⟨vb, 0, none⟩ = some (.bool false) := (cell_of_row _ _ _ _ _ _ HLc7.out.z).trans rfl
  have g1 : w7.cell? ⟨vb, 1, none⟩ = some (.int .u32 0) := (cell_of_row _ _ _ _ _ _ HLc7.out.z).trans rfl
  have g2 : w7.cell? ⟨vb, 2, none⟩ = some (.int .i64 0) := (cell_of_row _ _ _ _ _ _ HLc7.out.z).trans rfl
  have kz : (((w7.setCell ⟨vb, 0, none⟩ (.bool false)).setCell ⟨vb, 1, none⟩ (.int .u32 0)).setCell ⟨vb, 2, none⟩ (.int .i64 0)).cell? ⟨vb, 0, none⟩ = some (.bool false) ∧ (((w7.setCell ⟨vb, 0, none⟩ (.bool false)).setCell ⟨vb, 1, none⟩ (.int .u32 0)).setCell ⟨vb, 2, none⟩ (.int .i64 0)).cell? ⟨vb, 1, none⟩ = some (.int .u32 0) ∧ (((w7.setCell ⟨vb, 0, none⟩ (.bool false)).setCell ⟨vb, 1, none⟩ (.int .u32 0)).setCell ⟨vb, 2, none⟩ (.int .i64 0)).cell? ⟨vb, 2, none⟩ = some (.int .i64 0) := by
    refine ⟨?_, ?_, ?_⟩ <;> exact (cell_of_row _ _ _ _ _ _ HLs7.out.z).trans rfl
  clear hB7 HLn6 kc6
  have HL7 : Hid (∀ o, (((((w7.setCell ⟨vb, 0, none⟩ (.bool false)).setCell ⟨vb, 1, none⟩ (.int .u32 0)).setCell ⟨vb, 2, none⟩ (.int .i64 0))).alloc o).ownsRow (vb + 1) 36 3 v6 6 (zl 6)) := fun o => HLs7.out.l.alloc o
  have HZ7 : Hid (∀ j u, z3.toList[j]? = some u → (((((w7.setCell ⟨vb, 0, none⟩ (.bool false)).setCell ⟨vb, 1, none⟩ (.int .u32 0)).setCell ⟨vb, 2, none⟩ (.int .i64 0))).alloc (.cells z3 36)).cell? ((⟨w7.heap.size, 0, none⟩ : Addr).add j) = some u) := cellsV (by first | rfl | simp only [World.size_setCell] | simp only [World.size_alloc])
  have HB7 : Hid (vb + 1 ≤ (((((w7.setCell ⟨vb, 0, none⟩ (.bool false)).setCell ⟨vb, 1, none⟩ (.int .u32 0)).setCell ⟨vb, 2, none⟩ (.int .i64 0))).alloc (.cells z3 36)).heap.size) := (by have h9 := HLs7.out.vs; rw [World.size_alloc]; exact Nat.le_succ_of_le h9)
  go_wp2_with (first | (refine wpList_appendV rfl _ _ rfl (vb + 1) v6 6 (zl 6) ⟨w7.heap.size, 0, none⟩ 1 rfl (by with_reducible exact HL7.out _) rfl (by with_reducible exact HZ7.out) (by omega) (by with_reducible exact HB7.out) ?_; intro v7 y7 o1 g1 p1; have HLa7 : Hid (Ln (cs n bh rm q kd dm rd sd N A C xa ya za xn xc yn yc zn zc) w vb 7 6 v7 u6 y7) := (by exact HLs7.out.appL o1 g1 p1); have HM7 : Hid (∀ o, (y7.alloc o).ownsRow (vb + 1) 37 1 u6 6 (ol 6)) := fun o => HLa7.out.e.alloc o; have HY7 : Hid (∀ x, (y7.alloc (.cells #[x] 37)).cell? ⟨y7.heap.size, 0, none⟩ = some x) := fun x => cellsE rfl x; have HC7 : Hid (∀ o, vb + 1 ≤ (y7.alloc o).heap.size) := fun o => (by have h9 := HLa7.out.vs; rw [World.size_alloc]; exact Nat.le_succ_of_le h9); clear o1 g1 p1 HL7 HZ7 HB7) | (refine wpList_appendE rfl _ _ rfl (vb + 1) u6 6 (ol 6) ⟨y7.heap.size, 0, none⟩ 1 rfl (by with_reducible exact HM7.out _) rfl (by with_reducible exact HY7.out _) (by omega) (by with_reducible exact HC7.out _) ?_; intro u7 x7 o1 g1 p1; have HLn7 : Hid (Ln (cs n bh rm q kd dm rd sd N A C xa ya za xn xc yn yc zn zc) w vb 7 7 v7 u7 x7) := HLa7.out.appE o1 g1 p1; clear o1 g1 p1 HLa7 HLs7 HM7 HY7 HC7; have kc7 : K14 n bh rm q kd dm rd sd N A C xa ya za xn xc yn yc zn zc w.heap.size x7 := K14.mk HLn7.out.c) | fail)
  clear kz f0 f1 f2 g0 g1 g2 HLc7
  refine (nil11 _ _ _ _ _ _ _ _).mono ?_
  rintro e8 w8 ⟨rfl, hB8⟩
  have HLc8 := hide (HLn7.out.call hB8)
  have HLs8 := hide HLc8.out.set
  have f0 : w8.frozen? ⟨vb, 0, none⟩ = false := frozen_of_row _ _ _ _ _ HLc8.out.z
  have f1 : w8.frozen? ⟨vb, 1, none⟩ = false := frozen_of_row _ _ _ _ _ HLc8.out.z
  have f2 : w8.frozen? ⟨vb, 2, none⟩ = false := frozen_of_row _ _ _ _ _ HLc8.out.z
  have g0 : w8.cell? ⟨vb, 0, none⟩ = some (.bool false) := (cell_of_row _ _ _ _ _ _ HLc8.out.z).trans rfl
  have g1 : w8.cell? ⟨vb, 1, none⟩ = some (.int .u32 0) := (cell_of_row _ _ _ _ _ _ HLc8.out.z).trans rfl
  have g2 : w8.cell? ⟨vb, 2, none⟩ = some (.int .i64 0) := (cell_of_row _ _ _ _ _ _ HLc8.out.z).trans rfl
  have kz : (((w8.setCell ⟨vb, 0, none⟩ (.bool false)).setCell ⟨vb, 1, none⟩ (.int .u32 0)).setCell ⟨vb, 2, none⟩ (.int .i64 0)).cell? ⟨vb, 0, none⟩ = some (.bool false) ∧ (((w8.setCell ⟨vb, 0, none⟩ (.bool false)).setCell ⟨vb, 1, none⟩ (.int .u32 0)).setCell ⟨vb, 2, none⟩ (.int .i64 0)).cell? ⟨vb, 1, none⟩ = some (.int .u32 0) ∧ (((w8.setCell ⟨vb, 0, none⟩ (.bool false)).setCell ⟨vb, 1, none⟩ (.int .u32 0)).setCell ⟨vb, 2, none⟩ (.int .i64 0)).cell? ⟨vb, 2, none⟩ = some (.int .i64 0) := by
    refine ⟨?_, ?_, ?_⟩ <;> exact (cell_of_row _ _ _ _ _ _ HLs8.out.z).trans rfl
  clear hB8 HLn7 kc7
  have HL8 : Hid (∀ o, (((((w8.setCell ⟨vb, 0, none⟩ (.bool false)).setCell ⟨vb, 1, none⟩ (.int .u32 0)).setCell ⟨vb, 2, none⟩ (.int .i64 0))).alloc o).ownsRow (vb + 1) 36 3 v7 7 (zl 7)) := fun o => HLs8.out.l.alloc o
  have HZ8 : Hid (∀ j u, z3.toList[j]? = some u → (((((w8.setCell ⟨vb, 0, none⟩ (.bool false)).setCell ⟨vb, 1, none⟩ (.int .u32 0)).setCell ⟨vb, 2, none⟩ (.int .i64 0))).alloc (.cells z3 36)).cell? ((⟨w8.heap.size, 0, none⟩ : Addr).add j) = some u) := cellsV (by first | rfl | simp only [World.size_setCell] | simp only [World.size_alloc])
  have HB8 : Hid (vb + 1 ≤ (((((w8.setCell ⟨vb, 0, none⟩ (.bool false)).setCell ⟨vb, 1, none⟩ (.int .u32 0)).setCell ⟨vb, 2, none⟩ (.int .i64 0))).alloc (.cells z3 36)).heap.size) := (by have h9 := HLs8.out.vs; rw [World.size_alloc]; exact Nat.le_succ_of_le h9)
  go_wp2_with (first | (refine wpList_appendV rfl _ _ rfl (vb + 1) v7 7 (zl 7) ⟨w8.heap.size, 0, none⟩ 1 rfl (by with_reducible exact HL8.out _) rfl (by with_reducible exact HZ8.out) (by omega) (by with_reducible exact HB8.out) ?_; intro v8 y8 o1 g1 p1; have HLa8 : Hid (Ln (cs n bh rm q kd dm rd sd N A C xa ya za xn xc yn yc zn zc) w vb 8 7 v8 u7 y8) := (by exact HLs8.out.appL o1 g1 p1); have HM8 : Hid (∀ o, (y8.alloc o).ownsRow (vb + 1) 37 1 u7 7 (ol 7)) := fun o => HLa8.out.e.alloc o; have HY8 : Hid (∀ x, (y8.alloc (.cells #[x] 37)).cell? ⟨y8.heap.size, 0, none⟩ = some x) := fun x => cellsE rfl x; have HC8 : Hid (∀ o, vb + 1 ≤ (y8.alloc o).heap.size) := fun o => (by have h9 := HLa8.out.vs; rw [World.size_alloc]; exact Nat.le_succ_of_le h9); clear o1 g1 p1 HL8 HZ8 HB8) | (refine wpList_appendE rfl _ _ rfl (vb + 1) u7 7 (ol 7) ⟨y8.heap.size, 0, none⟩ 1 rfl (by with_reducible exact HM8.out _) rfl (by with_reducible exact HY8.out _) (by omega) (by with_reducible exact HC8.out _) ?_; intro u8 x8 o1 g1 p1; have HLn8 : Hid (Ln (cs n bh rm q kd dm rd sd N A C xa ya za xn xc yn yc zn zc) w vb 8 8 v8 u8 x8) := HLa8.out.appE o1 g1 p1; clear o1 g1 p1 HLa8 HLs8 HM8 HY8 HC8; have kc8 : K14 n bh rm q kd dm rd sd N A C xa ya za xn xc yn yc zn zc w.heap.size x8 := K14.mk HLn8.out.c) | fail)
  clear kz f0 f1 f2 g0 g1 g2 HLc8
  refine (nil12 _ _ _ _ _ _ _ _).mono ?_
  rintro e9 w9 ⟨rfl, hB9⟩
  have HLc9 := hide (HLn8.out.call hB9)
  have HLs9 := hide HLc9.out.set
  have f0 : w9.frozen? ⟨vb, 0, none⟩ = false := frozen_of_row _ _ _ _ _ HLc9.out.z
  have f1 : w9.frozen? ⟨vb, 1, none⟩ = false := frozen_of_row _ _ _ _ _ HLc9.out.z
  have f2 : w9.frozen? ⟨vb, 2, none⟩ = false := frozen_of_row _ _ _ _ _ HLc9.out.z
  have g0 : w9.cell? ⟨vb, 0, none⟩ = some (.bool false) := (cell_of_row _ _ _ _ _ _ HLc9.out.z).trans rfl
  have g1 : w9.cell? ⟨vb, 1, none⟩ = some (.int .u32 0) := (cell_of_row _ _ _ _ _ _ HLc9.out.z).trans rfl
  have g2 : w9.cell? ⟨vb, 2, none⟩ = some (.int .i64 0) := (cell_of_row _ _ _ _ _ _ HLc9.out.z).trans rfl
  have kz : (((w9.setCell ⟨vb, 0, none⟩ (.bool false)).setCell ⟨vb, 1, none⟩ (.int .u32 0)).setCell ⟨vb, 2, none⟩ (.int .i64 0)).cell? ⟨vb, 0, none⟩ = some (.bool false) ∧ (((w9.setCell ⟨vb, 0, none⟩ (.bool false)).setCell ⟨vb, 1, none⟩ (.int .u32 0)).setCell ⟨vb, 2, none⟩ (.int .i64 0)).cell? ⟨vb, 1, none⟩ = some (.int .u32 0) ∧ (((w9.setCell ⟨vb, 0, none⟩ (.bool false)).setCell ⟨vb, 1, none⟩ (.int .u32 0)).setCell ⟨vb, 2, none⟩ (.int .i64 0)).cell? ⟨vb, 2, none⟩ = some (.int .i64 0) := by
    refine ⟨?_, ?_, ?_⟩ <;> exact (cell_of_row _ _ _ _ _ _ HLs9.out.z).trans rfl
  clear hB9 HLn8 kc8
  have HL9 : Hid (∀ o, (((((w9.setCell ⟨vb, 0, none⟩ (.bool false)).setCell ⟨vb, 1, none⟩ (.int .u32 0)).setCell ⟨vb, 2, none⟩ (.int .i64 0))).alloc o).ownsRow (vb + 1) 36 3 v8 8 (zl 8)) := fun o => HLs9.out.l.alloc o
  have HZ9 : Hid (∀ j u, z3.toList[j]? = some u → (((((w9.setCell ⟨vb, 0, none⟩ (.bool false)).setCell ⟨vb, 1, none⟩ (.int .u32 0)).setCell ⟨vb, 2, none⟩ (.int .i64 0))).alloc (.cells z3 36)).cell? ((⟨w9.heap.size, 0, none⟩ : Addr).add j) = some u) := cellsV (by first | rfl | simp only [World.size_setCell] | simp only [World.size_alloc])
  have HB9 : Hid (vb + 1 ≤ (((((w9.setCell ⟨vb, 0, none⟩ (.bool false)).setCell ⟨vb, 1, none⟩ (.int .u32 0)).setCell ⟨vb, 2, none⟩ (.int .i64 0))).alloc (.cells z3 36)).heap.size) := (by have h9 := HLs9.out.vs; rw [World.size_alloc]; exact Nat.le_succ_of_le h9)
  go_wp2_with (first | (refine wpList_appendV rfl _ _ rfl (vb + 1) v8 8 (zl 8) ⟨w9.heap.size, 0, none⟩ 1 rfl (by with_reducible exact HL9.out _) rfl (by with_reducible exact HZ9.out) (by omega) (by with_reducible exact HB9.out) ?_; intro v9 y9 o1 g1 p1; have HLa9 : Hid (Ln (cs n bh rm q kd dm rd sd N A C xa ya za xn xc yn yc zn zc) w vb 9 8 v9 u8 y9) := (by exact HLs9.out.appL o1 g1 p1); have HM9 : Hid (∀ o, (y9.alloc o).ownsRow (vb + 1) 37 1 u8 8 (ol 8)) := fun o => HLa9.out.e.alloc o; have HY9 : Hid (∀ x, (y9.alloc (.cells #[x] 37)).cell? ⟨y9.heap.size, 0, none⟩ = some x) := fun x => cellsE rfl x; have HC9 : Hid (∀ o, vb + 1 ≤ (y9.alloc o).heap.size) := fun o => (by have h9 := HLa9.out.vs; rw [World.size_alloc]; exact Nat.le_succ_of_le h9); clear o1 g1 p1 HL9 HZ9 HB9) | (refine wpList_appendE rfl _ _ rfl (vb + 1) u8 8 (ol 8) ⟨y9.heap.size, 0, none⟩ 1 rfl (by with_reducible exact HM9.out _) rfl (by with_reducible exact HY9.out _) (by omega) (by with_reducible exact HC9.out _) ?_; intro u9 x9 o1 g1 p1; have HLn9 : Hid (Ln (cs n bh rm q kd dm rd sd N A C xa ya za xn xc yn yc zn zc) w vb 9 9 v9 u9 x9) := HLa9.out.appE o1 g1 p1; clear o1 g1 p1 HLa9 HLs9 HM9 HY9 HC9; have kc9 : K14 n bh rm q kd dm rd sd N A C xa ya za xn xc yn yc zn zc w.heap.size x9 := K14.mk HLn9.out.c) | fail)
  clear kz f0 f1 f2 g0 g1 g2 HLc9
  refine (nil13 _ _ _ _ _ _ _ _).mono ?_
  rintro e10 w10 ⟨rfl, hB10⟩
  have HLc10 := hide (HLn9.out.call hB10)
  have HLs10 := hide HLc10.out.set
  have f0 : w10.frozen? ⟨vb, 0, none⟩ = false := frozen_of_row _ _ _ _ _ HLc10.out.z
  have f1 : w10.frozen? ⟨vb, 1, none⟩ = false := frozen_of_row _ _ _ _ _ HLc10.out.z
  have f2 : w10.frozen? ⟨vb, 2, none⟩ = false := frozen_of_row _ _ _ _ _ HLc10.out.z
  have g0 : w10.cell? ⟨vb, 0, none⟩ = some (.bool false) := (cell_of_row _ _ _ _ _ _ HLc10.out.z).trans rfl
  have g1 : w10.cell? ⟨vb, 1, none⟩ = some (.int .u32 0) := (cell_of_row _ _ _ _ _ _ HLc10.out.z).trans rfl
  have g2 : w10.cell? ⟨vb, 2, none⟩ = some (.int .i64 0) := (cell_of_row _ _ _ _ _ _ HLc10.out.z).trans rfl
  have kz : (((w10.setCell ⟨vb, 0, none⟩ (.bool false)).setCell ⟨vb, 1, none⟩ (.int .u32 0)).setCell ⟨vb, 2, none⟩ (.int .i64 0)).cell? ⟨vb, 0, none⟩ = some (.bool false) ∧ (((w10.setCell ⟨vb, 0, none⟩ (.bool false)).setCell ⟨vb, 1, none⟩ (.int .u32 0)).setCell ⟨vb, 2, none⟩ (.int .i64 0)).cell? ⟨vb, 1, none⟩ = some (.int .u32 0) ∧ (((w10.setCell ⟨vb, 0, none⟩ (.bool false)).setCell ⟨vb, 1, none⟩ (.int .u32 0)).setCell ⟨vb, 2, none⟩ (.int .i64 0)).cell? ⟨vb, 2, none⟩ = some (.int .i64 0) := by
    refine ⟨?_, ?_, ?_⟩ <;> exact (cell_of_row _ _ _ _ _ _ HLs10.out.z).trans rfl
  clear hB10 HLn9 kc9
  have HL10 : Hid (∀ o, (((((w10.setCell ⟨vb, 0, none⟩ (.bool false)).setCell ⟨vb, 1, none⟩ (.int .u32 0)).setCell ⟨vb, 2, none⟩ (.int .i64 0))).alloc o).ownsRow (vb + 1) 36 3 v9 9 (zl 9)) := fun o => HLs10.out.l.alloc o
  have HZ10 : Hid (∀ j u, z3.toList[j]? = some u → (((((w10.setCell ⟨vb, 0, none⟩ (.bool false)).setCell ⟨vb, 1, none⟩ (.int .u32 0)).setCell ⟨vb, 2, none⟩ (.int .i64 0))).alloc (.cells z3 36)).cell? ((⟨w10.heap.size, 0, none⟩ : Addr).add j) = some u) := cellsV (by first | rfl | simp only [World.size_setCell] | simp only [World.size_alloc])
  have HB10 : Hid (vb + 1 ≤ (((((w10.setCell ⟨vb, 0, none⟩ (.bool false)).setCell ⟨vb, 1, none⟩ (.int .u32 0)).setCell ⟨vb, 2, none⟩ (.int .i64 0))).alloc (.cells z3 36)).heap.size) := (by have h9 := HLs10.out.vs; rw [World.size_alloc]; exact Nat.le_succ_of_le h9)
  go_wp2_with (first | (refine wpList_appendV rfl _ _ rfl (vb + 1) v9 9 (zl 9) ⟨w10.heap.size, 0, none⟩ 1 rfl (by with_reducible exact HL10.out _) rfl (by with_reducible exact HZ10.out) (by omega) (by with_reducible exact HB10.out) ?_; intro v10 y10 o1 g1 p1; have HLa10 : Hid (Ln (cs n bh rm q kd dm rd sd N A C xa ya za xn xc yn yc zn zc) w vb 10 9 v10 u9 y10) := (by exact HLs10.out.appL o1 g1 p1); have HM10 : Hid (∀ o, (y10.alloc o).ownsRow (vb + 1) 37 1 u9 9 (ol 9)) := fun o => HLa10.out.e.alloc o; have HY10 : Hid (∀ x, (y10.alloc (.cells #[x] 37)).cell? ⟨y10.heap.size, 0, none⟩ = some x) := fun x => cellsE rfl x; have HC10 : Hid (∀ o, vb + 1 ≤ (y10.alloc o).heap.size) := fun o => (by have h9 := HLa10.out.vs; rw [World.size_alloc]; exact Nat.le_succ_of_le h9); clear o1 g1 p1 HL10 HZ10 HB10) | (refine wpList_appendE rfl _ _ rfl (vb + 1) u9 9 (ol 9) ⟨y10.heap.size, 0, none⟩ 1 rfl (by with_reducible exact HM10.out _) rfl (by with_reducible exact HY10.out _) (by omega) (by with_reducible exact HC10.out _) ?_; intro u10 x10 o1 g1 p1; have HLn10 : Hid (Ln (cs n bh rm q kd dm rd sd N A C xa ya za xn xc yn yc zn zc) w vb 10 10 v10 u10 x10) := HLa10.out.appE o1 g1 p1; clear o1 g1 p1 HLa10 HLs10 HM10 HY10 HC10; have kc10 : K14 n bh rm q kd dm rd sd N A C xa ya za xn xc yn yc zn zc w.heap.size x10 := K14.mk HLn10.out.c) | fail)
  clear kz f0 f1 f2 g0 g1 g2 HLc10
  have HS : Hid (K14 n bh rm q kd dm rd sd N A C xa ya za xn xc yn yc zn zc w.heap.size x10.drew) := kc10
  have HLd : Hid (Ln (cs n bh rm q kd dm rd sd N A C xa ya za xn xc yn yc zn zc) w vb 10 10 v10 u10 x10.drew) := ⟨HLn10.out.c, HLn10.out.z, HLn10.out.l, HLn10.out.e, HLn10.out.n, HLn10.out.lt, belowD HLn10.out.b⟩
  have HK : Hid (∀ W, Below x10.drew.heap.size x10.drew W → K14 n bh rm q kd dm rd sd N A C xa ya za xn xc yn yc zn zc w.heap.size W) := fun W hb => K14.mk (HLd.out.call hb).c
  have HK2 : Hid (∀ w11, Below x10.drew.heap.size x10.drew w11 → K14 n bh rm q kd dm rd sd N A C xa ya za xn xc yn yc zn zc w.heap.size (((w11.setCell ⟨vb, 0, none⟩ (.bool false)).setCell ⟨vb, 1, none⟩ (.int .u32 0)).setCell ⟨vb, 2, none⟩ (.int .i64 0))) := fun W hb => K14.mk (HLd.out.call hb).set.c
  clear kc10
  have HJ := hide (fun W (r : Int) => nil14 n dm r HD0.out HD1.out (some ⟨w.heap.size + 1 + 1, 0, none⟩) 3 3 (some ⟨w.heap.size + 1 + 1, 0, none⟩) 3 3 W)
  go_region_held3 (K14 n bh rm q kd dm rd sd N A C xa ya za xn xc yn yc zn zc w.heap.size) ((first | with_reducible exact HS.out | with_reducible exact HK.out _ HC1.out | with_reducible exact HK.out _ HC3.out | with_reducible exact HK2.out _ HC3.out)) ((first | (go_at_call 15; refine (HR.out _).mono ?_; rintro e1 w1 ⟨r1, rfl, hC1⟩; have HC1 := hide hC1; clear hC1) | (go_at_call 14; refine (HJ.out _ _).mono ?_; rintro e11 w11 ⟨rfl, hB3⟩; have HC3 : Hid (Below x10.drew.heap.size x10.drew w11) := HC1.out.trans (hB3.mono HC1.out.size); have HLc11 := hide (HLd.out.call HC3.out); have HLs11 := hide HLc11.out.set; have f0 : w11.frozen? ⟨vb, 0, none⟩ = false := frozen_of_row _ _ _ _ _ HLc11.out.z; have f1 : w11.frozen? ⟨vb, 1, none⟩ = false := frozen_of_row _ _ _ _ _ HLc11.out.z; have f2 : w11.frozen? ⟨vb, 2, none⟩ = false := frozen_of_row _ _ _ _ _ HLc11.out.z; have g0 : w11.cell? ⟨vb, 0, none⟩ = some (.bool false) := (cell_of_row _ _ _ _ _ _ HLc11.out.z).trans rfl; have g1 : w11.cell? ⟨vb, 1, none⟩ = some (.int .u32 0) := (cell_of_row _ _ _ _ _ _ HLc11.out.z).trans rfl; have g2 : w11.cell? ⟨vb, 2, none⟩ = some (.int .i64 0) := (cell_of_row _ _ _ _ _ _ HLc11.out.z).trans rfl; clear hB3)))
  have kz : (((w11.setCell ⟨vb, 0, none⟩ (.bool false)).setCell ⟨vb, 1, none⟩ (.int .u32 0)).setCell ⟨vb, 2, none⟩ (.int .i64 0)).cell? ⟨vb, 0, none⟩ = some (.bool false) ∧ (((w11.setCell ⟨vb, 0, none⟩ (.bool false)).setCell ⟨vb, 1, none⟩ (.int .u32 0)).setCell ⟨vb, 2, none⟩ (.int .i64 0)).cell? ⟨vb, 1, none⟩ = some (.int .u32 0) ∧ (((w11.setCell ⟨vb, 0, none⟩ (.bool false)).setCell ⟨vb, 1, none⟩ (.int .u32 0)).setCell ⟨vb, 2, none⟩ (.int .i64 0)).cell? ⟨vb, 2, none⟩ = some (.int .i64 0) := by
    refine ⟨?_, ?_, ?_⟩ <;> exact (cell_of_row _ _ _ _ _ _ HLs11.out.z).trans rfl
  clear HS HK HK2 HLd HJ HLn10
  have HL11 : Hid (∀ o, (((((w11.setCell ⟨vb, 0, none⟩ (.bool false)).setCell ⟨vb, 1, none⟩ (.int .u32 0)).setCell ⟨vb, 2, none⟩ (.int .i64 0))).alloc o).ownsRow (vb + 1) 36 3 v10 10 (zl 10)) := fun o => HLs11.out.l.alloc o
  have HZ11 : Hid (∀ j u, z3.toList[j]? = some u → (((((w11.setCell ⟨vb, 0, none⟩ (.bool false)).setCell ⟨vb, 1, none⟩ (.int .u32 0)).setCell ⟨vb, 2, none⟩ (.int .i64 0))).alloc (.cells z3 36)).cell? ((⟨w11.heap.size, 0, none⟩ : Addr).add j) = some u) := cellsV (by first | rfl | simp only [World.size_setCell] | simp only [World.size_alloc])
  have HB11 : Hid (vb + 1 ≤ (((((w11.setCell ⟨vb, 0, none⟩ (.bool false)).setCell ⟨vb, 1, none⟩ (.int .u32 0)).setCell ⟨vb, 2, none⟩ (.int .i64 0))).alloc (.cells z3 36)).heap.size) := (by have h9 := HLs11.out.vs; rw [World.size_alloc]; exact Nat.le_succ_of_le h9)
  go_wp2_with (first | (refine wpList_appendV rfl _ _ rfl (vb + 1) v10 10 (zl 10) ⟨w11.heap.size, 0, none⟩ 1 rfl (by with_reducible exact HL11.out _) rfl (by with_reducible exact HZ11.out) (by omega) (by with_reducible exact HB11.out) ?_; intro v11 y11 o1 g1 p1; have HLa11 : Hid (Ln (cs n bh rm q kd dm rd sd N A C xa ya za xn xc yn yc zn zc) w vb 11 10 v11 u10 y11) := (by exact HLs11.out.appL o1 g1 p1); have HM11 : Hid (∀ o, (y11.alloc o).ownsRow (vb + 1) 37 1 u10 10 (ol 10)) := fun o => HLa11.out.e.alloc o; have HY11 : Hid (∀ x, (y11.alloc (.cells #[x] 37)).cell? ⟨y11.heap.size, 0, none⟩ = some x) := fun x => cellsE rfl x; have HC11 : Hid (∀ o, vb + 1 ≤ (y11.alloc o).heap.size) := fun o => (by have h9 := HLa11.out.vs; rw [World.size_alloc]; exact Nat.le_succ_of_le h9); clear o1 g1 p1 HL11 HZ11 HB11) | (refine wpList_appendE rfl _ _ rfl (vb + 1) u10 10 (ol 10) ⟨y11.heap.size, 0, none⟩ 1 rfl (by with_reducible exact HM11.out _) rfl (by with_reducible exact HY11.out _) (by omega) (by with_reducible exact HC11.out _) ?_; intro u11 x11 o1 g1 p1; have HLn11 : Hid (Ln (cs n bh rm q kd dm rd sd N A C xa ya za xn xc yn yc zn zc) w vb 11 11 v11 u11 x11) := HLa11.out.appE o1 g1 p1; clear o1 g1 p1 HLa11 HLs11 HM11 HY11 HC11; have kc11 : K14 n bh rm q kd dm rd sd N A C xa ya za xn xc yn yc zn zc w.heap.size x11 := K14.mk HLn11.out.c) | fail)
  clear kz f0 f1 f2 g0 g1 g2 HLc11
  refine (nil16 _ _ _ _ _ _ _ _ _ _).mono ?_
  rintro e12 w12 ⟨rfl, hB12⟩
  have HLc12 := hide (HLn11.out.call hB12)
  have HLs12 := hide HLc12.out.set
  have f0 : w12.frozen? ⟨vb, 0, none⟩ = false := frozen_of_row _ _ _ _ _ HLc12.out.z
  have f1 : w12.frozen? ⟨vb, 1, none⟩ = false := frozen_of_row _ _ _ _ _ HLc12.out.z
  have f2 : w12.frozen? ⟨vb, 2, none⟩ = false := frozen_of_row _ _ _ _ _ HLc12.out.z
  have g0 : w12.cell? ⟨vb, 0, none⟩ = some (.bool false) := (cell_of_row _ _ _ _ _ _ HLc12.out.z).trans rfl
  have g1 : w12.cell? ⟨vb, 1, none⟩ = some (.int .u32 0) := (cell_of_row _ _ _ _ _ _ HLc12.out.z).trans rfl
  have g2 : w12.cell? ⟨vb, 2, none⟩ = some (.int .i64 0) := (cell_of_row _ _ _ _ _ _ HLc12.out.z).trans rfl
  have kz : (((w12.setCell ⟨vb, 0, none⟩ (.bool false)).setCell ⟨vb, 1, none⟩ (.int .u32 0)).setCell ⟨vb, 2, none⟩ (.int .i64 0)).cell? ⟨vb, 0, none⟩ = some (.bool false) ∧ (((w12.setCell ⟨vb, 0, none⟩ (.bool false)).setCell ⟨vb, 1, none⟩ (.int .u32 0)).setCell ⟨vb, 2, none⟩ (.int .i64 0)).cell? ⟨vb, 1, none⟩ = some (.int .u32 0) ∧ (((w12.setCell ⟨vb, 0, none⟩ (.bool false)).setCell ⟨vb, 1, none⟩ (.int .u32 0)).setCell ⟨vb, 2, none⟩ (.int .i64 0)).cell? ⟨vb, 2, none⟩ = some (.int .i64 0) := by
    refine ⟨?_, ?_, ?_⟩ <;> exact (cell_of_row _ _ _ _ _ _ HLs12.out.z).trans rfl
  clear hB12 HLn11 kc11
  have HL12 : Hid (∀ o, (((((w12.setCell ⟨vb, 0, none⟩ (.bool false)).setCell ⟨vb, 1, none⟩ (.int .u32 0)).setCell ⟨vb, 2, none⟩ (.int .i64 0))).alloc o).ownsRow (vb + 1) 36 3 v11 11 (zl 11)) := fun o => HLs12.out.l.alloc o
  have HZ12 : Hid (∀ j u, z3.toList[j]? = some u → (((((w12.setCell ⟨vb, 0, none⟩ (.bool false)).setCell ⟨vb, 1, none⟩ (.int .u32 0)).setCell ⟨vb, 2, none⟩ (.int .i64 0))).alloc (.cells z3 36)).cell? ((⟨w12.heap.size, 0, none⟩ : Addr).add j) = some u) := cellsV (by first | rfl | simp only [World.size_setCell] | simp only [World.size_alloc])
  have HB12 : Hid (vb + 1 ≤ (((((w12.setCell ⟨vb, 0, none⟩ (.bool false)).setCell ⟨vb, 1, none⟩ (.int .u32 0)).setCell ⟨vb, 2, none⟩ (.int .i64 0))).alloc (.cells z3 36)).heap.size) := (by have h9 := HLs12.out.vs; rw [World.size_alloc]; exact Nat.le_succ_of_le h9)
  go_wp2_with (first | (refine wpList_appendV rfl _ _ rfl (vb + 1) v11 11 (zl 11) ⟨w12.heap.size, 0, none⟩ 1 rfl (by with_reducible exact HL12.out _) rfl (by with_reducible exact HZ12.out) (by omega) (by with_reducible exact HB12.out) ?_; intro v12 y12 o1 g1 p1; have HLa12 : Hid (Ln (cs n bh rm q kd dm rd sd N A C xa ya za xn xc yn yc zn zc) w vb 12 11 v12 u11 y12) := (by exact HLs12.out.appL o1 g1 p1); have HM12 : Hid (∀ o, (y12.alloc o).ownsRow (vb + 1) 37 1 u11 11 (ol 11)) := fun o => HLa12.out.e.alloc o; have HY12 : Hid (∀ x, (y12.alloc (.cells #[x] 37)).cell? ⟨y12.heap.size, 0, none⟩ = some x) := fun x => cellsE rfl x; have HC12 : Hid (∀ o, vb + 1 ≤ (y12.alloc o).heap.size) := fun o => (by have h9 := HLa12.out.vs; rw [World.size_alloc]; exact Nat.le_succ_of_le h9); clear o1 g1 p1 HL12 HZ12 HB12) | (refine wpList_appendE rfl _ _ rfl (vb + 1) u11 11 (ol 11) ⟨y12.heap.size, 0, none⟩ 1 rfl (by with_reducible exact HM12.out _) rfl (by with_reducible exact HY12.out _) (by omega) (by with_reducible exact HC12.out _) ?_; intro u12 x12 o1 g1 p1; have HLn12 : Hid (Ln (cs n bh rm q kd dm rd sd N A C xa ya za xn xc yn yc zn zc) w vb 12 12 v12 u12 x12) := HLa12.out.appE o1 g1 p1; clear o1 g1 p1 HLa12 HLs12 HM12 HY12 HC12; have kc12 : K14 n bh rm q kd dm rd sd N A C xa ya za xn xc yn yc zn zc w.heap.size x12 := K14.mk HLn12.out.c) | fail)
  clear kz f0 f1 f2 g0 g1 g2 HLc12
  refine (nil17 _ _ _ _ _ _ _ _ _).mono ?_
  rintro e13 w13 ⟨rfl, hB13⟩
  have HLc13 := hide (HLn12.out.call hB13)
  have HLs13 := hide HLc13.out.set
  have f0 : w13.frozen? ⟨vb, 0, none⟩ = false := frozen_of_row _ _ _ _ _ HLc13.out.z
  have f1 : w13.frozen? ⟨vb, 1, none⟩ = false := frozen_of_row _ _ _ _ _ HLc13.out.z
  have f2 : w13.frozen? ⟨vb, 2, none⟩ = false := frozen_of_row _ _ _ _ _ HLc13.out.z
  have g0 : w13.cell? ⟨vb, 0, none⟩ = some (.bool false) := (cell_of_row _ _ _ _ _ _ HLc13.out.z).trans rfl
  have g1 : w13.cell? ⟨vb, 1, none⟩ = some (.int .u32 0) := (cell_of_row _ _ _ _ _ _ HLc13.out.z).trans rfl
  have g2 : w13.cell? ⟨vb, 2, none⟩ = some (.int .i64 0) := (cell_of_row _ _ _ _ _ _ HLc13.out.z).trans rfl
  have kz : (((w13.setCell ⟨vb, 0, none⟩ (.bool false)).setCell ⟨vb, 1, none⟩ (.int .u32 0)).setCell ⟨vb, 2, none⟩ (.int .i64 0)).cell? ⟨vb, 0, none⟩ = some (.bool false) ∧ (((w13.setCell ⟨vb, 0, none⟩ (.bool false)).setCell ⟨vb, 1, none⟩ (.int .u32 0)).setCell ⟨vb, 2, none⟩ (.int .i64 0)).cell? ⟨vb, 1, none⟩ = some (.int .u32 0) ∧ (((w13.setCell ⟨vb, 0, none⟩ (.bool false)).setCell ⟨vb, 1, none⟩ (.int .u32 0)).setCell ⟨vb, 2, none⟩ (.int .i64 0)).cell? ⟨vb, 2, none⟩ = some (.int .i64 0) := by
    refine ⟨?_, ?_, ?_⟩ <;> exact (cell_of_row _ _ _ _ _ _ HLs13.out.z).trans rfl
  clear hB13 HLn12 kc12
  have HL13 : Hid (∀ o, (((((w13.setCell ⟨vb, 0, none⟩ (.bool false)).setCell ⟨vb, 1, none⟩ (.int .u32 0)).setCell ⟨vb, 2, none⟩ (.int .i64 0))).alloc o).ownsRow (vb + 1) 36 3 v12 12 (zl 12)) := fun o => HLs13.out.l.alloc o
  have HZ13 : Hid (∀ j u, z3.toList[j]? = some u → (((((w13.setCell ⟨vb, 0, none⟩ (.bool false)).setCell ⟨vb, 1, none⟩ (.int .u32 0)).setCell ⟨vb, 2, none⟩ (.int .i64 0))).alloc (.cells z3 36)).cell? ((⟨w13.heap.size, 0, none⟩ : Addr).add j) = some u) := cellsV (by first | rfl | simp only [World.size_setCell] | simp only [World.size_alloc])
  have HB13 : Hid (vb + 1 ≤ (((((w13.setCell ⟨vb, 0, none⟩ (.bool false)).setCell ⟨vb, 1, none⟩ (.int .u32 0)).setCell ⟨vb, 2, none⟩ (.int .i64 0))).alloc (.cells z3 36)).heap.size) := (by have h9 := HLs13.out.vs; rw [World.size_alloc]; exact Nat.le_succ_of_le h9)
  go_wp2_with (first | (refine wpList_appendV rfl _ _ rfl (vb + 1) v12 12 (zl 12) ⟨w13.heap.size, 0, none⟩ 1 rfl (by with_reducible exact HL13.out _) rfl (by with_reducible exact HZ13.out) (by omega) (by with_reducible exact HB13.out) ?_; intro v13 y13 o1 g1 p1; have HLa13 : Hid (Ln (cs n bh rm q kd dm rd sd N A C xa ya za xn xc yn yc zn zc) w vb 13 12 v13 u12 y13) := (by exact HLs13.out.appL o1 g1 p1); have HM13 : Hid (∀ o, (y13.alloc o).ownsRow (vb + 1) 37 1 u12 12 (ol 12)) := fun o => HLa13.out.e.alloc o; have HY13 : Hid (∀ x, (y13.alloc (.cells #[x] 37)).cell? ⟨y13.heap.size, 0, none⟩ = some x) := fun x => cellsE rfl x; have HC13 : Hid (∀ o, vb + 1 ≤ (y13.alloc o).heap.size) := fun o => (by have h9 := HLa13.out.vs; rw [World.size_alloc]; exact Nat.le_succ_of_le h9); clear o1 g1 p1 HL13 HZ13 HB13) | (refine wpList_appendE rfl _ _ rfl (vb + 1) u12 12 (ol 12) ⟨y13.heap.size, 0, none⟩ 1 rfl (by with_reducible exact HM13.out _) rfl (by with_reducible exact HY13.out _) (by omega) (by with_reducible exact HC13.out _) ?_; intro u13 x13 o1 g1 p1; have HLn13 : Hid (Ln (cs n bh rm q kd dm rd sd N A C xa ya za xn xc yn yc zn zc) w vb 13 13 v13 u13 x13) := HLa13.out.appE o1 g1 p1; clear o1 g1 p1 HLa13 HLs13 HM13 HY13 HC13; have kc13 : K14 n bh rm q kd dm rd sd N A C xa ya za xn xc yn yc zn zc w.heap.size x13 := K14.mk HLn13.out.c) | fail)
  clear kz f0 f1 f2 g0 g1 g2 HLc13
  have HS : Hid (K14 n bh rm q kd dm rd sd N A C xa ya za xn xc yn yc zn zc w.heap.size x13.drew) := kc13
  have HLd : Hid (Ln (cs n bh rm q kd dm rd sd N A C xa ya za xn xc yn yc zn zc) w vb 13 13 v13 u13 x13.drew) := ⟨HLn13.out.c, HLn13.out.z, HLn13.out.l, HLn13.out.e, HLn13.out.n, HLn13.out.lt, belowD HLn13.out.b⟩
  have HK : Hid (∀ W, Below x13.drew.heap.size x13.drew W → K14 n bh rm q kd dm rd sd N A C xa ya za xn xc yn yc zn zc w.heap.size W) := fun W hb => K14.mk (HLd.out.call hb).c
  have HK2 : Hid (∀ w14, Below x13.drew.heap.size x13.drew w14 → K14 n bh rm q kd dm rd sd N A C xa ya za xn xc yn yc zn zc w.heap.size (((w14.setCell ⟨vb, 0, none⟩ (.bool false)).setCell ⟨vb, 1, none⟩ (.int .u32 0)).setCell ⟨vb, 2, none⟩ (.int .i64 0))) := fun W hb => K14.mk (HLd.out.call hb).set.c
  clear kc13
  have HJ := hide (fun W (r : Int) => nil18 n r sd (some ⟨w.heap.size + 1 + 1, 0, none⟩) 3 3 (some ⟨w.heap.size + 1, 0, none⟩) 10 10 W)
  go_region_held3 (K14 n bh rm q kd dm rd sd N A C xa ya za xn xc yn yc zn zc w.heap.size) ((first | with_reducible exact HS.out | with_reducible exact HK.out _ HC1.out | with_reducible exact HK.out _ HC3.out | with_reducible exact HK2.out _ HC3.out)) ((first | (go_at_call 15; refine (HR.out _).mono ?_; rintro e1 w1 ⟨r1, rfl, hC1⟩; have HC1 := hide hC1; clear hC1) | (go_at_call 18; refine (HJ.out _ _).mono ?_; rintro e14 w14 ⟨rfl, hB3⟩; have HC3 : Hid (Below x13.drew.heap.size x13.drew w14) := HC1.out.trans (hB3.mono HC1.out.size); have HLc14 := hide (HLd.out.call HC3.out); have HLs14 := hide HLc14.out.set; have f0 : w14.frozen? ⟨vb, 0, none⟩ = false := frozen_of_row _ _ _ _ _ HLc14.out.z; have f1 : w14.frozen? ⟨vb, 1, none⟩ = false := frozen_of_row _ _ _ _ _ HLc14.out.z; have f2 : w14.frozen? ⟨vb, 2, none⟩ = false := frozen_of_row _ _ _ _ _ HLc14.out.z; have g0 : w14.cell? ⟨vb, 0, none⟩ = some (.bool false) := (cell_of_row _ _ _ _ _ _ HLc14.out.z).trans rfl; have g1 : w14.cell? ⟨vb, 1, none⟩ = some (.int .u32 0) := (cell_of_row _ _ _ _ _ _ HLc14.out.z).trans rfl; have g2 : w14.cell? ⟨vb, 2, none⟩ = some (.int .i64 0) := (cell_of_row _ _ _ _ _ _ HLc14.out.z).trans rfl; clear hB3)))
  have kz : (((w14.setCell ⟨vb, 0, none⟩ (.bool false)).setCell ⟨vb, 1, none⟩ (.int .u32 0)).setCell ⟨vb, 2, none⟩ (.int .i64 0)).cell? ⟨vb, 0, none⟩ = some (.bool false) ∧ (((w14.setCell ⟨vb, 0, none⟩ (.bool false)).setCell ⟨vb, 1, none⟩ (.int .u32 0)).setCell ⟨vb, 2, none⟩ (.int .i64 0)).cell? ⟨vb, 1, none⟩ = some (.int .u32 0) ∧ (((w14.setCell ⟨vb, 0, none⟩ (.bool false)).setCell ⟨vb, 1, none⟩ (.int .u32 0)).setCell ⟨vb, 2, none⟩ (.int .i64 0)).cell? ⟨vb, 2, none⟩ = some (.int .i64 0) := by
    refine ⟨?_, ?_, ?_⟩ <;> exact (cell_of_row _ _ _ _ _ _ HLs14.out.z).trans rfl
  clear HS HK HK2 HLd HJ HLn13
  have HL14 : Hid (∀ o, (((((w14.setCell ⟨vb, 0, none⟩ (.bool false)).setCell ⟨vb, 1, none⟩ (.int .u32 0)).setCell ⟨vb, 2, none⟩ (.int .i64 0))).alloc o).ownsRow (vb + 1) 36 3 v13 13 (zl 13)) := fun o => HLs14.out.l.alloc o
  have HZ14 : Hid (∀ j u, z3.toList[j]? = some u → (((((w14.setCell ⟨vb, 0, none⟩ (.bool false)).setCell ⟨vb, 1, none⟩ (.int .u32 0)).setCell ⟨vb, 2, none⟩ (.int .i64 0))).alloc (.cells z3 36)).cell? ((⟨w14.heap.size, 0, none⟩ : Addr).add j) = some u) := cellsV (by first | rfl | simp only [World.size_setCell] | simp only [World.size_alloc])
  have HB14 : Hid (vb + 1 ≤ (((((w14.setCell ⟨vb, 0, none⟩ (.bool false)).setCell ⟨vb, 1, none⟩ (.int .u32 0)).setCell ⟨vb, 2, none⟩ (.int .i64 0))).alloc (.cells z3 36)).heap.size) := (by have h9 := HLs14.out.vs; rw [World.size_alloc]; exact Nat.le_succ_of_le h9)
  go_wp2_with (first | (refine wpList_appendV rfl _ _ rfl (vb + 1) v13 13 (zl 13) ⟨w14.heap.size, 0, none⟩ 1 rfl (by with_reducible exact HL14.out _) rfl (by with_reducible exact HZ14.out) (by omega) (by with_reducible exact HB14.out) ?_; intro v14 y14 o1 g1 p1; have HLa14 : Hid (Ln (cs n bh rm q kd dm rd sd N A C xa ya za xn xc yn yc zn zc) w vb 14 13 v14 u13 y14) := (by exact HLs14.out.appL o1 g1 p1); have HM14 : Hid (∀ o, (y14.alloc o).ownsRow (vb + 1) 37 1 u13 13 (ol 13)) := fun o => HLa14.out.e.alloc o; have HY14 : Hid (∀ x, (y14.alloc (.cells #[x] 37)).cell? ⟨y14.heap.size, 0, none⟩ = some x) := fun x => cellsE rfl x; have HC14 : Hid (∀ o, vb + 1 ≤ (y14.alloc o).heap.size) := fun o => (by have h9 := HLa14.out.vs; rw [World.size_alloc]; exact Nat.le_succ_of_le h9); clear o1 g1 p1 HL14 HZ14 HB14) | (refine wpList_appendE rfl _ _ rfl (vb + 1) u13 13 (ol 13) ⟨y14.heap.size, 0, none⟩ 1 rfl (by with_reducible exact HM14.out _) rfl (by with_reducible exact HY14.out _) (by omega) (by with_reducible exact HC14.out _) ?_; intro u14 x14 o1 g1 p1; have HLn14 : Hid (Ln (cs n bh rm q kd dm rd sd N A C xa ya za xn xc yn yc zn zc) w vb 14 14 v14 u14 x14) := HLa14.out.appE o1 g1 p1; clear o1 g1 p1 HLa14 HLs14 HM14 HY14 HC14; have kc14 : K14 n bh rm q kd dm rd sd N A C xa ya za xn xc yn yc zn zc w.heap.size x14 := K14.mk HLn14.out.c) | fail)
  clear kz f0 f1 f2 g0 g1 g2 HLc14
  obtain ⟨gl, cl, hvl⟩ := own_ptr HLn14.out.l (by decide)
  obtain ⟨ge, ce, hve⟩ := own_ptr HLn14.out.e (by decide)
  subst hvl hve
  have HZl : Hid (∀ k, k < 14 → x14.cell? ⟨gl, k * 3, none⟩ = some (.bool false) ∧ x14.cell? ⟨gl, k * 3 + 1, none⟩ = some (.int .u32 0) ∧ x14.cell? ⟨gl, k * 3 + 2, none⟩ = some (.int .i64 0)) := fun k hk => by
    obtain ⟨a, b, c⟩ := zl_get 14 k hk
    exact ⟨(HLn14.out.l.cellAt _ (by omega)).trans a, (HLn14.out.l.cellAt _ (by omega)).trans b, (HLn14.out.l.cellAt _ (by omega)).trans c⟩
  have HEl : Hid (∀ k, k < 14 → x14.cell? ⟨ge, k, none⟩ = some (.int .i64 1)) := fun k hk => (HLn14.out.e.cellAt _ (by omega)).trans (ol_get 14 k hk)
  have HBl : Hid (Below w.heap.size w x14) := HLn14.out.b
  clear HLn14 kc14
  go_loop [10] (fun t => ∃ k : Nat, k ≤ 14 ∧ t = .int .i64 k) (fun t => 14 - (intOf t).toNat)
  case atStart => exact ⟨0, by omega, rfl⟩
  case round =>
    obtain ⟨k, hk, rfl⟩ := hrel
    by_cases cc : k < 14
    · obtain ⟨c0, c1, c2⟩ := HZl.out k cc
      have c3 := HEl.out k cc
      have hne := ne_z3
      have HN := hide num_any
      go_wp2_with (fail)
      refine (HN.out _ _).mono ?_
      rintro e9 w9 ⟨rfl, hw9⟩
      subst w9
      go_wp2
      exact ⟨⟨k + 1, by omega, by go_num⟩, by simp [intOf]; omega⟩
    · go_wp2
      go_ret
      exact ⟨rfl, HBl.out⟩
end Rn
end Go.Proofs.YteegfadhfimlcaaGreatDoor
