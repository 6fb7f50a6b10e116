import Derived.Test.YtipnlcnikpngcaaDoorWpF
namespace Go.Proofs.YtipnlcnikpngcaaDoor
namespace Wp
open Go.RowKit
set_option linter.unusedVariables false
set_option maxRecDepth 8000
/-- A list of edges as it lies. -/
def ERow (w : World) (a : Option Addr) (m : Nat) (E : Nat → Int × Int × Int) : Prop := 0 < m → ∃ b, a = some ⟨b, 0, none⟩ ∧ b < w.heap.size ∧ ∀ i, i < m → w.cell? ⟨b, i * 3, none⟩ = some (.int .u32 (E i).1) ∧ w.cell? ⟨b, i * 3 + 1, none⟩ = some (.int .u32 (E i).2.1) ∧ w.cell? ⟨b, i * 3 + 2, none⟩ = some (.int .u32 (E i).2.2)
theorem ERow.onB {w w' : World} {a : Option Addr} {m B : Nat} {E : Nat → Int × Int × Int} (h : ERow w a m E) (hb : Below B w w') (hB : ∀ b, a = some ⟨b, 0, none⟩ → b < B) : ERow w' a m E := fun h0 => by
  obtain ⟨b, rfl, h1, h2⟩ := h h0
  exact ⟨b, rfl, Nat.lt_of_lt_of_le h1 hb.size, fun i hi => ⟨(hb.cell (hB b rfl)).trans (h2 i hi).1, (hb.cell (hB b rfl)).trans (h2 i hi).2.1, (hb.cell (hB b rfl)).trans (h2 i hi).2.2⟩⟩
theorem ERow.on {w w' : World} {a : Option Addr} {m : Nat} {E : Nat → Int × Int × Int} (h : ERow w a m E) (hb : Below w.heap.size w w') : ERow w' a m E := fun h0 => by
  obtain ⟨b, rfl, h1, h2⟩ := h h0
  exact ⟨b, rfl, Nat.lt_of_lt_of_le h1 hb.size, fun i hi => ⟨(hb.cell h1).trans (h2 i hi).1, (hb.cell h1).trans (h2 i hi).2.1, (hb.cell h1).trans (h2 i hi).2.2⟩⟩
/-- Both ends of every edge lie in the graph. -/
def EIn (n m : Nat) (E : Nat → Int × Int × Int) : Prop := ∀ i, i < m → ∃ x y : Nat, (E i).1 = x ∧ (E i).2.1 = y ∧ x < n ∧ y < n
/-- Degrees, whatever they are. -/
def DR (w : World) (b n : Nat) : Prop := ∃ C : Array Value, w.heap[b]? = some (.cells C 69 (0, 0)) ∧ ∀ j, j < n * 2 → ∃ x, C[j]? = some (.int .u64 x)
theorem DR.lt {w : World} {b n : Nat} (h : DR w b n) : b < w.heap.size := by
  obtain ⟨C, h, _⟩ := h
  exact (Array.getElem?_eq_some_iff.1 h).1
theorem DR.of {w w' : World} {b n : Nat} (h : DR w b n) (e : w'.heap[b]? = w.heap[b]?) : DR w' b n := by
  obtain ⟨C, h, h2⟩ := h
  exact ⟨C, e.trans h, h2⟩
theorem DR.cell {w : World} {b n : Nat} (h : DR w b n) (j : Nat) (hj : j < n * 2) : ∃ x, w.cell? ⟨b, j, none⟩ = some (.int .u64 x) := by
  obtain ⟨C, h, h2⟩ := h
  obtain ⟨x, hx⟩ := h2 j hj
  exact ⟨x, (cell_of_row w b _ _ 69 (0, 0) h).trans hx⟩
theorem DR.fz {w : World} {b n : Nat} (h : DR w b n) (j : Nat) : w.frozen? ⟨b, j, none⟩ = false := by
  obtain ⟨C, h, h2⟩ := h
  exact frozen_of_row w b _ _ 69 h
theorem DR.set {w : World} {b n : Nat} (h : DR w b n) (j : Nat) (x : Int) : DR (w.setCell ⟨b, j, none⟩ (.int .u64 x)) b n ∧ ∃ C, w.setCell ⟨b, j, none⟩ (.int .u64 x) = w.setRow b C := by
  obtain ⟨C, h, h2⟩ := h
  rw [setCell_eq_setRow w b j C 69 (0, 0) _ h]
  refine ⟨⟨_, setRow_heap w b _ _ 69 (0, 0) h, fun i hi => ?_⟩, _, rfl⟩
  rw [Array.getElem?_setIfInBounds]
  obtain ⟨y, hy⟩ := h2 i hi
  have := (Array.getElem?_eq_some_iff.1 hy).1
  by_cases e : j = i
  · subst e; rw [if_pos rfl, if_pos this]; exact ⟨x, rfl⟩
  · rw [if_neg e]; exact ⟨y, hy⟩
theorem infoD : (Tryd.prog.info? 69).map (fun i => (i.zero, i.size, i.bytes)) = some (some (.agg #[.int .u64 0, .int .u64 0]), 2, 16) := by kernel_rfl
theorem make_deg (w : World) (n : Nat) (hn : n ≤ 1000000) : (Instr.makeSlice 62 (.int .u32 (n : Int)) (.int .u32 (n : Int))).run Tryd.prog w = .ok (.slice (some ⟨w.heap.size, 0, none⟩) n n) (w.alloc (.cells (madeCells #[.int .u64 0, .int .u64 0] (n * 2)) 69)) := by
  have h := infoD
  cases hh : Tryd.prog.info? 69 with
  | none => rw [hh] at h; cases h
  | some i =>
    rw [hh] at h
    simp at h
    have hr := run_make (P := Tryd.prog) w 62 69 i (.agg #[.int .u64 0, .int .u64 0]) Tryd.underlying62 hh h.1 .u32 .u32 n n (by omega) (by omega) (by rw [h.2.2]; omega) (by omega)
    rw [h.2.1] at hr
    simp only [Int.toNat_natCast] at hr
    rw [hr]
    rfl
theorem DR.new (w : World) (n : Nat) : DR (w.alloc (.cells (madeCells #[.int .u64 0, .int .u64 0] (n * 2)) 69)) w.heap.size n := by
  refine ⟨_, at0 _ _, fun j hj => ⟨0, ?_⟩⟩
  have h2 : j % 2 = 0 ∨ j % 2 = 1 := by omega
  rcases h2 with h2 | h2 <;> simp [madeCells, hj, h2]
set_option maxHeartbeats 4000000 in
theorem degrees_any (n m c : Nat) (a : Option Addr) (E : Nat → Int × Int × Int) (hn : n ≤ 1000) (hm : m ≤ 140737488351232) (w : World) (hE : ERow w a m E) (hI : EIn n m E) :
    Calls Tryd.prog 18 #[.int .u32 (n : Int), .slice a m c] w fun e w' => e = .returned (.slice (some ⟨w.heap.size, 0, none⟩) n n) ∧ DR w' w.heap.size n ∧ Below w.heap.size w w' := by
  have HM := hide (make_deg w n (by omega))
  have HE := hide hE
  have HI := hide hI
  have h0 := hide (DR.new w n)
  have h1 : Hid (Below w.heap.size w (w.alloc (.cells (madeCells #[.int .u64 0, .int .u64 0] (n * 2)) 69))) := b1 _ _ _
  clear hE hI
  have hmk := HM.out
  generalize madeCells #[.int .u64 0, .int .u64 0] (n * 2) = mc at *
  go_enter Tryd.func18, Tryd.ntmps18
  go_wp2
  clear hmk
  go_loopw [6] (fun v wr => ∃ j : Nat, j ≤ m ∧ v = .int .i64 j ∧ Hid (DR wr w.heap.size n) ∧ Hid (Below w.heap.size w wr)) (fun v _ => m - (intOf v).toNat)
  case atStart => exact ⟨0, Nat.zero_le _, rfl, h0, h1⟩
  case round =>
    clear h0 h1 HM
    obtain ⟨j, hj, rfl, HD, HB⟩ := hrel
    by_cases cc : j < m
    · obtain ⟨b, rfl, hb, hc⟩ := HE.out (by omega)
      obtain ⟨x, y, hx, hy, hxn, hyn⟩ := HI.out j cc
      have hcc := hc j cc
      rw [hx, hy] at hcc
      have hc1 := (HB.out.cell hb).trans hcc.1
      have hc2 := (HB.out.cell hb).trans hcc.2.1
      obtain ⟨d1, hd1⟩ := HD.out.cell (x * 2) (by omega)
      have hf1 := HD.out.fz (x * 2)
      have HD1 := hide (HD.out.set (x * 2) (IntKind.u64.wrap (d1 + 1)))
      obtain ⟨d2, hd2⟩ := HD1.out.1.cell (y * 2 + 1) (by omega)
      have hf2 := HD1.out.1.fz (y * 2 + 1)
      have HD2 := hide (HD1.out.1.set (y * 2 + 1) (IntKind.u64.wrap (d2 + 1)))
      have hc3 : (wr.setCell ⟨w.heap.size, x * 2, none⟩ (.int .u64 (IntKind.u64.wrap (d1 + 1)))).cell? ⟨b, j * 3 + 1, none⟩ = some (.int .u32 (y : Int)) := by
        obtain ⟨C1, h1⟩ := HD1.out.2
        rw [h1]
        exact (cell_setRow_other _ _ _ _ (Nat.ne_of_lt hb)).trans hc2
      have HB2 : Hid (Below w.heap.size w ((wr.setCell ⟨w.heap.size, x * 2, none⟩ (.int .u64 (IntKind.u64.wrap (d1 + 1)))).setCell ⟨w.heap.size, y * 2 + 1, none⟩ (.int .u64 (IntKind.u64.wrap (d2 + 1))))) := by
        obtain ⟨C1, h1⟩ := HD1.out.2
        obtain ⟨C2, h2⟩ := HD2.out.2
        show Below _ _ _
        rw [h2, h1]
        exact below_setRow (below_setRow HB.out (Nat.le_refl _) _) (Nat.le_refl _) _
      clear hcc hc hx hy hb hc2
      go_wp2
      exact ⟨⟨j + 1, cc, by go_num, HD2.out.1, HB2⟩, by simp [intOf]; omega⟩
    · have hjm : j = m := by omega
      subst hjm
      clear cc hj
      go_wp2
      all_goals go_ret
      all_goals exact ⟨rfl, HD.out, HB.out⟩
end Wp
end Go.Proofs.YtipnlcnikpngcaaDoor
