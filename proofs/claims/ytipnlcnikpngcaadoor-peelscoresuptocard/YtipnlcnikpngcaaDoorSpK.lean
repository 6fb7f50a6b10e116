import Derived.Test.YtipnlcnikpngcaaDoorSpJ
namespace Go.Proofs.YtipnlcnikpngcaaDoor
namespace Wp
open Go.RowKit
set_option linter.unusedVariables false
set_option maxRecDepth 8000
/-- How many of the first j edges go out of a vertex; how many come in. -/
def outs (E : Nat → Int × Int × Int) : Nat → Nat → Int
  | 0, _ => 0
  | j + 1, v => outs E j v + if (E j).1 = (v : Int) then 1 else 0
def ins (E : Nat → Int × Int × Int) : Nat → Nat → Int
  | 0, _ => 0
  | j + 1, v => ins E j v + if (E j).2.1 = (v : Int) then 1 else 0
theorem outs_b (E : Nat → Int × Int × Int) (j v : Nat) : 0 ≤ outs E j v ∧ outs E j v ≤ j := by
  induction j with
  | zero => exact ⟨Int.le_refl _, Int.le_refl _⟩
  | succ j ih => simp only [outs]; split <;> omega
theorem ins_b (E : Nat → Int × Int × Int) (j v : Nat) : 0 ≤ ins E j v ∧ ins E j v ≤ j := by
  induction j with
  | zero => exact ⟨Int.le_refl _, Int.le_refl _⟩
  | succ j ih => simp only [ins]; split <;> omega
/-- Degrees as they lie. -/
def DV (w : World) (b n : Nat) (F G : Nat → Int) : Prop := ∃ C : Array Value, w.heap[b]? = some (.cells C 69 (0, 0)) ∧ ∀ v, v < n → C[v * 2]? = some (.int .u64 (F v)) ∧ C[v * 2 + 1]? = some (.int .u64 (G v))
theorem DV.lt {w : World} {b n : Nat} {F G : Nat → Int} (h : DV w b n F G) : b < w.heap.size := by
  obtain ⟨C, h, _⟩ := h
  exact (Array.getElem?_eq_some_iff.1 h).1
theorem DV.of {w w' : World} {b n : Nat} {F G : Nat → Int} (h : DV w b n F G) (e : w'.heap[b]? = w.heap[b]?) : DV w' b n F G := by
  obtain ⟨C, h, h2⟩ := h
  exact ⟨C, e.trans h, h2⟩
theorem DV.on {w w' : World} {b n : Nat} {F G : Nat → Int} (h : DV w b n F G) (hb : Below w.heap.size w w') : DV w' b n F G := h.of (hb.block b h.lt)
theorem DV.k2 {w : World} {b n : Nat} {F G : Nat → Int} (h : DV w b n F G) (v : Nat) (hv : v < n) : w.cell? ⟨b, v * 2, none⟩ = some (.int .u64 (F v)) ∧ w.cell? ⟨b, v * 2 + 1, none⟩ = some (.int .u64 (G v)) := by
  obtain ⟨C, h, h2⟩ := h
  exact ⟨(cell_of_row w b _ _ 69 (0, 0) h).trans (h2 v hv).1, (cell_of_row w b _ _ 69 (0, 0) h).trans (h2 v hv).2⟩
theorem DV.fz {w : World} {b n : Nat} {F G : Nat → Int} (h : DV w b n F G) (j : Nat) : w.frozen? ⟨b, j, none⟩ = false := by
  obtain ⟨C, h, h2⟩ := h
  exact frozen_of_row w b _ _ 69 h
theorem DV.set1 {w : World} {b n : Nat} {F G : Nat → Int} (h : DV w b n F G) (x : Nat) (hx : x < n) (z : Int) : DV (w.setCell ⟨b, x * 2, none⟩ (.int .u64 z)) b n (fun v => if v = x then z else F v) G ∧ ∃ C, w.setCell ⟨b, x * 2, none⟩ (.int .u64 z) = w.setRow b C := by
  obtain ⟨C, h, h2⟩ := h
  rw [setCell_eq_setRow w b (x * 2) C 69 (0, 0) _ h]
  refine ⟨⟨_, setRow_heap w b _ _ 69 (0, 0) h, fun v hv => ?_⟩, _, rfl⟩
  have hs := (Array.getElem?_eq_some_iff.1 (h2 x hx).1).1
  rw [Array.getElem?_setIfInBounds, Array.getElem?_setIfInBounds, if_neg (show ¬ x * 2 = v * 2 + 1 by omega)]
  refine ⟨?_, (h2 v hv).2⟩
  by_cases e : v = x
  · subst e; rw [if_pos rfl, if_pos hs]; simp
  · rw [if_neg (by omega)]; simp only [if_neg e]; exact (h2 v hv).1
theorem DV.set2 {w : World} {b n : Nat} {F G : Nat → Int} (h : DV w b n F G) (x : Nat) (hx : x < n) (z : Int) : DV (w.setCell ⟨b, x * 2 + 1, none⟩ (.int .u64 z)) b n F (fun v => if v = x then z else G v) ∧ ∃ C, w.setCell ⟨b, x * 2 + 1, none⟩ (.int .u64 z) = w.setRow b C := by
  obtain ⟨C, h, h2⟩ := h
  rw [setCell_eq_setRow w b (x * 2 + 1) C 69 (0, 0) _ h]
  refine ⟨⟨_, setRow_heap w b _ _ 69 (0, 0) h, fun v hv => ?_⟩, _, rfl⟩
  have hs := (Array.getElem?_eq_some_iff.1 (h2 x hx).2).1
  rw [Array.getElem?_setIfInBounds, Array.getElem?_setIfInBounds, if_neg (show ¬ x * 2 + 1 = v * 2 by omega)]
  refine ⟨(h2 v hv).1, ?_⟩
  by_cases e : v = x
  · subst e; rw [if_pos rfl, if_pos hs]; simp
  · rw [if_neg (by omega)]; simp only [if_neg e]; exact (h2 v hv).2
theorem DV.new (w : World) (n : Nat) (E : Nat → Int × Int × Int) : DV (w.alloc (.cells (madeCells #[.int .u64 0, .int .u64 0] (n * 2)) 69)) w.heap.size n (outs E 0) (ins E 0) := by
  refine ⟨_, at0 _ _, fun v hv => ⟨?_, ?_⟩⟩
  · have h1 : v * 2 < n * 2 := by omega
    have h2 : v * 2 % 2 = 0 := by omega
    simp [madeCells, outs, hv, h2]
  · have h1 : v * 2 + 1 < n * 2 := by omega
    have h2 : (v * 2 + 1) % 2 = 1 := by omega
    simp [madeCells, ins, h1, h2]
theorem DV.ext {w : World} {b n : Nat} {F G F' G' : Nat → Int} (h : DV w b n F G) (hF : ∀ v, F v = F' v) (hG : ∀ v, G v = G' v) : DV w b n F' G' := by
  obtain ⟨C, h, h2⟩ := h
  exact ⟨C, h, fun v hv => by rw [← hF, ← hG]; exact h2 v hv⟩
set_option maxHeartbeats 4000000 in
theorem degrees_val (n m c : Nat) (a : Option Addr) (E : Nat → Int × Int × Int) (hn : n ≤ 1000) (hm : m ≤ 1048576) (w : World) (hE : ERow w a m E) (hI : EIn n m E) :
    Calls Tryd.prog 18 #[.int .u32 (n : Int), .slice a m c] w fun e w' => e = .returned (.slice (some ⟨w.heap.size, 0, none⟩) n n) ∧ DV w' w.heap.size n (outs E m) (ins E m) ∧ Below w.heap.size w w' := by
  have HM := hide (make_deg w n (by omega))
  have HE := hide hE
  have HI := hide hI
  have h0 := hide (DV.new w n E)
  have h1 : Hid (Below w.heap.size w (w.alloc (.cells (madeCells #[.int .u64 0, .int .u64 0] (n * 2)) 69))) := b1 _ _ _
  clear hE hI
  have hmk := HM.out
  generalize madeCells #[.int .u64 0, .int .u64 0] (n * 2) = mc at *
  go_enter Tryd.func18, Tryd.ntmps18
  go_wp2
  clear hmk
  go_loopw [6] (fun v wr => ∃ j : Nat, j ≤ m ∧ v = .int .i64 j ∧ Hid (DV wr w.heap.size n (outs E j) (ins E j)) ∧ Hid (Below w.heap.size w wr)) (fun v _ => m - (intOf v).toNat)
  case atStart => exact ⟨0, Nat.zero_le _, rfl, h0, h1⟩
  case round =>
    clear h0 h1 HM
    obtain ⟨j, hj, rfl, HD, HB⟩ := hrel
    by_cases cc : j < m
    · obtain ⟨b, rfl, hb, hc⟩ := HE.out (by omega)
      obtain ⟨x, y, hx, hy, hxn, hyn⟩ := HI.out j cc
      have hcc := hc j cc
      rw [hx, hy] at hcc
      have hc1 := (HB.out.cell hb).trans hcc.1
      have hc2 := (HB.out.cell hb).trans hcc.2.1
      obtain ⟨d1, hd1⟩ : ∃ d1, outs E j x = d1 := ⟨_, rfl⟩
      obtain ⟨d2, hd2⟩ : ∃ d2, ins E j y = d2 := ⟨_, rfl⟩
      have hk1 := (HD.out.k2 x hxn).1
      have hk2 := (HD.out.k2 y hyn).2
      have hf1 := HD.out.fz (x * 2)
      rw [hd1] at hk1
      rw [hd2] at hk2
      have hw1 : IntKind.u64.wrap (d1 + 1) = d1 + 1 := by have := outs_b E j x; exact wu _ (by omega) (by omega)
      have hw2 : IntKind.u64.wrap (d2 + 1) = d2 + 1 := by have := ins_b E j y; exact wu _ (by omega) (by omega)
      have hb1 : 0 ≤ d1 ∧ d1 < 2000000 := by have := outs_b E j x; omega
      have hb2 : 0 ≤ d2 ∧ d2 < 2000000 := by have := ins_b E j y; omega
      have HD1 := hide (HD.out.set1 x hxn (d1 + 1))
      have hk3 := (HD1.out.1.k2 y hyn).2
      rw [hd2] at hk3
      have hf2 := HD1.out.1.fz (y * 2 + 1)
      have HD2 := hide (HD1.out.1.set2 y hyn (d2 + 1))
      have hc3 : (wr.setCell ⟨w.heap.size, x * 2, none⟩ (.int .u64 (d1 + 1))).cell? ⟨b, j * 3 + 1, none⟩ = some (.int .u32 (y : Int)) := by
        obtain ⟨C1, h1⟩ := HD1.out.2
        rw [h1]
        exact (cell_setRow_other _ _ _ _ (Nat.ne_of_lt hb)).trans hc2
      have HB2 : Hid (Below w.heap.size w ((wr.setCell ⟨w.heap.size, x * 2, none⟩ (.int .u64 (d1 + 1))).setCell ⟨w.heap.size, y * 2 + 1, none⟩ (.int .u64 (d2 + 1)))) := by
        obtain ⟨C1, h1⟩ := HD1.out.2
        obtain ⟨C2, h2⟩ := HD2.out.2
        show Below _ _ _
        rw [h2, h1]
        exact below_setRow (below_setRow HB.out (Nat.le_refl _) _) (Nat.le_refl _) _
      have HD3 : Hid (DV ((wr.setCell ⟨w.heap.size, x * 2, none⟩ (.int .u64 (d1 + 1))).setCell ⟨w.heap.size, y * 2 + 1, none⟩ (.int .u64 (d2 + 1))) w.heap.size n (outs E (j + 1)) (ins E (j + 1))) := by
        refine HD2.out.1.ext (fun v => ?_) (fun v => ?_)
        · show (if v = x then d1 + 1 else outs E j v) = outs E j v + if (E j).1 = (v : Int) then 1 else 0
          rw [hx]
          by_cases e : v = x
          · rw [if_pos e, if_pos (by omega), e, hd1]
          · rw [if_neg e, if_neg (by omega)]; omega
        · show (if v = y then d2 + 1 else ins E j v) = ins E j v + if (E j).2.1 = (v : Int) then 1 else 0
          rw [hy]
          by_cases e : v = y
          · rw [if_pos e, if_pos (by omega), e, hd2]
          · rw [if_neg e, if_neg (by omega)]; omega
      clear hcc hc hx hy hb hc2 hd1 hd2
      go_wp2
      exact ⟨⟨j + 1, cc, by go_num, HD3.out, HB2⟩, by simp [intOf]; omega⟩
    · have hjm : j = m := by omega
      subst hjm
      clear cc hj
      go_wp2
      all_goals go_ret
      all_goals exact ⟨rfl, HD.out, HB.out⟩
set_option maxHeartbeats 1000000 in
theorem worse_00 (w : World) : Calls Tryd.prog 20 #[.int .i64 0, .int .i64 0] w fun e w' => e = .returned (.int .i64 0) ∧ w' = w := by
  have HN := hide (num_any 0)
  go_enter Tryd.func20, Tryd.ntmps20
  go_wp2_with (first | (go_at_call 8; refine (HN.out _).mono ?_; rintro e1 w1 ⟨rfl, hw1⟩; subst w1))
  all_goals go_ret
  all_goals exact ⟨rfl, rfl⟩
/-- The aggregate of the first v states. -/
def fs (g : Pg) (S : Nat → Nat → Int) : Nat → Nat → Int
  | 0 => fun _ => 0
  | v + 1 => g.fo (fs g S v) (S v)
end Wp
end Go.Proofs.YtipnlcnikpngcaaDoor
