import Derived.Test.YteegfadhfimlcaaGreatDoorRkB
import Derived.Test.YteegfadhfimlcaaGreatDoorPeC
namespace Go.Proofs.YteegfadhfimlcaaGreatDoor
namespace Rn
open Go.RowKit
set_option linter.unusedVariables false
set_option maxRecDepth 8000
abbrev z3 : Array Value := #[.bool false, .int .u32 0, .int .i64 0]
theorem sets3 {w : World} {g : Nat} {old : Array Value} {t : TypeId} {fr : Nat × Nat} (hg : w.heap[g]? = some (.cells old t fr)) (hs : old.size = 3) (v0 v1 v2 : Value) :
    (((w.setCell ⟨g, 0, none⟩ v0).setCell ⟨g, 1, none⟩ v1).setCell ⟨g, 2, none⟩ v2) = w.setRow g #[v0, v1, v2] := by
  match old, hs with
  | ⟨[u0, u1, u2]⟩, _ =>
    rw [setCell_eq_setRow w g 0 #[u0, u1, u2] t fr v0 hg]
    rw [show (#[u0, u1, u2] : Array Value).setIfInBounds 0 v0 = #[v0, u1, u2] from rfl]
    have q0 := setRow_heap w g _ #[v0, u1, u2] t fr hg
    rw [setCell_eq_setRow _ g 1 #[v0, u1, u2] t fr v1 q0]
    rw [show (#[v0, u1, u2] : Array Value).setIfInBounds 1 v1 = #[v0, v1, u2] from rfl, setRow_setRow]
    have q1 := setRow_heap w g _ #[v0, v1, u2] t fr hg
    rw [setCell_eq_setRow _ g 2 #[v0, v1, u2] t fr v2 q1]
    rw [show (#[v0, v1, u2] : Array Value).setIfInBounds 2 v2 = #[v0, v1, v2] from rfl, setRow_setRow]
theorem num_any (x : Int) (w : World) : Calls Tryz.prog 19 #[.int .i64 x] w fun e w' => e = .returned (.int .i64 x) ∧ w' = w := by
  go_enter Tryz.func19, Tryz.ntmps19
  go_wp2
  all_goals go_ret
  all_goals exact ⟨rfl, rfl⟩
theorem err38 (p : Value) (x : Int) (w : World) : Calls Tryz.prog 38 #[p, .int .i64 x] w fun e w' => e = .returned (.int .i64 x) ∧ w' = w := by
  go_enter Tryz.func38, Tryz.ntmps38
  go_wp2
  all_goals go_ret
  all_goals exact ⟨rfl, rfl⟩
theorem err69 (p : Value) (x : Int) (w : World) : Calls Tryz.prog 69 #[p, .int .i64 x] w fun e w' => e = .returned (.int .i64 x) ∧ w' = w := by
  go_enter Tryz.func69, Tryz.ntmps69
  go_wp2
  all_goals go_ret
  all_goals exact ⟨rfl, rfl⟩
/-- May there be so many vertices? -/
def szn (n : Int) : Int := if n < 1 ∨ 2147483647 < n then 2 else 0
set_option maxHeartbeats 1000000 in
theorem sized_any (n : Int) (w : World) : Calls Tryz.prog 24 #[.int .u32 n] w fun e w' => e = .returned (.int .i64 (szn n)) ∧ w' = w := by
  unfold szn
  by_cases h1 : n < 1
  · rw [if_pos (Or.inl h1)]
    go_enter Tryz.func24, Tryz.ntmps24
    go_wp2
    all_goals go_ret
    all_goals exact ⟨rfl, rfl⟩
  · by_cases h2 : 2147483647 < n
    · rw [if_pos (Or.inr h2)]
      go_enter Tryz.func24, Tryz.ntmps24
      go_wp2
      all_goals go_ret
      all_goals exact ⟨rfl, rfl⟩
    · rw [if_neg (by omega)]
      go_enter Tryz.func24, Tryz.ntmps24
      go_wp2
      all_goals go_ret
      all_goals exact ⟨rfl, rfl⟩
/-- An inquiry without edges. -/
abbrev iq (n kd : Int) (sl : Value) : Array Value := #[.int .u32 n, .int .i64 kd, .nilFunc, sl, .bool false, .int .u32 0, .int .i64 0]
/-- No edges: the answer, and nothing is touched. -/
def An (w : World) (e : Ending) (w' : World) : Prop := e = .returned (.tuple #[.agg z3, .int .i64 1]) ∧ Below w.heap.size w w'
theorem nil_fn (W : World) : Sem.run Tryz.prog (binOp BinOp.eql 52 Value.nilFunc Value.nilFunc) W = .ok (.bool true) W := rfl
set_option maxHeartbeats 2000000 in
theorem judge_nil (n kd made p : Int) (sa : Option Addr) (sn sc : Nat) (ra : Option Addr) (rn rc : Nat) (f : Value) (w : World) :
    Calls Tryz.prog 23 #[.agg (iq n kd (.slice sa sn sc)), .int .i64 made, .slice ra rn rc, .int .i64 p, f] w fun e w' => An w e w' := by
  have hn := nil_fn
  have HB : Hid (∀ C C', Below w.heap.size w ((w.alloc (.cells C 58)).alloc (.cells C' 36))) := fun C C' => bA (b1 _ _ _) (by simp) _
  go_enter Tryz.func23, Tryz.ntmps23
  go_wp2
  all_goals (refine bodyPost_ret (v := .tuple #[.agg z3, .int .i64 1]) ?_ rfl ?_)
  all_goals first | (simp [results, Tryz.f23, go_sem]; done) | exact ⟨rfl, HB.out _ _⟩
set_option maxHeartbeats 2000000 in
theorem judge_nil2 (n kd made p : Int) (sa : Option Addr) (sn sc : Nat) (ra : Option Addr) (rn rc : Nat) (f : Value) (w : World) :
    Calls Tryz.prog 68 #[.agg (iq n kd (.slice sa sn sc)), .int .i64 made, .slice ra rn rc, .int .i64 p, f] w fun e w' => An w e w' := by
  have hn := nil_fn
  have HB : Hid (∀ C C', Below w.heap.size w ((w.alloc (.cells C 58)).alloc (.cells C' 36))) := fun C C' => bA (b1 _ _ _) (by simp) _
  go_enter Tryz.func68, Tryz.ntmps68
  go_wp2
  all_goals (refine bodyPost_ret (v := .tuple #[.agg z3, .int .i64 1]) ?_ rfl ?_)
  all_goals first | (simp [results, Tryz.f68, go_sem]; done) | exact ⟨rfl, HB.out _ _⟩
set_option maxHeartbeats 2000000 in
theorem set_any (N A C : Nat) (hN : N < 4294967296) (hA : A < 4294967296) (w : World) : Calls Tryz.prog 39 #[.agg (Pe.rk (N : Int) (A : Int) (C : Int))] w fun e w' => ∃ p E, e = .returned (.tuple #[.pointer p, .int .i64 E]) ∧ Below w.heap.size w w' := by
  have HC := hide (Pe.check_any N A C hN hA)
  generalize Pe.ck N A C = E at *
  have HB : Hid (∀ c, Below w.heap.size w (w.alloc (.cells c 27))) := fun c => b1 _ _ _
  by_cases h0 : E = 0
  · subst h0
    go_enter Tryz.func39, Tryz.ntmps39
    go_wp2_with (fail)
    refine (HC.out _).mono ?_
    rintro e1 w1 ⟨rfl, hB1⟩
    have HB1 := hide ((HB.out _).trans (hB1.mono (HB.out (Pe.rk (N : Int) (A : Int) (C : Int))).size))
    have HL : Hid (w1.heap[w.heap.size]? = some (.cells (Pe.rk (N : Int) (A : Int) (C : Int)) 27 (0, 0))) := (hB1.block _ (by simp)).trans (at0 w (.cells (Pe.rk (N : Int) (A : Int) (C : Int)) 27))
    have k0 : w1.cell? ⟨w.heap.size, 0, none⟩ = some (.int .u32 (N : Int)) := (cell_of_row _ _ _ _ _ _ HL.out).trans rfl
    have k1 : w1.cell? ⟨w.heap.size, 1, none⟩ = some (.int .u32 (A : Int)) := (cell_of_row _ _ _ _ _ _ HL.out).trans rfl
    have k2 : w1.cell? ⟨w.heap.size, 2, none⟩ = some (.int .u32 (C : Int)) := (cell_of_row _ _ _ _ _ _ HL.out).trans rfl
    clear hB1 HC HB
    go_wp2
    all_goals go_ret2
    all_goals exact ⟨_, _, rfl, by repeat first | exact HB1.out | refine belowD ?_ | refine belowN ?_ _ | refine bA ?_ (by first | exact Nat.le_refl _ | exact HB1.out.size | (have := HB1.out.size; simp only [World.size_alloc]; omega)) _⟩
  · have hE : (E != 0) = true := by simpa using h0
    go_enter Tryz.func39, Tryz.ntmps39
    go_wp2_with (fail)
    refine (HC.out _).mono ?_
    rintro e1 w1 ⟨rfl, hB1⟩
    have HB1 := hide ((HB.out _).trans (hB1.mono (HB.out (Pe.rk (N : Int) (A : Int) (C : Int))).size))
    clear hB1 HC HB
    go_wp2
    all_goals go_ret2
    all_goals exact ⟨_, _, rfl, HB1.out⟩
set_option maxHeartbeats 2000000 in
theorem colour_any (N A C : Nat) (hN : N < 4294967296) (hA : A < 4294967296) (w : World) : Calls Tryz.prog 46 #[.agg (Pe.rk (N : Int) (A : Int) (C : Int))] w fun e w' => ∃ p E, e = .returned (.tuple #[.pointer p, .int .i64 E]) ∧ Below w.heap.size w w' := by
  have HC := hide (Pe.check_any N A C hN hA)
  generalize Pe.ck N A C = E at *
  have HB : Hid (∀ c, Below w.heap.size w (w.alloc (.cells c 27))) := fun c => b1 _ _ _
  by_cases h0 : E = 0
  · subst h0
    go_enter Tryz.func46, Tryz.ntmps46
    go_wp2_with (fail)
    refine (HC.out _).mono ?_
    rintro e1 w1 ⟨rfl, hB1⟩
    have HB1 := hide ((HB.out _).trans (hB1.mono (HB.out (Pe.rk (N : Int) (A : Int) (C : Int))).size))
    have HL : Hid (w1.heap[w.heap.size]? = some (.cells (Pe.rk (N : Int) (A : Int) (C : Int)) 27 (0, 0))) := (hB1.block _ (by simp)).trans (at0 w (.cells (Pe.rk (N : Int) (A : Int) (C : Int)) 27))
    have k0 : w1.cell? ⟨w.heap.size, 0, none⟩ = some (.int .u32 (N : Int)) := (cell_of_row _ _ _ _ _ _ HL.out).trans rfl
    have k1 : w1.cell? ⟨w.heap.size, 1, none⟩ = some (.int .u32 (A : Int)) := (cell_of_row _ _ _ _ _ _ HL.out).trans rfl
    have k2 : w1.cell? ⟨w.heap.size, 2, none⟩ = some (.int .u32 (C : Int)) := (cell_of_row _ _ _ _ _ _ HL.out).trans rfl
    clear hB1 HC HB
    go_wp2
    all_goals go_ret2
    all_goals exact ⟨_, _, rfl, by repeat first | exact HB1.out | refine belowD ?_ | refine belowN ?_ _ | refine bA ?_ (by first | exact Nat.le_refl _ | exact HB1.out.size | (have := HB1.out.size; simp only [World.size_alloc]; omega)) _⟩
  · have hE : (E != 0) = true := by simpa using h0
    go_enter Tryz.func46, Tryz.ntmps46
    go_wp2_with (fail)
    refine (HC.out _).mono ?_
    rintro e1 w1 ⟨rfl, hB1⟩
    have HB1 := hide ((HB.out _).trans (hB1.mono (HB.out (Pe.rk (N : Int) (A : Int) (C : Int))).size))
    clear hB1 HC HB
    go_wp2
    all_goals go_ret2
    all_goals exact ⟨_, _, rfl, HB1.out⟩
abbrev S7 (b : Nat) (n kd : Int) (sl : Value) (w : World) : Prop := w.cell? ⟨b, 0, none⟩ = some (.int .u32 n) ∧ w.cell? ⟨b, 1, none⟩ = some (.int .i64 kd) ∧ w.cell? ⟨b, 2, none⟩ = some .nilFunc ∧ w.cell? ⟨b, 3, none⟩ = some sl ∧ w.cell? ⟨b, 4, none⟩ = some (.bool false) ∧ w.cell? ⟨b, 5, none⟩ = some (.int .u32 0) ∧ w.cell? ⟨b, 6, none⟩ = some (.int .i64 0)
theorem S7.mk {b : Nat} {n kd : Int} {sl : Value} {w : World} (h : w.heap[b]? = some (.cells (iq n kd sl) 58 (0, 0))) : S7 b n kd sl w := by
  refine ⟨?_, ?_, ?_, ?_, ?_, ?_, ?_⟩ <;> exact (cell_of_row _ _ _ _ _ _ h).trans rfl
theorem keep3 {wJ w3 : World} {vb b : Nat} {o : Obj} (hb : wJ.heap[b]? = some o) (hne : b ≠ vb) (h3 : Below wJ.drew.heap.size wJ.drew w3) (a b' c : Value) : (((w3.setCell ⟨vb, 0, none⟩ a).setCell ⟨vb, 1, none⟩ b').setCell ⟨vb, 2, none⟩ c).heap[b]? = some o :=
  (Below.heap_setCell _ _ _ _ hne).trans ((Below.heap_setCell _ _ _ _ hne).trans ((Below.heap_setCell _ _ _ _ hne).trans ((h3.block b (Array.getElem?_eq_some_iff.1 hb).1).trans hb)))
theorem fin3 {w wJ w3 : World} {vb : Nat} (hz : wJ.heap[vb]? = some (.cells z3 36 (0, 0))) (hv : w.heap.size ≤ vb) (hJ : Below w.heap.size w wJ) (h3 : Below wJ.drew.heap.size wJ.drew w3) (a b c : Value) :
    (((w3.setCell ⟨vb, 0, none⟩ a).setCell ⟨vb, 1, none⟩ b).setCell ⟨vb, 2, none⟩ c).heap[vb]? = some (.cells #[a, b, c] 36 (0, 0)) ∧ Below w.heap.size w (((w3.setCell ⟨vb, 0, none⟩ a).setCell ⟨vb, 1, none⟩ b).setCell ⟨vb, 2, none⟩ c) := by
  have hz3 : w3.heap[vb]? = some (.cells z3 36 (0, 0)) := (h3.block vb (Array.getElem?_eq_some_iff.1 hz).1).trans hz
  rw [sets3 hz3 rfl]
  exact ⟨setRow_heap _ _ _ _ _ _ hz3, below_setRow (hJ.trans ((show Below wJ.heap.size wJ w3 from ⟨h3.os, h3.tape, h3.output, h3.size, h3.block⟩).mono hJ.size)) hv _⟩
end Rn
end Go.Proofs.YteegfadhfimlcaaGreatDoor
