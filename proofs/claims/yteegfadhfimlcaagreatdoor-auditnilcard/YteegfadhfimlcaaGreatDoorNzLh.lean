import Derived.Test.YteegfadhfimlcaaGreatDoorNzB
namespace Go.Proofs.YteegfadhfimlcaaGreatDoor
namespace Rn
open Go.RowKit
set_option linter.unusedVariables false
set_option maxRecDepth 8000
abbrev Sn18 (w : World) (n k s : Int) (sa : Option Addr) (sn sc : Nat) (W : World) : Prop := S7 (w.heap.size + 1 + 1 + 1 + 1 + 1) n 0 (.slice sa sn sc) W ∧ W.cell? ⟨w.heap.size, 0, none⟩ = some (.int .u32 n) ∧ W.cell? ⟨w.heap.size + 1, 0, none⟩ = some (.int .i64 k) ∧ W.cell? ⟨w.heap.size + 1 + 1, 0, none⟩ = some (.int .u64 s)
theorem Sn18.mk {w : World} {n k s : Int} {sa : Option Addr} {sn sc : Nat} {W : World} (hq : W.heap[w.heap.size + 1 + 1 + 1 + 1 + 1]? = some (.cells (iq n 0 (.slice sa sn sc)) 58 (0, 0))) (h0 : W.heap[w.heap.size]? = some (.cells #[.int .u32 n] 22 (0, 0))) (h1 : W.heap[w.heap.size + 1]? = some (.cells #[.int .i64 k] 3 (0, 0))) (h2 : W.heap[w.heap.size + 1 + 1]? = some (.cells #[.int .u64 s] 28 (0, 0))) : Sn18 w n k s sa sn sc W := ⟨S7.mk hq, (cell_of_row _ _ _ _ _ _ h0).trans rfl, (cell_of_row _ _ _ _ _ _ h1).trans rfl, (cell_of_row _ _ _ _ _ _ h2).trans rfl⟩
theorem resn18 (T : Array Value) (b : Nat) (a c d : Value) (W : World) (h10 : T[12]? = some (.pointer (some ⟨b, 0, none⟩))) {E : Int} (h11 : T[13]? = some (.int .i64 E)) (h : W.heap[b]? = some (.cells #[a, c, d] 36 (0, 0))) :
    (results Tryz.f18 T).run Tryz.prog W = .ok (.tuple #[.agg #[a, c, d], .int .i64 E]) W := by
  have h0 : W.cell? ⟨b, 0, none⟩ = some a := (cell_of_row _ _ _ _ _ _ h).trans rfl
  have h1 : W.cell? ⟨b, 1, none⟩ = some c := (cell_of_row _ _ _ _ _ _ h).trans rfl
  have h2 : W.cell? ⟨b, 2, none⟩ = some d := (cell_of_row _ _ _ _ _ _ h).trans rfl
  simp [results, Tryz.f18, go_sem, h10, h11, h0, h1, h2]
set_option maxHeartbeats 4000000 in
theorem nil18 (n k s : Int) (sa : Option Addr) (sn sc : Nat) (ra : Option Addr) (rn rc : Nat) (w : World) : Calls Tryz.prog 18 #[.int .u32 n, .int .i64 k, .int .u64 s, .nilFunc, .slice sa sn sc, .slice ra rn rc] w fun e w' => An w e w' := by
  obtain ⟨wJ, hwJ⟩ : ∃ wJ, ((((((w.alloc (.cells (#[.int .u32 n] : Array Value) 22)).alloc (.cells (#[.int .i64 k] : Array Value) 3)).alloc (.cells (#[.int .u64 s] : Array Value) 28)).alloc (.cells (#[.slice sa sn sc] : Array Value) 23)).alloc (.cells z3 36)).alloc (.cells (iq n 0 (.slice sa sn sc)) 58)) = wJ := ⟨_, rfl⟩
  have hB : Below w.heap.size w wJ := by rw [← hwJ]; repeat first | exact Below.refl _ _ | refine bA ?_ (by first | exact Nat.le_refl _ | (simp only [World.size_alloc]; omega)) _
  have hsz : wJ.heap.size = w.heap.size + 6 := by rw [← hwJ]; simp
  have hh0 : wJ.heap[w.heap.size]? = some (.cells (#[.int .u32 n] : Array Value) 22 (0, 0)) := by
    rw [← hwJ]
    refine keep _ ?_
    refine keep _ ?_
    refine keep _ ?_
    refine keep _ ?_
    refine keep _ ?_
    have := at0 w (.cells (#[.int .u32 n] : Array Value) 22)
    simpa using this
  have hh1 : wJ.heap[w.heap.size + 1]? = some (.cells (#[.int .i64 k] : Array Value) 3 (0, 0)) := by
    rw [← hwJ]
    refine keep _ ?_
    refine keep _ ?_
    refine keep _ ?_
    refine keep _ ?_
    have := at0 (w.alloc (.cells (#[.int .u32 n] : Array Value) 22)) (.cells (#[.int .i64 k] : Array Value) 3)
    simpa using this
  have hh2 : wJ.heap[w.heap.size + 1 + 1]? = some (.cells (#[.int .u64 s] : Array Value) 28 (0, 0)) := by
    rw [← hwJ]
    refine keep _ ?_
    refine keep _ ?_
    refine keep _ ?_
    have := at0 ((w.alloc (.cells (#[.int .u32 n] : Array Value) 22)).alloc (.cells (#[.int .i64 k] : Array Value) 3)) (.cells (#[.int .u64 s] : Array Value) 28)
    simpa using this
  have hh4 : wJ.heap[w.heap.size + 1 + 1 + 1 + 1]? = some (.cells (z3) 36 (0, 0)) := by
    rw [← hwJ]
    refine keep _ ?_
    have := at0 ((((w.alloc (.cells (#[.int .u32 n] : Array Value) 22)).alloc (.cells (#[.int .i64 k] : Array Value) 3)).alloc (.cells (#[.int .u64 s] : Array Value) 28)).alloc (.cells (#[.slice sa sn sc] : Array Value) 23)) (.cells (z3) 36)
    simpa using this
  have hh5 : wJ.heap[w.heap.size + 1 + 1 + 1 + 1 + 1]? = some (.cells (iq n 0 (.slice sa sn sc)) 58 (0, 0)) := by
    rw [← hwJ]
    have := at0 (((((w.alloc (.cells (#[.int .u32 n] : Array Value) 22)).alloc (.cells (#[.int .i64 k] : Array Value) 3)).alloc (.cells (#[.int .u64 s] : Array Value) 28)).alloc (.cells (#[.slice sa sn sc] : Array Value) 23)).alloc (.cells (z3) 36)) (.cells (iq n 0 (.slice sa sn sc)) 58)
    simpa using this
  have HS : Hid (Sn18 w n k s sa sn sc wJ.drew) := Sn18.mk hh5 hh0 hh1 hh2
  have HK : Hid (∀ w3, Below wJ.drew.heap.size wJ.drew w3 → Sn18 w n k s sa sn sc w3) := fun w3 hC => Sn18.mk ((hC.block _ (by show _ < wJ.heap.size; omega)).trans hh5) ((hC.block _ (by show _ < wJ.heap.size; omega)).trans hh0) ((hC.block _ (by show _ < wJ.heap.size; omega)).trans hh1) ((hC.block _ (by show _ < wJ.heap.size; omega)).trans hh2)
  have HK2 : Hid (∀ w3, Below wJ.drew.heap.size wJ.drew w3 → ∀ a b c, Sn18 w n k s sa sn sc (((w3.setCell ⟨w.heap.size + 1 + 1 + 1 + 1, 0, none⟩ a).setCell ⟨w.heap.size + 1 + 1 + 1 + 1, 1, none⟩ b).setCell ⟨w.heap.size + 1 + 1 + 1 + 1, 2, none⟩ c)) := fun w3 hC a b c => Sn18.mk (keep3 hh5 (by omega) hC a b c) (keep3 hh0 (by omega) hC a b c) (keep3 hh1 (by omega) hC a b c) (keep3 hh2 (by omega) hC a b c)
  have HFin : Hid (∀ w3, Below wJ.drew.heap.size wJ.drew w3 → ∀ a b c, (((w3.setCell ⟨w.heap.size + 1 + 1 + 1 + 1, 0, none⟩ a).setCell ⟨w.heap.size + 1 + 1 + 1 + 1, 1, none⟩ b).setCell ⟨w.heap.size + 1 + 1 + 1 + 1, 2, none⟩ c).heap[w.heap.size + 1 + 1 + 1 + 1]? = some (.cells #[a, b, c] 36 (0, 0)) ∧ Below w.heap.size w (((w3.setCell ⟨w.heap.size + 1 + 1 + 1 + 1, 0, none⟩ a).setCell ⟨w.heap.size + 1 + 1 + 1 + 1, 1, none⟩ b).setCell ⟨w.heap.size + 1 + 1 + 1 + 1, 2, none⟩ c)) := fun w3 hC a b c => fin3 hh4 (by omega) hB hC a b c
  have Hz : Hid (∀ w3, Below wJ.drew.heap.size wJ.drew w3 → w3.heap[w.heap.size + 1 + 1 + 1 + 1]? = some (.cells z3 36 (0, 0))) := fun w3 hC => (hC.block _ (by show _ < wJ.heap.size; omega)).trans hh4
  have HJ := hide (judge_nil)
  have HZ := hide (hyper_any n k s)
  have HE := hide err69
  have HwJ := hide hwJ
  clear hB hsz hwJ hh0 hh1 hh2 hh4 hh5
  go_enter Tryz.func18, Tryz.ntmps18
  go_wp2_with (fail)
  rw [HwJ.out]
  go_region_held3 (Sn18 w n k s sa sn sc) ((first | with_reducible exact HS.out | with_reducible exact HK.out _ HC1.out | with_reducible exact HK.out _ HC3.out | with_reducible exact HK2.out _ HC3.out _ _ _)) ((first | (go_at_call 90; refine (HZ.out _).mono ?_; rintro e1 w1 ⟨p1, rfl, _, _, hB1⟩; have HC1 := hide hB1; clear hB1) | (go_at_call 69; refine (HE.out _ _ _).mono ?_; rintro e2 w2 ⟨rfl, rfl⟩) | (go_at_call 23; refine (HJ.out _ _ _ _ _ _ _ _ _ _ _ _).mono ?_; rintro e3 w3 ⟨rfl, hB3⟩; have HC3 : Hid (Below wJ.drew.heap.size wJ.drew w3) := (HC1.out.trans (hB3.mono HC1.out.size)); have hz3 := Hz.out _ HC3.out; have f0 : w3.frozen? ⟨w.heap.size + 1 + 1 + 1 + 1, 0, none⟩ = false := frozen_of_row _ _ _ _ _ hz3; have f1 : w3.frozen? ⟨w.heap.size + 1 + 1 + 1 + 1, 1, none⟩ = false := frozen_of_row _ _ _ _ _ hz3; have f2 : w3.frozen? ⟨w.heap.size + 1 + 1 + 1 + 1, 2, none⟩ = false := frozen_of_row _ _ _ _ _ hz3; have g0 : w3.cell? ⟨w.heap.size + 1 + 1 + 1 + 1, 0, none⟩ = some (.bool false) := (cell_of_row _ _ _ _ _ _ hz3).trans rfl; have g1 : w3.cell? ⟨w.heap.size + 1 + 1 + 1 + 1, 1, none⟩ = some (.int .u32 0) := (cell_of_row _ _ _ _ _ _ hz3).trans rfl; have g2 : w3.cell? ⟨w.heap.size + 1 + 1 + 1 + 1, 2, none⟩ = some (.int .i64 0) := (cell_of_row _ _ _ _ _ _ hz3).trans rfl; clear hz3 hB3)))
  all_goals have HE2 := hide (HFin.out w3 HC3.out (.bool false) (.int .u32 0) (.int .i64 0))
  all_goals clear HFin HC3 HK HK2 HS HJ HZ Hz HwJ
  all_goals go_wp2
  all_goals (refine bodyPost_ret (v := .tuple #[.agg z3, .int .i64 1]) ?_ rfl ?_)
  all_goals first | exact resn18 _ _ _ _ _ _ rfl rfl HE2.out.1 | exact ⟨rfl, HE2.out.2⟩
end Rn
end Go.Proofs.YteegfadhfimlcaaGreatDoor
