import Derived.Test.YteegfadhfimlcaaGreatDoorNzB
namespace Go.Proofs.YteegfadhfimlcaaGreatDoor
namespace Rn
open Go.RowKit
set_option linter.unusedVariables false
set_option maxRecDepth 8000
abbrev Sn8 (w : World) (N A C : Nat) (sa : Option Addr) (sn sc : Nat) (W : World) : Prop := S7 (w.heap.size + 1 + 1 + 1) (N : Int) 0 (.slice sa sn sc) W ∧ W.cell? ⟨w.heap.size, 0, none⟩ = some (.int .u32 (N : Int)) ∧ W.cell? ⟨w.heap.size, 1, none⟩ = some (.int .u32 (A : Int)) ∧ W.cell? ⟨w.heap.size, 2, none⟩ = some (.int .u32 (C : Int))
theorem Sn8.mk {w : World} {N A C : Nat} {sa : Option Addr} {sn sc : Nat} {W : World} (hq : W.heap[w.heap.size + 1 + 1 + 1]? = some (.cells (iq (N : Int) 0 (.slice sa sn sc)) 58 (0, 0))) (h0 : W.heap[w.heap.size]? = some (.cells (Pe.rk (N : Int) (A : Int) (C : Int)) 27 (0, 0))) : Sn8 w N A C  sa sn sc W := ⟨S7.mk hq, (cell_of_row _ _ _ _ _ _ h0).trans rfl, (cell_of_row _ _ _ _ _ _ h0).trans rfl, (cell_of_row _ _ _ _ _ _ h0).trans rfl⟩
theorem resn8 (T : Array Value) (b : Nat) (a c d : Value) (W : World) (h10 : T[8]? = some (.pointer (some ⟨b, 0, none⟩))) {E : Int} (h11 : T[9]? = some (.int .i64 E)) (h : W.heap[b]? = some (.cells #[a, c, d] 36 (0, 0))) :
    (results Tryz.f8 T).run Tryz.prog W = .ok (.tuple #[.agg #[a, c, d], .int .i64 E]) W := by
  have h0 : W.cell? ⟨b, 0, none⟩ = some a := (cell_of_row _ _ _ _ _ _ h).trans rfl
  have h1 : W.cell? ⟨b, 1, none⟩ = some c := (cell_of_row _ _ _ _ _ _ h).trans rfl
  have h2 : W.cell? ⟨b, 2, none⟩ = some d := (cell_of_row _ _ _ _ _ _ h).trans rfl
  simp [results, Tryz.f8, go_sem, h10, h11, h0, h1, h2]
set_option maxHeartbeats 4000000 in
theorem nil8 (N A C : Nat) (hN : N < 4294967296) (hA : A < 4294967296) (sa : Option Addr) (sn sc : Nat) (ra : Option Addr) (rn rc : Nat) (w : World) : Calls Tryz.prog 8 #[.agg (Pe.rk (N : Int) (A : Int) (C : Int)), .nilFunc, .slice sa sn sc, .slice ra rn rc] w fun e w' => An w e w' := by
  obtain ⟨wJ, hwJ⟩ : ∃ wJ, ((((w.alloc (.cells ((Pe.rk (N : Int) (A : Int) (C : Int))) 27)).alloc (.cells (#[.slice sa sn sc] : Array Value) 23)).alloc (.cells z3 36)).alloc (.cells (iq (N : Int) 0 (.slice sa sn sc)) 58)) = wJ := ⟨_, rfl⟩
  have hB : Below w.heap.size w wJ := by rw [← hwJ]; repeat first | exact Below.refl _ _ | refine bA ?_ (by first | exact Nat.le_refl _ | (simp only [World.size_alloc]; omega)) _
  have hsz : wJ.heap.size = w.heap.size + 4 := by rw [← hwJ]; simp
  have hh0 : wJ.heap[w.heap.size]? = some (.cells ((Pe.rk (N : Int) (A : Int) (C : Int))) 27 (0, 0)) := by
    rw [← hwJ]
    refine keep _ ?_
    refine keep _ ?_
    refine keep _ ?_
    have := at0 w (.cells ((Pe.rk (N : Int) (A : Int) (C : Int))) 27)
    simpa using this
  have hh2 : wJ.heap[w.heap.size + 1 + 1]? = some (.cells (z3) 36 (0, 0)) := by
    rw [← hwJ]
    refine keep _ ?_
    have := at0 ((w.alloc (.cells ((Pe.rk (N : Int) (A : Int) (C : Int))) 27)).alloc (.cells (#[.slice sa sn sc] : Array Value) 23)) (.cells (z3) 36)
    simpa using this
  have hh3 : wJ.heap[w.heap.size + 1 + 1 + 1]? = some (.cells (iq (N : Int) 0 (.slice sa sn sc)) 58 (0, 0)) := by
    rw [← hwJ]
    have := at0 (((w.alloc (.cells ((Pe.rk (N : Int) (A : Int) (C : Int))) 27)).alloc (.cells (#[.slice sa sn sc] : Array Value) 23)).alloc (.cells (z3) 36)) (.cells (iq (N : Int) 0 (.slice sa sn sc)) 58)
    simpa using this
  have HS : Hid (Sn8 w N A C  sa sn sc wJ.drew) := Sn8.mk hh3 hh0
  have HK : Hid (∀ w3, Below wJ.drew.heap.size wJ.drew w3 → Sn8 w N A C  sa sn sc w3) := fun w3 hC => Sn8.mk ((hC.block _ (by show _ < wJ.heap.size; omega)).trans hh3) ((hC.block _ (by show _ < wJ.heap.size; omega)).trans hh0)
  have HK2 : Hid (∀ w3, Below wJ.drew.heap.size wJ.drew w3 → ∀ a b c, Sn8 w N A C  sa sn sc (((w3.setCell ⟨w.heap.size + 1 + 1, 0, none⟩ a).setCell ⟨w.heap.size + 1 + 1, 1, none⟩ b).setCell ⟨w.heap.size + 1 + 1, 2, none⟩ c)) := fun w3 hC a b c => Sn8.mk (keep3 hh3 (by omega) hC a b c) (keep3 hh0 (by omega) hC a b c)
  have HFin : Hid (∀ w3, Below wJ.drew.heap.size wJ.drew w3 → ∀ a b c, (((w3.setCell ⟨w.heap.size + 1 + 1, 0, none⟩ a).setCell ⟨w.heap.size + 1 + 1, 1, none⟩ b).setCell ⟨w.heap.size + 1 + 1, 2, none⟩ c).heap[w.heap.size + 1 + 1]? = some (.cells #[a, b, c] 36 (0, 0)) ∧ Below w.heap.size w (((w3.setCell ⟨w.heap.size + 1 + 1, 0, none⟩ a).setCell ⟨w.heap.size + 1 + 1, 1, none⟩ b).setCell ⟨w.heap.size + 1 + 1, 2, none⟩ c)) := fun w3 hC a b c => fin3 hh2 (by omega) hB hC a b c
  have Hz : Hid (∀ w3, Below wJ.drew.heap.size wJ.drew w3 → w3.heap[w.heap.size + 1 + 1]? = some (.cells z3 36 (0, 0))) := fun w3 hC => (hC.block _ (by show _ < wJ.heap.size; omega)).trans hh2
  have HJ := hide (judge_nil)
  have HZ := hide (set_any N A C hN hA)
  have HE := hide err38
  have HwJ := hide hwJ
  clear hB hsz hwJ hh0 hh2 hh3
  go_enter Tryz.func8, Tryz.ntmps8
  go_wp2_with (fail)
  rw [HwJ.out]
  go_region_held3 (Sn8 w N A C  sa sn sc) ((first | with_reducible exact HS.out | with_reducible exact HK.out _ HC1.out | with_reducible exact HK.out _ HC3.out | with_reducible exact HK2.out _ HC3.out _ _ _)) ((first | (go_at_call 39; refine (HZ.out _).mono ?_; rintro e1 w1 ⟨p1, E1, rfl, hB1⟩; have HC1 := hide hB1; clear hB1) | (go_at_call 38; refine (HE.out _ _ _).mono ?_; rintro e2 w2 ⟨rfl, rfl⟩) | (go_at_call 23; refine (HJ.out _ _ _ _ _ _ _ _ _ _ _ _).mono ?_; rintro e3 w3 ⟨rfl, hB3⟩; have HC3 : Hid (Below wJ.drew.heap.size wJ.drew w3) := (HC1.out.trans (hB3.mono HC1.out.size)); have hz3 := Hz.out _ HC3.out; have f0 : w3.frozen? ⟨w.heap.size + 1 + 1, 0, none⟩ = false := frozen_of_row _ _ _ _ _ hz3; have f1 : w3.frozen? ⟨w.heap.size + 1 + 1, 1, none⟩ = false := frozen_of_row _ _ _ _ _ hz3; have f2 : w3.frozen? ⟨w.heap.size + 1 + 1, 2, none⟩ = false := frozen_of_row _ _ _ _ _ hz3; have g0 : w3.cell? ⟨w.heap.size + 1 + 1, 0, none⟩ = some (.bool false) := (cell_of_row _ _ _ _ _ _ hz3).trans rfl; have g1 : w3.cell? ⟨w.heap.size + 1 + 1, 1, none⟩ = some (.int .u32 0) := (cell_of_row _ _ _ _ _ _ hz3).trans rfl; have g2 : w3.cell? ⟨w.heap.size + 1 + 1, 2, none⟩ = some (.int .i64 0) := (cell_of_row _ _ _ _ _ _ hz3).trans rfl; clear hz3 hB3)))
  all_goals have HE2 := hide (HFin.out w3 HC3.out (.bool false) (.int .u32 0) (.int .i64 0))
  all_goals clear HFin HC3 HK HK2 HS HJ HZ Hz HwJ
  all_goals go_wp2
  all_goals (refine bodyPost_ret (v := .tuple #[.agg z3, .int .i64 1]) ?_ rfl ?_)
  all_goals first | exact resn8 _ _ _ _ _ _ rfl rfl HE2.out.1 | exact ⟨rfl, HE2.out.2⟩
end Rn
end Go.Proofs.YteegfadhfimlcaaGreatDoor
