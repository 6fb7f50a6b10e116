import Derived.Test.YtgoigcpdfecfhaaGreatDoorCxE
namespace Go.Proofs.YtgoigcpdfecfhaaGreatDoor
namespace Au
open Go.RowKit
set_option linter.unusedVariables false
set_option maxRecDepth 8000
theorem resX13 (T : Array Value) (b : Nat) (a c d : Value) (W : World) (h10 : T[8]? = some (.pointer (some ⟨b, 0, none⟩))) (h : W.heap[b]? = some (.cells #[a, c, d] 35 (0, 0))) :
    (results Tryz.f13 T).run Tryz.prog W = .ok (.agg #[a, c, d]) W := by
  have h0 : W.cell? ⟨b, 0, none⟩ = some a := (cell_of_row _ _ _ _ _ _ h).trans rfl
  have h1 : W.cell? ⟨b, 1, none⟩ = some c := (cell_of_row _ _ _ _ _ _ h).trans rfl
  have h2 : W.cell? ⟨b, 2, none⟩ = some d := (cell_of_row _ _ _ _ _ _ h).trans rfl
  simp [results, Tryz.f13, go_sem, h10, h0, h1, h2]
set_option maxHeartbeats 4000000 in
theorem rcross_any (n m c sc : Nat) (a sa : Option Addr) (L : List T3) (s : Int) (S : Nat → Nat → Int) (s0 : 0 ≤ s) (s1 : s < 18446744073709551616) (hm1 : m = L.length) (hn : n ≤ 5000) (hm : m ≤ 140737488351232) (w : World) (hE : Row3 .u32 w a L) (hr : Row8 w sa n S) (hI : ∀ e ∈ L, e.1 < n ∧ e.2.1 < n) :
    Calls Tryz.prog 13 #[.int .u32 (n : Int), .int .u64 s, .slice a m c, .slice sa n sc] w fun e w' => ∃ o, e = .returned (.agg #[.bool (vR o), .int .u32 (vV o), .int .i64 (vK o)]) ∧ AX n L s S o ∧ Below w.heap.size w w' := by
  subst hm1
  obtain ⟨w0, hw0⟩ : ∃ w0, w.alloc (.cells z3 35) = w0 := ⟨_, rfl⟩
  have hB0 : Below w.heap.size w w0 := by rw [← hw0]; exact b1 _ _ _
  have hz0 : w0.heap[w.heap.size]? = some (.cells z3 35 (0, 0)) := by rw [← hw0]; exact at0 _ _
  have HC := hide (rcond_any n L.length c a L s s0 s1 rfl hn hm w0 (hE.on hB0 (Nat.le_refl _)) hI)
  have HR := hide (hr.on hB0 (Nat.le_refl _))
  have HB0 := hide hB0
  have HZ := hide hz0
  have HW := hide hw0
  clear hE hr hB0 hw0 hz0
  go_enter Tryz.func13, Tryz.ntmps13
  go_wp2_with (fail)
  rw [HW.out]
  refine HC.out.mono ?_
  rintro e1 w1 ⟨p, q, r, rfl, hG, hB⟩
  have HX : Hid (∀ W, Below w1.heap.size w1 W → Calls Tryz.prog 44 #[.int .u32 (n : Int), .slice sa n sc, .int .i64 0, .slice (some ⟨w0.heap.size + 1 + 1, 0, none⟩) n n] W fun e w' => ∃ o, e = .returned (.agg #[.bool (vR o), .int .u32 (vV o), .int .i64 (vK o)]) ∧ AX n L s S o ∧ (w'.heap[w.heap.size]? = some (.cells z3 35 (0, 0)) ∧ Below w.heap.size w w')) := fun W hW => by
    have h1 : Below w0.heap.size w0 W := hB.trans (hW.mono hB.size)
    refine (words18_any n sc (w0.heap.size + 1 + 1) sa S (crn (ins s) L) hn W (HR.out.on h1 (Nat.le_refl _)) (hG.on hW)).mono ?_
    rintro e2 w2 ⟨o, rfl, hl, hb⟩
    have h2 : Below w0.heap.size w0 w2 := h1.trans (hb.mono h1.size)
    exact ⟨o, rfl, hl.ext (fun v r => by simp), (h2.block _ (lt_of_some HZ.out)).trans HZ.out, HB0.out.trans (h2.mono HB0.out.size)⟩
  clear hG hB HC HR
  go_wp2_with (fail)
  refine (HX.out _ (by repeat (first | with_reducible exact Below.refl _ _ | with_reducible refine belowD ?_ | with_reducible refine bA2 ?_ _))).mono ?_
  rintro e2 w2 ⟨o, rfl, hA, hz, hb⟩
  have f0 : w2.frozen? ⟨w.heap.size, 0, none⟩ = false := frozen_of_row _ _ _ _ _ hz
  have f1 : w2.frozen? ⟨w.heap.size, 1, none⟩ = false := frozen_of_row _ _ _ _ _ hz
  have f2 : w2.frozen? ⟨w.heap.size, 2, none⟩ = false := frozen_of_row _ _ _ _ _ hz
  have g0 : w2.cell? ⟨w.heap.size, 0, none⟩ = some (.bool false) := (cell_of_row _ _ _ _ _ _ hz).trans rfl
  have g1 : w2.cell? ⟨w.heap.size, 1, none⟩ = some (.int .u32 0) := (cell_of_row _ _ _ _ _ _ hz).trans rfl
  have g2 : w2.cell? ⟨w.heap.size, 2, none⟩ = some (.int .i64 0) := (cell_of_row _ _ _ _ _ _ hz).trans rfl
  have HH := hide (And.intro hA hb)
  have HZ2 := hide hz
  clear hA hb hz HX HZ HB0
  go_wp2
  rw [sets3 HZ2.out rfl]
  refine bodyPost_ret (v := .agg #[.bool (vR o), .int .u32 (vV o), .int .i64 (vK o)]) ?_ rfl ⟨o, rfl, HH.out.1, below_setRow HH.out.2 (Nat.le_refl _) _⟩
  exact resX13 _ _ _ _ _ _ rfl (setRow_heap _ _ _ _ _ _ HZ2.out)
end Au
end Go.Proofs.YtgoigcpdfecfhaaGreatDoor
