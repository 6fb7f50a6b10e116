import Derived.Test.YtgoigcpdfecfhaaGreatDoorCxC
namespace Go.Proofs.YtgoigcpdfecfhaaGreatDoor
namespace Au
open Go.RowKit
set_option linter.unusedVariables false
set_option maxRecDepth 8000
theorem resX8 (T : Array Value) (b : Nat) (a c d : Value) (W : World) (h10 : T[10]? = some (.pointer (some ⟨b, 0, none⟩))) {E : Int} (h11 : T[11]? = some (.int .i64 E)) (h : W.heap[b]? = some (.cells #[a, c, d] 35 (0, 0))) :
    (results Tryz.f8 T).run Tryz.prog W = .ok (.tuple #[.agg #[a, c, d], .int .i64 E]) W := by
  have h0 : W.cell? ⟨b, 0, none⟩ = some a := (cell_of_row _ _ _ _ _ _ h).trans rfl
  have h1 : W.cell? ⟨b, 1, none⟩ = some c := (cell_of_row _ _ _ _ _ _ h).trans rfl
  have h2 : W.cell? ⟨b, 2, none⟩ = some d := (cell_of_row _ _ _ _ _ _ h).trans rfl
  simp [results, Tryz.f8, go_sem, h10, h11, h0, h1, h2]
abbrev SX8 (b eb n : Nat) (s : Int) (ed sl : Value) (w : World) : Prop := w.cell? ⟨b, 0, none⟩ = some (.int .u32 (n : Int)) ∧ w.cell? ⟨b, 1, none⟩ = some (.int .i64 0) ∧ w.cell? ⟨b, 2, none⟩ = some ed ∧ w.cell? ⟨b, 3, none⟩ = some sl ∧ w.cell? ⟨b, 4, none⟩ = some (.bool false) ∧ w.cell? ⟨b, 5, none⟩ = some (.int .u32 0) ∧ w.cell? ⟨b, 6, none⟩ = some (.int .i64 0) ∧ w.cell? ⟨eb, 0, none⟩ = some (.int .u64 s)
theorem SX8.mk {b eb n : Nat} {s : Int} {ed sl : Value} {w : World} (h : w.heap[b]? = some (.cells #[.int .u32 (n : Int), .int .i64 0, ed, sl, .bool false, .int .u32 0, .int .i64 0] 69 (0, 0))) (hn : Boxed w eb 28 (.int .u64 s)) : SX8 b eb n s ed sl w := by
  obtain ⟨a, b, c, d, e, f, g⟩ := S11.mk h
  exact ⟨a, b, c, d, e, f, g, hn.cell⟩
set_option maxHeartbeats 8000000 in
theorem cross_any (n rl rb sg sn sc Bt Bf g : Nat) (L : List T3) (f s : Int) (S : Nat → Nat → Int) (U0 : Nat → Int) (s0 : 0 ≤ s) (s1 : s < 18446744073709551616) (hn : n < 4294967296) (hsn : sn ≤ 140737488351232) (hr : rl ≤ 5000) (hlen : L.length ≤ 140737488351232) (w : World)
    (hG : GU w rb rl U0) (hU0 : ∀ x, n ≤ x → x < rl → U0 x = 99) (hF : Fd w g Bt Bf L f) (hS : SR w sg sn S) (hT : Tb w)
    (r1 : rb ≠ g) (r2 : rb ≠ Bt) (r3 : rb ≠ Bf) (r5 : rb ≠ sg) (r8 : 2 ≤ rb) :
    Calls Tryz.prog 8 #[.int .u32 (n : Int), .int .u64 s, fe Bt Bf, .slice (some ⟨sg, 0, none⟩) sn sc, .slice (some ⟨rb, 0, none⟩) rl rl] w fun e w' =>
      ∃ E o, e = .returned (.tuple #[.agg (vx E o), .int .i64 E]) ∧ E = dk (sz n) n sn rl 1 0 L f ∧ (E = 0 → AX n L s S o) ∧ Sp w' rb n rl ∧ Ch (fun k => k = rb) w w' := by
  have hGl := hG.lt
  obtain ⟨wJ, hwJ⟩ : ∃ wJ, ((((w.alloc (.cells #[.int .u64 s] 28)).alloc (.cells #[.slice (some ⟨sg, 0, none⟩) sn sc] 23)).alloc (.cells z3 35)).alloc (.cells #[.int .u32 (n : Int), .int .i64 0, fe Bt Bf, .slice (some ⟨sg, 0, none⟩) sn sc, .bool false, .int .u32 0, .int .i64 0] 69)) = wJ := ⟨_, rfl⟩
  have hB : Below w.heap.size w wJ := by rw [← hwJ]; exact bA2 (bA2 (bA2 (b1 _ _ _) _) _) _
  have hsz : wJ.heap.size = w.heap.size + 4 := by rw [← hwJ]; simp
  have hkb : Boxed wJ w.heap.size 28 (.int .u64 s) := by rw [← hwJ]; exact keep _ (keep _ (keep _ (at0 _ _)))
  have hsb : Boxed wJ (w.heap.size + 1) 23 (.slice (some ⟨sg, 0, none⟩) sn sc) := by
    rw [← hwJ]
    have h := ((Boxed.new (w.alloc (.cells #[.int .u64 s] 28)) 23 (.slice (some ⟨sg, 0, none⟩) sn sc)).alloc (.cells z3 35)).alloc (.cells #[.int .u32 (n : Int), .int .i64 0, fe Bt Bf, .slice (some ⟨sg, 0, none⟩) sn sc, .bool false, .int .u32 0, .int .i64 0] 69)
    rw [World.size_alloc] at h
    exact h
  have hz : wJ.heap[w.heap.size + 1 + 1]? = some (.cells z3 35 (0, 0)) := by
    rw [← hwJ]
    refine keep _ ?_
    have := at0 ((w.alloc (.cells #[.int .u64 s] 28)).alloc (.cells #[.slice (some ⟨sg, 0, none⟩) sn sc] 23)) (.cells z3 35)
    rw [World.size_alloc, World.size_alloc] at this
    exact this
  have hq : wJ.heap[w.heap.size + 1 + 1 + 1]? = some (.cells #[.int .u32 (n : Int), .int .i64 0, fe Bt Bf, .slice (some ⟨sg, 0, none⟩) sn sc, .bool false, .int .u32 0, .int .i64 0] 69 (0, 0)) := by
    rw [← hwJ]
    have := at0 (((w.alloc (.cells #[.int .u64 s] 28)).alloc (.cells #[.slice (some ⟨sg, 0, none⟩) sn sc] 23)).alloc (.cells z3 35)) (.cells #[.int .u32 (n : Int), .int .i64 0, fe Bt Bf, .slice (some ⟨sg, 0, none⟩) sn sc, .bool false, .int .u32 0, .int .i64 0] 69)
    rw [World.size_alloc, World.size_alloc, World.size_alloc] at this
    exact this
  have HJ : Hid (∀ W, Below wJ.heap.size wJ W → Calls Tryz.prog 31 #[.agg #[.int .u32 (n : Int), .int .i64 0, fe Bt Bf, .slice (some ⟨sg, 0, none⟩) sn sc, .bool false, .int .u32 0, .int .i64 0], .int .i64 (sz n), .slice (some ⟨rb, 0, none⟩) rl rl, .int .i64 1, .func (.func 34) #[] #[.pointer (some ⟨w.heap.size, 0, none⟩), .pointer (some ⟨w.heap.size + 1, 0, none⟩)]] W fun e w' =>
      ∃ E o, e = .returned (.tuple #[.agg (vx E o), .int .i64 E]) ∧ E = dk (sz n) n sn rl 1 0 L f ∧ (E = 0 → AX n L s S o) ∧ Sp w' rb n rl ∧ Ch (fun k => k = rb) W w') := fun W hW => by
    have h1 : Below w.heap.size w W := hB.trans (hW.mono hB.size)
    exact judge34 n rl rb w.heap.size (w.heap.size + 1) sg sn sc Bt Bf g L f s S U0 s0 s1 hn hsn hr hlen W (hG.on h1) hU0 (hF.on (X := fun _ => False) (Ch.of h1) (fun h => h) (fun h => h) (fun h => h)) ((hW.block _ (by omega)).trans hsb) ((hW.block _ (by omega)).trans hkb) (hS.on (X := fun _ => False) (Ch.of h1) (fun h => h)) (hT.b h1) r1 r2 r3 (by omega) r5 (by omega) r8
  have HKg : Hid (∀ W, Ch (fun k => k = rb) wJ W → SX8 (w.heap.size + 1 + 1 + 1) w.heap.size n s (fe Bt Bf) (.slice (some ⟨sg, 0, none⟩) sn sc) W) := fun W hC => SX8.mk ((hC.block _ (by omega) (by omega)).trans hq) ((hC.block _ (by omega) (by omega)).trans hkb)
  have HK2 : Hid (∀ W, Ch (fun k => k = rb) wJ W → ∀ a b c, SX8 (w.heap.size + 1 + 1 + 1) w.heap.size n s (fe Bt Bf) (.slice (some ⟨sg, 0, none⟩) sn sc) (((W.setCell ⟨w.heap.size + 1 + 1, 0, none⟩ a).setCell ⟨w.heap.size + 1 + 1, 1, none⟩ b).setCell ⟨w.heap.size + 1 + 1, 2, none⟩ c)) := fun W hC a b c => SX8.mk ((Below.heap_setCell _ _ _ _ (by simp)).trans ((Below.heap_setCell _ _ _ _ (by simp)).trans ((Below.heap_setCell _ _ _ _ (by simp)).trans ((hC.block _ (by omega) (by omega)).trans hq)))) ((Below.heap_setCell _ _ _ _ (by simp; omega)).trans ((Below.heap_setCell _ _ _ _ (by simp; omega)).trans ((Below.heap_setCell _ _ _ _ (by simp; omega)).trans ((hC.block _ (by omega) (by omega)).trans hkb))))
  have HFin : Hid (∀ E o w3, Ch (fun k => k = rb) wJ w3 → E = dk (sz n) n sn rl 1 0 L f ∧ (E = 0 → AX n L s S o) ∧ Sp w3 rb n rl → ∀ a b c, (((w3.setCell ⟨w.heap.size + 1 + 1, 0, none⟩ a).setCell ⟨w.heap.size + 1 + 1, 1, none⟩ b).setCell ⟨w.heap.size + 1 + 1, 2, none⟩ c).heap[w.heap.size + 1 + 1]? = some (.cells #[a, b, c] 35 (0, 0)) ∧ E = dk (sz n) n sn rl 1 0 L f ∧ (E = 0 → AX n L s S o) ∧ Sp (((w3.setCell ⟨w.heap.size + 1 + 1, 0, none⟩ a).setCell ⟨w.heap.size + 1 + 1, 1, none⟩ b).setCell ⟨w.heap.size + 1 + 1, 2, none⟩ c) rb n rl ∧ Ch (fun k => k = rb) w (((w3.setCell ⟨w.heap.size + 1 + 1, 0, none⟩ a).setCell ⟨w.heap.size + 1 + 1, 1, none⟩ b).setCell ⟨w.heap.size + 1 + 1, 2, none⟩ c)) := fun E o w3 hC h a b c => by
    have hz3 : w3.heap[w.heap.size + 1 + 1]? = some (.cells z3 35 (0, 0)) := (hC.block _ (by omega) (by omega)).trans hz
    have hC1 : Ch (fun k => k = rb) w w3 := (Ch.of hB).trans hC
    rw [sets3 hz3 rfl]
    exact ⟨setRow_heap _ _ _ _ _ _ hz3, h.1, h.2.1, h.2.2.of (setRow_other _ _ _ _ (by omega)), hC1.row _ (Or.inr (by omega))⟩
  have HZ := hide (cond_any n s)
  have HEr := hide err32
  have Hz : Hid (∀ w3, Ch (fun k => k = rb) wJ w3 → w3.heap[w.heap.size + 1 + 1]? = some (.cells z3 35 (0, 0))) := fun w3 hC => (hC.block _ (by omega) (by omega)).trans hz
  have HwJ := hide hwJ
  clear hG hU0 hF hS hT hB hz hsb hkb hsz hwJ hq
  go_enter Tryz.func8, Tryz.ntmps8
  go_wp2_with (fail)
  rw [HwJ.out]
  go_region_held3 (SX8 (w.heap.size + 1 + 1 + 1) w.heap.size n s (fe Bt Bf) (.slice (some ⟨sg, 0, none⟩) sn sc)) ((first | with_reducible exact HKg.out _ HC3.out | with_reducible exact HK2.out _ HC3.out _ _ _ | with_reducible exact HKg.out _ (Ch.of HB1.out) | with_reducible exact HKg.out _ (Ch.drew (Ch.refl _ _)))) ((first
    | (go_at_call 33; refine (HZ.out _).mono ?_; rintro e1 w1 ⟨⟨p1, rfl⟩, hB1⟩; have HB1 : Hid (Below wJ.heap.size wJ w1) := (belowD (Below.refl _ wJ)).trans hB1; clear hB1)
    | (go_at_call 32; refine (HEr.out _ _ _).mono ?_; rintro e1 w1' ⟨rfl, rfl⟩)
    | (go_at_call 31; refine (HJ.out _ HB1.out).mono ?_; rintro e3 w3 ⟨E, o, rfl, h1, h2, h3, hC3'⟩; have hC3 : Ch (fun k => k = rb) wJ w3 := (Ch.of HB1.out).trans hC3'; obtain ⟨b0, x0, y0, hv, _, _⟩ := vx_shape E o; have HV := hide hv; rw [hv]; clear hv; have hz3 := Hz.out _ hC3; obtain ⟨g0, g1, g2, f0, f1, f2⟩ := z35 hz3; have HC3 := hide hC3; have HH := hide (And.intro h1 (And.intro h2 h3)); clear hC3 hC3' hz3 h1 h2 h3)))
  all_goals have HE := hide (HFin.out E o w3 HC3.out HH.out (.bool b0) (.int .u32 x0) (.int .i64 y0))
  all_goals clear HFin HH HC3 HKg HK2 HJ HZ HEr Hz HwJ HB1
  all_goals go_wp2
  all_goals (refine bodyPost_ret (v := .tuple #[.agg #[.bool b0, .int .u32 x0, .int .i64 y0], .int .i64 E]) ?_ rfl ?_)
  all_goals first | exact resX8 _ _ _ _ _ _ rfl rfl HE.out.1 | exact ⟨E, o, by rw [HV.out], HE.out.2⟩
end Au
end Go.Proofs.YtgoigcpdfecfhaaGreatDoor
