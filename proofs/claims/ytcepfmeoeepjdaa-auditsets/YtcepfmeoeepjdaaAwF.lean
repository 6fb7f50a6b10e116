import Derived.Test.YtcepfmeoeepjdaaAwE
namespace Go.Proofs.Ytcepfmeoeepjdaa
namespace Au
open Go.RowKit
set_option linter.unusedVariables false
set_option maxRecDepth 8000
abbrev S23 (b kb n A C : Nat) (ed sl : Value) (w : World) : Prop := w.cell? ⟨b, 0, none⟩ = some (.int .u32 (n : Int)) ∧ w.cell? ⟨b, 1, none⟩ = some (.int .i64 0) ∧ w.cell? ⟨b, 2, none⟩ = some ed ∧ w.cell? ⟨b, 3, none⟩ = some sl ∧ w.cell? ⟨b, 4, none⟩ = some (.bool false) ∧ w.cell? ⟨b, 5, none⟩ = some (.int .u32 0) ∧ w.cell? ⟨b, 6, none⟩ = some (.int .i64 0) ∧ w.cell? ⟨kb, 0, none⟩ = some (.int .u32 (n : Int)) ∧ w.cell? ⟨kb, 1, none⟩ = some (.int .u32 (A : Int)) ∧ w.cell? ⟨kb, 2, none⟩ = some (.int .u32 (C : Int))
theorem S23.mk {b kb n A C : Nat} {ed sl : Value} {w : World} (h : w.heap[b]? = some (.cells #[.int .u32 (n : Int), .int .i64 0, ed, sl, .bool false, .int .u32 0, .int .i64 0] 66 (0, 0))) (hk : w.heap[kb]? = some (.cells (rk n A C) 27 (0, 0))) : S23 b kb n A C ed sl w := by
  obtain ⟨a, b, c, d, e, f, g⟩ := S11.mk h
  obtain ⟨x, y, z⟩ := k3 hk
  exact ⟨a, b, c, d, e, f, g, x, y, z⟩
theorem judge60 (n rl rb kb sb sg sn sc Bt Bf g A C : Nat) (L : List T3) (f : Int) (S : Nat → Nat → Int) (U0 : Nat → Int) (hn : n < 4294967296) (hA : A < 4294967296) (hsn : sn ≤ 140737488351232) (hr : rl ≤ 5000) (hlen : L.length ≤ 140737488351232) (w : World)
    (hG : GU w rb rl U0) (hU0 : ∀ x, n ≤ x → x < rl → U0 x = 99) (hF : Fd w g Bt Bf L f) (hkb : w.heap[kb]? = some (.cells (rk n A C) 27 (0, 0))) (hsb : Boxed w sb 23 (.slice (some ⟨sg, 0, none⟩) sn sc)) (hS : SR w sg sn S)
    (r1 : rb ≠ g) (r2 : rb ≠ Bt) (r3 : rb ≠ Bf) (r4 : rb ≠ sb) (r5 : rb ≠ sg) (r7 : rb ≠ kb) :
    Calls Try.prog 38 #[.agg #[.int .u32 (n : Int), .int .i64 0, fe Bt Bf, .slice (some ⟨sg, 0, none⟩) sn sc, .bool false, .int .u32 0, .int .i64 0], .int .i64 (ck n A C), .slice (some ⟨rb, 0, none⟩) rl rl, .int .i64 1, .func (.func 60) #[] #[.pointer (some ⟨kb, 0, none⟩), .pointer (some ⟨sb, 0, none⟩)]] w fun e w' =>
      ∃ E o, e = .returned (.tuple #[.agg (vx E o), .int .i64 E]) ∧ E = dk (ck n A C) n sn rl 1 0 L f ∧ (E = 0 → Lm (PI S n (ah S n A C L)) o) ∧ Sp w' rb n rl ∧ Ch (fun k => k = rb) w w' := by
  have hGl := hG.lt
  have hFl := hF.lt
  have hsl := hsb.lt
  have hSl := hS.lt
  have hkl := lt_of_some hkb
  by_cases hm : ak (ck n A C) n sn rl 1 = 0
  · obtain ⟨h1, h2, h3⟩ := ak_zero hm
    rw [Nat.one_mul] at h3
    have ho : Ord n A C := by
      unfold ck at h1
      split at h1
      · assumption
      · cases h1
    have hB : Below w.heap.size w ((w.alloc (.cells (qc n 0 (fe Bt Bf) (.slice (some ⟨sg, 0, none⟩) sn sc) none) 66)).alloc (.cells z3 35)) := bA2 (b1 _ _ _) _
    have hq : Iq ((w.alloc (.cells (qc n 0 (fe Bt Bf) (.slice (some ⟨sg, 0, none⟩) sn sc) none) 66)).alloc (.cells z3 35)) w.heap.size n 0 (fe Bt Bf) (.slice (some ⟨sg, 0, none⟩) sn sc) none := keep _ (at0 _ _)
    have hl := look60 n rl rb kb sb sg sn sc w.heap.size Bt Bf g A C L f S U0 (by omega) hsn h3 (by have := ho.nums; omega) (by omega) hA hlen _ hq (hG.on hB) hU0 (hF.on (X := fun _ => False) (Ch.of hB) (fun h => h) (fun h => h) (fun h => h)) ((hB.block kb hkl).trans hkb) ((hB.block sb hsl).trans hsb) (hS.on (X := fun _ => False) (Ch.of hB) (fun h => h)) r1 r2 r3 r4 r5 (by omega) r7 (by omega) (by omega)
    have hj := judge_ok n 1 rl sn sc 60 rb Bt Bf (ck n A C) 0 (some ⟨sg, 0, none⟩) #[.pointer (some ⟨kb, 0, none⟩), .pointer (some ⟨sb, 0, none⟩)] (fun k => k = rb ∨ k = w.heap.size) (RI n rl rb A C L f S) (by omega) hn hsn hr hm w enters60 (by omega)
      (fun E o W W' h hk => ⟨h.1, h.2.1, by obtain ⟨H, hh⟩ := h.2.2; exact ⟨H, hh.of (hk rb hGl)⟩⟩) (by rw [Nat.one_mul]; exact hl)
    refine hj.mono ?_
    rintro e w' ⟨E, o, rfl, ⟨a, b, H, U, c, d, e⟩, hC⟩
    refine ⟨E, o, rfl, by rw [dk_eq hm]; exact a, b, ⟨U, c, e⟩, hC.mono (fun k hk h => by rcases h with h | h; exact h; omega)⟩
  · refine (judge_bad n 1 rl sn sc 60 rb Bt Bf (ck n A C) 0 (some ⟨sg, 0, none⟩) #[.pointer (some ⟨kb, 0, none⟩), .pointer (some ⟨sb, 0, none⟩)] (by omega) hn hsn hr hm w).mono ?_
    rintro e w' ⟨rfl, hB⟩
    refine ⟨_, none, by unfold vx; rw [if_neg hm], (dk_ne hm).symm, fun h => absurd h hm, ⟨U0, hG.on hB, hU0⟩, Ch.of hB⟩
theorem res23 (T : Array Value) (b : Nat) (a c d : Value) (W : World) (h10 : T[8]? = some (.pointer (some ⟨b, 0, none⟩))) {E : Int} (h11 : T[9]? = some (.int .i64 E)) (h : W.heap[b]? = some (.cells #[a, c, d] 35 (0, 0))) :
    (results Try.f23 T).run Try.prog W = .ok (.tuple #[.agg #[a, c, d], .int .i64 E]) W := by
  have h0 : W.cell? ⟨b, 0, none⟩ = some a := (cell_of_row _ _ _ _ _ _ h).trans rfl
  have h1 : W.cell? ⟨b, 1, none⟩ = some c := (cell_of_row _ _ _ _ _ _ h).trans rfl
  have h2 : W.cell? ⟨b, 2, none⟩ = some d := (cell_of_row _ _ _ _ _ _ h).trans rfl
  simp [results, Try.f23, go_sem, h10, h11, h0, h1, h2]
set_option maxHeartbeats 8000000 in
theorem indep_any (n rl rb sg sn sc Bt Bf g A C : Nat) (L : List T3) (f : Int) (S : Nat → Nat → Int) (U0 : Nat → Int) (hn : n < 4294967296) (hA : A < 4294967296) (hsn : sn ≤ 140737488351232) (hr : rl ≤ 5000) (hlen : L.length ≤ 140737488351232) (w : World)
    (hG : GU w rb rl U0) (hU0 : ∀ x, n ≤ x → x < rl → U0 x = 99) (hF : Fd w g Bt Bf L f) (hS : SR w sg sn S)
    (r1 : rb ≠ g) (r2 : rb ≠ Bt) (r3 : rb ≠ Bf) (r5 : rb ≠ sg) :
    Calls Try.prog 23 #[.agg (rk n A C), fe Bt Bf, .slice (some ⟨sg, 0, none⟩) sn sc, .slice (some ⟨rb, 0, none⟩) rl rl] w fun e w' =>
      ∃ E o, e = .returned (.tuple #[.agg (vx E o), .int .i64 E]) ∧ E = dk (ck n A C) n sn rl 1 0 L f ∧ (E = 0 → Lm (PI S n (ah S n A C L)) o) ∧ Sp w' rb n rl ∧ Ch (fun k => k = rb) w w' := by
  have hGl := hG.lt
  obtain ⟨wJ, hwJ⟩ : ∃ wJ, ((((w.alloc (.cells (rk n A C) 27)).alloc (.cells #[.slice (some ⟨sg, 0, none⟩) sn sc] 23)).alloc (.cells z3 35)).alloc (.cells #[.int .u32 (n : Int), .int .i64 0, fe Bt Bf, .slice (some ⟨sg, 0, none⟩) sn sc, .bool false, .int .u32 0, .int .i64 0] 66)) = wJ := ⟨_, rfl⟩
  have hB : Below w.heap.size w wJ := by rw [← hwJ]; exact bA2 (bA2 (bA2 (b1 _ _ _) _) _) _
  have hsz : wJ.heap.size = w.heap.size + 4 := by rw [← hwJ]; simp
  have hkb : wJ.heap[w.heap.size]? = some (.cells (rk n A C) 27 (0, 0)) := by rw [← hwJ]; exact keep _ (keep _ (keep _ (at0 _ _)))
  have hsb : Boxed wJ (w.heap.size + 1) 23 (.slice (some ⟨sg, 0, none⟩) sn sc) := by
    rw [← hwJ]
    have h := ((Boxed.new (w.alloc (.cells (rk n A C) 27)) 23 (.slice (some ⟨sg, 0, none⟩) sn sc)).alloc (.cells z3 35)).alloc (.cells #[.int .u32 (n : Int), .int .i64 0, fe Bt Bf, .slice (some ⟨sg, 0, none⟩) sn sc, .bool false, .int .u32 0, .int .i64 0] 66)
    rw [World.size_alloc] at h
    exact h
  have hz : wJ.heap[w.heap.size + 1 + 1]? = some (.cells z3 35 (0, 0)) := by
    rw [← hwJ]
    refine keep _ ?_
    have := at0 ((w.alloc (.cells (rk n A C) 27)).alloc (.cells #[.slice (some ⟨sg, 0, none⟩) sn sc] 23)) (.cells z3 35)
    rw [World.size_alloc, World.size_alloc] at this
    exact this
  have hq : wJ.heap[w.heap.size + 1 + 1 + 1]? = some (.cells #[.int .u32 (n : Int), .int .i64 0, fe Bt Bf, .slice (some ⟨sg, 0, none⟩) sn sc, .bool false, .int .u32 0, .int .i64 0] 66 (0, 0)) := by
    rw [← hwJ]
    have := at0 (((w.alloc (.cells (rk n A C) 27)).alloc (.cells #[.slice (some ⟨sg, 0, none⟩) sn sc] 23)).alloc (.cells z3 35)) (.cells #[.int .u32 (n : Int), .int .i64 0, fe Bt Bf, .slice (some ⟨sg, 0, none⟩) sn sc, .bool false, .int .u32 0, .int .i64 0] 66)
    rw [World.size_alloc, World.size_alloc, World.size_alloc] at this
    exact this
  have HJ : Hid (∀ W, Below wJ.heap.size wJ W → Calls Try.prog 38 #[.agg #[.int .u32 (n : Int), .int .i64 0, fe Bt Bf, .slice (some ⟨sg, 0, none⟩) sn sc, .bool false, .int .u32 0, .int .i64 0], .int .i64 (ck n A C), .slice (some ⟨rb, 0, none⟩) rl rl, .int .i64 1, .func (.func 60) #[] #[.pointer (some ⟨w.heap.size, 0, none⟩), .pointer (some ⟨w.heap.size + 1, 0, none⟩)]] W fun e w' =>
      ∃ E o, e = .returned (.tuple #[.agg (vx E o), .int .i64 E]) ∧ E = dk (ck n A C) n sn rl 1 0 L f ∧ (E = 0 → Lm (PI S n (ah S n A C L)) o) ∧ Sp w' rb n rl ∧ Ch (fun k => k = rb) W w') := fun W hW => by
    have h1 : Below w.heap.size w W := hB.trans (hW.mono hB.size)
    exact judge60 n rl rb w.heap.size (w.heap.size + 1) sg sn sc Bt Bf g A C L f S U0 hn hA hsn hr hlen W (hG.on h1) hU0 (hF.on (X := fun _ => False) (Ch.of h1) (fun h => h) (fun h => h) (fun h => h)) ((hW.block _ (by omega)).trans hkb) ((hW.block _ (by omega)).trans hsb) (hS.on (X := fun _ => False) (Ch.of h1) (fun h => h)) r1 r2 r3 (by omega) r5 (by omega)
  have HKg : Hid (∀ W, Ch (fun k => k = rb) wJ W → S23 (w.heap.size + 1 + 1 + 1) w.heap.size n A C (fe Bt Bf) (.slice (some ⟨sg, 0, none⟩) sn sc) W) := fun W hC => S23.mk ((hC.block _ (by omega) (by omega)).trans hq) ((hC.block _ (by omega) (by omega)).trans hkb)
  have HK2 : Hid (∀ W, Ch (fun k => k = rb) wJ W → ∀ a b c, S23 (w.heap.size + 1 + 1 + 1) w.heap.size n A C (fe Bt Bf) (.slice (some ⟨sg, 0, none⟩) sn sc) (((W.setCell ⟨w.heap.size + 1 + 1, 0, none⟩ a).setCell ⟨w.heap.size + 1 + 1, 1, none⟩ b).setCell ⟨w.heap.size + 1 + 1, 2, none⟩ c)) := fun W hC a b c => S23.mk ((Below.heap_setCell _ _ _ _ (by simp)).trans ((Below.heap_setCell _ _ _ _ (by simp)).trans ((Below.heap_setCell _ _ _ _ (by simp)).trans ((hC.block _ (by omega) (by omega)).trans hq)))) ((Below.heap_setCell _ _ _ _ (by simp; omega)).trans ((Below.heap_setCell _ _ _ _ (by simp; omega)).trans ((Below.heap_setCell _ _ _ _ (by simp; omega)).trans ((hC.block _ (by omega) (by omega)).trans hkb))))
  have HFin : Hid (∀ E o w3, Ch (fun k => k = rb) wJ w3 → E = dk (ck n A C) n sn rl 1 0 L f ∧ (E = 0 → Lm (PI S n (ah S n A C L)) o) ∧ Sp w3 rb n rl → ∀ a b c, (((w3.setCell ⟨w.heap.size + 1 + 1, 0, none⟩ a).setCell ⟨w.heap.size + 1 + 1, 1, none⟩ b).setCell ⟨w.heap.size + 1 + 1, 2, none⟩ c).heap[w.heap.size + 1 + 1]? = some (.cells #[a, b, c] 35 (0, 0)) ∧ E = dk (ck n A C) n sn rl 1 0 L f ∧ (E = 0 → Lm (PI S n (ah S n A C L)) o) ∧ Sp (((w3.setCell ⟨w.heap.size + 1 + 1, 0, none⟩ a).setCell ⟨w.heap.size + 1 + 1, 1, none⟩ b).setCell ⟨w.heap.size + 1 + 1, 2, none⟩ c) rb n rl ∧ Ch (fun k => k = rb) w (((w3.setCell ⟨w.heap.size + 1 + 1, 0, none⟩ a).setCell ⟨w.heap.size + 1 + 1, 1, none⟩ b).setCell ⟨w.heap.size + 1 + 1, 2, none⟩ c)) := fun E o w3 hC h a b c => by
    have hz3 : w3.heap[w.heap.size + 1 + 1]? = some (.cells z3 35 (0, 0)) := (hC.block _ (by omega) (by omega)).trans hz
    have hC1 : Ch (fun k => k = rb) w w3 := (Ch.of hB).trans hC
    rw [sets3 hz3 rfl]
    exact ⟨setRow_heap _ _ _ _ _ _ hz3, h.1, h.2.1, h.2.2.of (setRow_other _ _ _ _ (by omega)), hC1.row _ (Or.inr (by omega))⟩
  have HZ := hide (set_any n A C hn hA)
  have HEr := hide errof_any
  have Hz : Hid (∀ w3, Ch (fun k => k = rb) wJ w3 → w3.heap[w.heap.size + 1 + 1]? = some (.cells z3 35 (0, 0))) := fun w3 hC => (hC.block _ (by omega) (by omega)).trans hz
  have HwJ := hide hwJ
  clear hG hU0 hF hS hB hz hsb hkb hsz hwJ hq
  go_enter Try.func23, Try.ntmps23
  go_wp2_with (fail)
  rw [HwJ.out]
  go_region_held3 (S23 (w.heap.size + 1 + 1 + 1) w.heap.size n A C (fe Bt Bf) (.slice (some ⟨sg, 0, none⟩) sn sc)) ((first | with_reducible exact HKg.out _ HC3.out | with_reducible exact HK2.out _ HC3.out _ _ _ | with_reducible exact HKg.out _ (Ch.of HB1.out) | with_reducible exact HKg.out _ (Ch.drew (Ch.refl _ _)))) ((first
    | (go_at_call 59; refine (HZ.out _).mono ?_; rintro e1 w1 ⟨⟨p1, rfl⟩, hB1⟩; have HB1 : Hid (Below wJ.heap.size wJ w1) := (belowD (Below.refl _ wJ)).trans hB1; clear hB1)
    | (go_at_call 58; refine (HEr.out _ _ _).mono ?_; rintro e1 w1' ⟨rfl, rfl⟩)
    | (go_at_call 38; refine (HJ.out _ HB1.out).mono ?_; rintro e3 w3 ⟨E, o, rfl, h1, h2, h3, hC3'⟩; have hC3 : Ch (fun k => k = rb) wJ w3 := (Ch.of HB1.out).trans hC3'; obtain ⟨b0, x0, y0, hv, _, _⟩ := vx_shape E o; have HV := hide hv; rw [hv]; clear hv; have hz3 := Hz.out _ hC3; obtain ⟨g0, g1, g2, f0, f1, f2⟩ := z35 hz3; have HC3 := hide hC3; have HH := hide (And.intro h1 (And.intro h2 h3)); clear hC3 hC3' hz3 h1 h2 h3)))
  all_goals have HE := hide (HFin.out E o w3 HC3.out HH.out (.bool b0) (.int .u32 x0) (.int .i64 y0))
  all_goals clear HFin HH HC3 HKg HK2 HJ HZ HEr Hz HwJ HB1
  all_goals go_wp2
  all_goals (refine bodyPost_ret (v := .tuple #[.agg #[.bool b0, .int .u32 x0, .int .i64 y0], .int .i64 E]) ?_ rfl ?_)
  all_goals first | exact res23 _ _ _ _ _ _ rfl rfl HE.out.1 | exact ⟨E, o, by rw [HV.out], HE.out.2⟩
end Au
end Go.Proofs.Ytcepfmeoeepjdaa
