import Derived.Test.YtcepfmeoeepjdaaDsG
import Derived.Test.YtcepfmeoeepjdaaAuP
namespace Go.Proofs.Ytcepfmeoeepjdaa
namespace Au
open Go.RowKit
set_option linter.unusedVariables false
set_option maxRecDepth 8000
theorem judge74 (n rl rb cb sb sg sn sc Bt Bf g s : Nat) (made kd : Int) (L : List T3) (f : Int) (S : Nat → Nat → Int) (U0 : Nat → Int) (hn : n < 4294967296) (hsn : sn ≤ 140737488351232) (hr : rl ≤ 5000) (hlen : L.length ≤ 140737488351232) (hsr : ∀ v, v < sn → ∀ i, i < 8 → 0 ≤ S v i ∧ S v i < 18446744073709551616) (hmd : made = 0 → s < n ∧ kd ≠ 3) (w : World)
    (hG : GU w rb rl U0) (hU0 : ∀ x, n ≤ x → x < rl → U0 x = 99) (hF : Fd w g Bt Bf L f) (hcb : Boxed w cb 22 (.int .u32 (s : Int))) (hsb : Boxed w sb 23 (.slice (some ⟨sg, 0, none⟩) sn sc)) (hS : SR w sg sn S)
    (r1 : rb ≠ g) (r2 : rb ≠ Bt) (r3 : rb ≠ Bf) (r4 : sb ≠ rb) (r5 : sg ≠ rb) :
    Calls Try.prog 38 #[.agg #[.int .u32 (n : Int), .int .i64 kd, fe Bt Bf, .slice (some ⟨sg, 0, none⟩) sn sc, .bool false, .int .u32 0, .int .i64 0], .int .i64 made, .slice (some ⟨rb, 0, none⟩) rl rl, .int .i64 1, .func (.func 74) #[] #[.pointer (some ⟨cb, 0, none⟩), .pointer (some ⟨sb, 0, none⟩)]] w fun e w' =>
      ∃ E o, e = .returned (.tuple #[.agg (vx E o), .int .i64 E]) ∧ E = dk made n sn rl 1 kd L f ∧ (E = 0 → Lm (PDs kd S s n L) o) ∧ Sp w' rb n rl ∧ Ch (fun k => k = rb) w w' := by
  have hGl := hG.lt
  have hFl := hF.lt
  have hsl := hsb.lt
  have hSl := hS.lt
  have hcl := hcb.lt
  by_cases hm : ak made n sn rl 1 = 0
  · obtain ⟨h1, h2, h3⟩ := ak_zero hm
    rw [Nat.one_mul] at h3
    have hB : Below w.heap.size w ((w.alloc (.cells (qc n kd (fe Bt Bf) (.slice (some ⟨sg, 0, none⟩) sn sc) none) 66)).alloc (.cells z3 35)) := bA (b1 _ _ _) (by simp) _
    have hq : Iq ((w.alloc (.cells (qc n kd (fe Bt Bf) (.slice (some ⟨sg, 0, none⟩) sn sc) none) 66)).alloc (.cells z3 35)) w.heap.size n kd (fe Bt Bf) (.slice (some ⟨sg, 0, none⟩) sn sc) none := keep _ (at0 _ _)
    have hl := look74 n rl rb cb sb sg sn sc w.heap.size Bt Bf g s kd L f S U0 (hmd h1).2 (hmd h1).1 (by omega) (fun v hv => hsr v (by omega)) h3 (by omega) hlen _ hq (hG.on hB) hU0 (hF.on (X := fun _ => False) (Ch.of hB) (fun h => h) (fun h => h) (fun h => h)) ((hB.block cb hcl).trans hcb) ((hB.block sb hsl).trans hsb) (hS.on (X := fun _ => False) (Ch.of hB) (fun h => h)) r1 r2 r3 r4 r5 (by omega) (by omega) (by omega) (by omega) (by omega) (by omega)
    have hj := judge_ok n 1 rl sn sc 74 rb Bt Bf made kd (some ⟨sg, 0, none⟩) #[.pointer (some ⟨cb, 0, none⟩), .pointer (some ⟨sb, 0, none⟩)] (fun k => k = rb ∨ k = w.heap.size) (RDs n rl rb s kd L f S) (by omega) hn hsn hr hm w enters74 (by omega)
      (fun E o W W' h hk => ⟨h.1, h.2.1, h.2.2.of (hk rb hGl)⟩) (by rw [Nat.one_mul]; exact hl)
    refine hj.mono ?_
    rintro e w' ⟨E, o, rfl, ⟨a, b, U, c, e⟩, hC⟩
    refine ⟨E, o, rfl, by rw [dk_eq hm]; exact a, b, ⟨U, c, e⟩, hC.mono (fun k hk h => by rcases h with h | h; exact h; omega)⟩
  · refine (judge_bad n 1 rl sn sc 74 rb Bt Bf made kd (some ⟨sg, 0, none⟩) #[.pointer (some ⟨cb, 0, none⟩), .pointer (some ⟨sb, 0, none⟩)] (by omega) hn hsn hr hm w).mono ?_
    rintro e w' ⟨rfl, hB⟩
    refine ⟨_, none, by unfold vx; rw [if_neg hm], (dk_ne hm).symm, fun h => absurd h hm, ⟨U0, hG.on hB, hU0⟩, Ch.of hB⟩
/-- What the program's constructor says. -/
def md (n s : Nat) (kd : Int) : Int := if kd ≠ 1 ∧ kd ≠ 2 then 2 else sr n [s]
theorem md_zero {n s : Nat} {kd : Int} (h : md n s kd = 0) : s < n ∧ kd ≠ 3 := by
  unfold md sr at h
  split at h
  · omega
  · split at h
    · exact absurd h (by assumption)
    · split at h
      · omega
      · rename_i h1 h2 h3
        refine ⟨Nat.lt_of_not_le (fun q => h3 (.inr (.inr ⟨s, by simp, q⟩))), by omega⟩
theorem z35d {w : World} {b : Nat} (h : w.heap[b]? = some (.cells z3 35 (0, 0))) : w.cell? ⟨b, 0, none⟩ = some (.bool false) ∧ w.cell? ⟨b, 1, none⟩ = some (.int .u32 0) ∧ w.cell? ⟨b, 2, none⟩ = some (.int .i64 0) ∧ w.frozen? ⟨b, 0, none⟩ = false ∧ w.frozen? ⟨b, 1, none⟩ = false ∧ w.frozen? ⟨b, 2, none⟩ = false :=
  ⟨(cell_of_row _ _ _ _ _ _ h).trans rfl, (cell_of_row _ _ _ _ _ _ h).trans rfl, (cell_of_row _ _ _ _ _ _ h).trans rfl, frozen_of_row _ _ _ _ _ h, frozen_of_row _ _ _ _ _ h, frozen_of_row _ _ _ _ _ h⟩
theorem res28 (T : Array Value) (b : Nat) (a c d : Value) (W : World) (h10 : T[12]? = some (.pointer (some ⟨b, 0, none⟩))) {E : Int} (h11 : T[13]? = some (.int .i64 E)) (h : W.heap[b]? = some (.cells #[a, c, d] 35 (0, 0))) :
    (results Try.f28 T).run Try.prog W = .ok (.tuple #[.agg #[a, c, d], .int .i64 E]) W := by
  have h0 : W.cell? ⟨b, 0, none⟩ = some a := (cell_of_row _ _ _ _ _ _ h).trans rfl
  have h1 : W.cell? ⟨b, 1, none⟩ = some c := (cell_of_row _ _ _ _ _ _ h).trans rfl
  have h2 : W.cell? ⟨b, 2, none⟩ = some d := (cell_of_row _ _ _ _ _ _ h).trans rfl
  simp [results, Try.f28, go_sem, h10, h11, h0, h1, h2]
set_option maxHeartbeats 8000000 in
theorem dist_any (n s rl rb sg sn sc Bt Bf g : Nat) (kd : Int) (L : List T3) (f : Int) (S : Nat → Nat → Int) (U0 : Nat → Int) (hsr : ∀ v, v < sn → ∀ i, i < 8 → 0 ≤ S v i ∧ S v i < 18446744073709551616) (hn : n < 4294967296) (hs : s < 4294967296) (hsn : sn ≤ 140737488351232) (hr : rl ≤ 5000) (hlen : L.length ≤ 140737488351232) (w : World)
    (hG : GU w rb rl U0) (hU0 : ∀ x, n ≤ x → x < rl → U0 x = 99) (hF : Fd w g Bt Bf L f) (hS : SR w sg sn S) (r1 : rb ≠ g) (r2 : rb ≠ Bt) (r3 : rb ≠ Bf) (r5 : sg ≠ rb) :
    Calls Try.prog 28 #[.int .u32 (n : Int), .int .u32 (s : Int), .int .i64 kd, fe Bt Bf, .slice (some ⟨sg, 0, none⟩) sn sc, .slice (some ⟨rb, 0, none⟩) rl rl] w fun e w3 =>
      ∃ E o, e = .returned (.tuple #[.agg (vx E o), .int .i64 E]) ∧ E = dk (md n s kd) n sn rl 1 kd L f ∧ (E = 0 → Lm (PDs kd S s n L) o) ∧ Sp w3 rb n rl ∧ Ch (fun k => k = rb) w w3 := by
  have hGl := hG.lt
  obtain ⟨w4, hw4⟩ : ∃ w4, ((((w.alloc (.cells #[.int .u32 (s : Int)] 22)).alloc (.cells #[.slice (some ⟨sg, 0, none⟩) sn sc] 23)).alloc (.cells z3 35)).alloc (.cells #[.int .u32 (s : Int)] 22)) = w4 := ⟨_, rfl⟩
  obtain ⟨w5, hw5⟩ : ∃ w5, w4.alloc (.cells #[.int .u32 (n : Int), .int .i64 kd, fe Bt Bf, .slice (some ⟨sg, 0, none⟩) sn sc, .bool false, .int .u32 0, .int .i64 0] 66) = w5 := ⟨_, rfl⟩
  have hB4 : Below w.heap.size w w4 := by rw [← hw4]; exact bA (bA (bA (b1 _ _ _) (by simp) _) (by simp only [World.size_alloc]; omega) _) (by simp only [World.size_alloc]; omega) _
  have hs4 : w4.heap.size = w.heap.size + 4 := by rw [← hw4]; simp
  have hB : Below w.heap.size w w5 := by rw [← hw5]; exact bA hB4 (by omega) _
  have hs5 : w5.heap.size = w.heap.size + 5 := by rw [← hw5, World.size_alloc]; omega
  have hcb : Boxed w5 w.heap.size 22 (.int .u32 (s : Int)) := by rw [← hw5, ← hw4]; exact ((((Boxed.new w _ _).alloc _).alloc _).alloc _).alloc _
  have hsb : Boxed w5 (w.heap.size + 1) 23 (.slice (some ⟨sg, 0, none⟩) sn sc) := by
    rw [← hw5, ← hw4]
    have h := (((Boxed.new (w.alloc (.cells #[.int .u32 (s : Int)] 22)) 23 (.slice (some ⟨sg, 0, none⟩) sn sc)).alloc (.cells z3 35)).alloc (.cells #[.int .u32 (s : Int)] 22)).alloc (.cells #[.int .u32 (n : Int), .int .i64 kd, fe Bt Bf, .slice (some ⟨sg, 0, none⟩) sn sc, .bool false, .int .u32 0, .int .i64 0] 66)
    rw [World.size_alloc] at h
    exact h
  have hz : w5.heap[w.heap.size + 1 + 1]? = some (.cells z3 35 (0, 0)) := by
    rw [← hw5, ← hw4]
    refine keep _ (keep _ ?_)
    have := at0 ((w.alloc (.cells #[.int .u32 (s : Int)] 22)).alloc (.cells #[.slice (some ⟨sg, 0, none⟩) sn sc] 23)) (.cells z3 35)
    rw [World.size_alloc, World.size_alloc] at this
    exact this
  have hu : w4.heap[w.heap.size + 1 + 1 + 1]? = some (.cells #[.int .u32 (s : Int)] 22 (0, 0)) := by
    rw [← hw4]
    have := at0 (((w.alloc (.cells #[.int .u32 (s : Int)] 22)).alloc (.cells #[.slice (some ⟨sg, 0, none⟩) sn sc] 23)).alloc (.cells z3 35)) (.cells #[.int .u32 (s : Int)] 22)
    rw [World.size_alloc, World.size_alloc, World.size_alloc] at this
    exact this
  have hq : w5.heap[w.heap.size + 1 + 1 + 1 + 1]? = some (.cells #[.int .u32 (n : Int), .int .i64 kd, fe Bt Bf, .slice (some ⟨sg, 0, none⟩) sn sc, .bool false, .int .u32 0, .int .i64 0] 66 (0, 0)) := by
    rw [← hw5]
    have := at0 w4 (.cells #[.int .u32 (n : Int), .int .i64 kd, fe Bt Bf, .slice (some ⟨sg, 0, none⟩) sn sc, .bool false, .int .u32 0, .int .i64 0] 66)
    rw [hs4] at this
    exact this
  have hua : Row1 w4 (some ⟨w.heap.size + 1 + 1 + 1, 0, none⟩) [s] := fun _ => ⟨_, rfl, by show w.heap.size + 1 + 1 + 1 < _; omega, fun i q hq => by
    have hi : i = 0 := by have := (List.getElem?_eq_some_iff.1 hq).1; simp at this; exact this
    subst hi
    simp at hq
    subst hq
    exact (cell_of_row _ _ _ _ _ _ hu).trans rfl⟩
  have HSo : Hid (∀ uc, Calls Try.prog 73 #[.int .u32 (n : Int), .slice (some ⟨w.heap.size + 1 + 1 + 1, 0, none⟩) 1 uc] w4 fun e w' => e = .returned (.int .i64 (sr n [s])) ∧ w' = w4) := fun uc => sourced_any n (some ⟨w.heap.size + 1 + 1 + 1, 0, none⟩) uc [s] hn (by simp) w4 hua
  have HLv : Hid (Calls Try.prog 38 #[.agg #[.int .u32 (n : Int), .int .i64 kd, fe Bt Bf, .slice (some ⟨sg, 0, none⟩) sn sc, .bool false, .int .u32 0, .int .i64 0], .int .i64 (md n s kd), .slice (some ⟨rb, 0, none⟩) rl rl, .int .i64 1, .func (.func 74) #[] #[.pointer (some ⟨w.heap.size, 0, none⟩), .pointer (some ⟨w.heap.size + 1, 0, none⟩)]] w5 fun e w3 => ∃ E o, e = .returned (.tuple #[.agg (vx E o), .int .i64 E]) ∧ E = dk (md n s kd) n sn rl 1 kd L f ∧ (E = 0 → Lm (PDs kd S s n L) o) ∧ Sp w3 rb n rl ∧ Ch (fun k => k = rb) w5 w3) :=
    judge74 n rl rb w.heap.size (w.heap.size + 1) sg sn sc Bt Bf g s (md n s kd) kd L f S U0 hn hsn hr hlen hsr md_zero w5 (hG.on hB) hU0 (hF.on (X := fun _ => False) (Ch.of hB) (fun h => h) (fun h => h) (fun h => h)) hcb hsb (hS.on (X := fun _ => False) (Ch.of hB) (fun h => h)) r1 r2 r3 (by omega) r5
  have HFin : Hid (∀ E o w3, Ch (fun k => k = rb) w5 w3 → (E = dk (md n s kd) n sn rl 1 kd L f ∧ (E = 0 → Lm (PDs kd S s n L) o) ∧ Sp w3 rb n rl) → ∀ a b c, (((w3.setCell ⟨w.heap.size + 1 + 1, 0, none⟩ a).setCell ⟨w.heap.size + 1 + 1, 1, none⟩ b).setCell ⟨w.heap.size + 1 + 1, 2, none⟩ c).heap[w.heap.size + 1 + 1]? = some (.cells #[a, b, c] 35 (0, 0)) ∧ E = dk (md n s kd) n sn rl 1 kd L f ∧ (E = 0 → Lm (PDs kd S s n L) o) ∧ Sp (((w3.setCell ⟨w.heap.size + 1 + 1, 0, none⟩ a).setCell ⟨w.heap.size + 1 + 1, 1, none⟩ b).setCell ⟨w.heap.size + 1 + 1, 2, none⟩ c) rb n rl ∧ Ch (fun k => k = rb) w (((w3.setCell ⟨w.heap.size + 1 + 1, 0, none⟩ a).setCell ⟨w.heap.size + 1 + 1, 1, none⟩ b).setCell ⟨w.heap.size + 1 + 1, 2, none⟩ c)) := fun E o w3 hC h a b c => by
    have hz3 : w3.heap[w.heap.size + 1 + 1]? = some (.cells z3 35 (0, 0)) := (hC.block _ (by omega) (by omega)).trans hz
    have hC1 : Ch (fun k => k = rb) w w3 := (Ch.of hB).trans hC
    rw [sets3 hz3 rfl]
    exact ⟨setRow_heap _ _ _ _ _ _ hz3, h.1, h.2.1, h.2.2.of (setRow_other _ _ _ _ (by omega)), hC1.row _ (Or.inr (by omega))⟩
  have Hz : Hid (∀ w3, Ch (fun k => k = rb) w5 w3 → w3.heap[w.heap.size + 1 + 1]? = some (.cells z3 35 (0, 0))) := fun w3 hC => (hC.block _ (by omega) (by omega)).trans hz
  have HW4 := hide hw4
  have HW5 := hide hw5
  have i7 := S11.mk hq
  obtain ⟨i0, i1, i2, i3, i4, i5, i6⟩ := i7
  have cs : w5.cell? ⟨w.heap.size + 1, 0, none⟩ = some (.slice (some ⟨sg, 0, none⟩) sn sc) := hsb.cell
  have cs4 : w4.cell? ⟨w.heap.size + 1, 0, none⟩ = some (.slice (some ⟨sg, 0, none⟩) sn sc) := by
    rw [← hw4]
    have h := (((Boxed.new (w.alloc (.cells #[.int .u32 (s : Int)] 22)) 23 (.slice (some ⟨sg, 0, none⟩) sn sc)).alloc (.cells z3 35)).alloc (.cells #[.int .u32 (s : Int)] 22)).cell
    rw [World.size_alloc] at h
    exact h
  have HMd : Hid (md n s kd = if kd ≠ 1 ∧ kd ≠ 2 then 2 else sr n [s]) := rfl
  clear hG hU0 hF hS hB hB4 hz hu hua hw5 hsr hsb hcb hq hs5 cs hw4
  by_cases k1 : kd = 1
  · have kb1 : (kd != 1) = false := by simp [k1]
    have HM2 : Hid (md n s kd = sr n [s]) := by show _ = _; rw [HMd.out, if_neg (by omega)]
    rw [HM2.out] at HLv
    clear k1 HMd
    go_enter Try.func28, Try.ntmps28
    go_wp2_with (fail)
    rw [HW4.out]
    refine (HSo.out _).mono ?_
    rintro e1 w1 ⟨rfl, h1⟩
    subst w1
    clear HSo
    go_wp2_with (fail)
    rw [HW5.out]
    refine HLv.out.mono ?_
    rintro e3 w3 ⟨E, o, rfl, h1, h2, h3, hC3⟩
    obtain ⟨b0, x0, y0, hv, _, _⟩ := vx_shape E o
    have HV := hide hv
    rw [hv]
    obtain ⟨g0, g1, g2, f0, f1, f2⟩ := z35d (Hz.out _ hC3)
    have HE := hide (HFin.out E o w3 hC3 ⟨by rw [HM2.out]; exact h1, h2, h3⟩ (.bool b0) (.int .u32 x0) (.int .i64 y0))
    clear hv h1 h2 h3 hC3 HFin HLv Hz HW5 HW4
    go_wp2
    all_goals (refine bodyPost_ret (v := .tuple #[.agg #[.bool b0, .int .u32 x0, .int .i64 y0], .int .i64 E]) ?_ rfl ?_)
    all_goals first | exact res28 _ _ _ _ _ _ rfl rfl HE.out.1 | exact ⟨E, o, by rw [HV.out], HE.out.2⟩
  · have kb1 : (kd != 1) = true := by simpa using k1
    by_cases k2 : kd = 2
    · have kb2 : (kd != 2) = false := by simp [k2]
      have HM2 : Hid (md n s kd = sr n [s]) := by show _ = _; rw [HMd.out, if_neg (by omega)]
      rw [HM2.out] at HLv
      clear k1 k2 HMd
      go_enter Try.func28, Try.ntmps28
      go_wp2_with (fail)
      rw [HW4.out]
      refine (HSo.out _).mono ?_
      rintro e1 w1 ⟨rfl, h1⟩
      subst w1
      clear HSo
      go_wp2_with (fail)
      rw [HW5.out]
      refine HLv.out.mono ?_
      rintro e3 w3 ⟨E, o, rfl, h1, h2, h3, hC3⟩
      obtain ⟨b0, x0, y0, hv, _, _⟩ := vx_shape E o
      have HV := hide hv
      rw [hv]
      obtain ⟨g0, g1, g2, f0, f1, f2⟩ := z35d (Hz.out _ hC3)
      have HE := hide (HFin.out E o w3 hC3 ⟨by rw [HM2.out]; exact h1, h2, h3⟩ (.bool b0) (.int .u32 x0) (.int .i64 y0))
      clear hv h1 h2 h3 hC3 HFin HLv Hz HW5 HW4
      go_wp2
      all_goals (refine bodyPost_ret (v := .tuple #[.agg #[.bool b0, .int .u32 x0, .int .i64 y0], .int .i64 E]) ?_ rfl ?_)
      all_goals first | exact res28 _ _ _ _ _ _ rfl rfl HE.out.1 | exact ⟨E, o, by rw [HV.out], HE.out.2⟩
    · have kb2 : (kd != 2) = true := by simpa using k2
      have HM2 : Hid (md n s kd = 2) := by show _ = _; rw [HMd.out, if_pos ⟨k1, k2⟩]
      rw [HM2.out] at HLv
      clear k1 k2 HMd
      go_enter Try.func28, Try.ntmps28
      go_wp2_with (fail)
      rw [HW4.out]
      refine (HSo.out _).mono ?_
      rintro e1 w1 ⟨rfl, h1⟩
      subst w1
      clear HSo
      go_wp2_with (fail)
      rw [HW5.out]
      refine HLv.out.mono ?_
      rintro e3 w3 ⟨E, o, rfl, h1, h2, h3, hC3⟩
      obtain ⟨b0, x0, y0, hv, _, _⟩ := vx_shape E o
      have HV := hide hv
      rw [hv]
      obtain ⟨g0, g1, g2, f0, f1, f2⟩ := z35d (Hz.out _ hC3)
      have HE := hide (HFin.out E o w3 hC3 ⟨by rw [HM2.out]; exact h1, h2, h3⟩ (.bool b0) (.int .u32 x0) (.int .i64 y0))
      clear hv h1 h2 h3 hC3 HFin HLv Hz HW5 HW4
      go_wp2
      all_goals (refine bodyPost_ret (v := .tuple #[.agg #[.bool b0, .int .u32 x0, .int .i64 y0], .int .i64 E]) ?_ rfl ?_)
      all_goals first | exact res28 _ _ _ _ _ _ rfl rfl HE.out.1 | exact ⟨E, o, by rw [HV.out], HE.out.2⟩
end Au
end Go.Proofs.Ytcepfmeoeepjdaa
