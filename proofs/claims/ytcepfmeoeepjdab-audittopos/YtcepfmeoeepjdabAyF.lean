import Derived.Test.YtcepfmeoeepjdabAyE
namespace Go.Proofs.Ytcepfmeoeepjdab
namespace Au
open Go.RowKit
set_option linter.unusedVariables false
set_option maxRecDepth 8000
theorem sr_pos {n : Nat} {Q : List Nat} (h : sr n Q = 0) : 0 < n := by
  unfold sr at h
  split at h
  · rename_i h1; exact absurd h h1
  · rename_i h1
    have h2 : sz n = 0 := by simpa using h1
    unfold sz at h2
    split at h2 <;> omega
theorem judge56 (n rl rb nb sb fb2 ub pb sg sn sc uc Bt Bf g K : Nat) (ua : Option Addr) (bx : Array Value) (Q : List Nat) (L : List T3) (f : Int) (S : Nat → Nat → Int) (fr : Nat → Int) (U0 : Nat → Int) (hsr : ∀ v, 0 ≤ S v 0 ∧ S v 0 < 18446744073709551616) (hn : n < 4294967296) (hsn : sn ≤ 140737488351232) (hr : rl ≤ 5000) (hlen : L.length ≤ 140737488351232) (hql : Q.length ≤ 140737488351232) (w : World)
    (HE : ∀ A W, (callFunc K A).run Try.prog W = .ok (.enter K A) W)
    (hfr : ∀ u W, u < 5000 → u < sn → Boxed W pb 23 (.slice (some ⟨sg, 0, none⟩) sn sc) → SR W sg sn S → Calls Try.prog K (#[.int .u32 (u : Int)] ++ bx) W fun r W' => r = .returned (.int .u64 (fr u)) ∧ W' = W)
    (hG : GU w rb rl U0) (hU0 : ∀ x, 2 * n ≤ x → x < rl → U0 x = 99) (hF : Fd w g Bt Bf L f) (hnb : Boxed w nb 22 (.int .u32 (n : Int))) (hsb : Boxed w sb 23 (.slice (some ⟨sg, 0, none⟩) sn sc)) (hfb : Boxed w fb2 86 (.func (.func K) #[] bx)) (hub : Boxed w ub 25 (.slice ua Q.length uc)) (hpb : Boxed w pb 23 (.slice (some ⟨sg, 0, none⟩) sn sc)) (hS : SR w sg sn S) (hua : Row1 w ua Q) (hux : ∀ x, ua = some x → x.block ≠ rb ∧ x.block < w.heap.size)
    (r1 : rb ≠ g) (r2 : rb ≠ Bt) (r3 : rb ≠ Bf) :
    Calls Try.prog 23 #[.agg #[.int .u32 (n : Int), .int .i64 0, fe Bt Bf, .slice (some ⟨sg, 0, none⟩) sn sc, .bool false, .int .u32 0, .int .i64 0], .int .i64 (sr n Q), .slice (some ⟨rb, 0, none⟩) rl rl, .int .i64 2, .func (.func 56) #[] #[.pointer (some ⟨nb, 0, none⟩), .pointer (some ⟨sb, 0, none⟩), .pointer (some ⟨fb2, 0, none⟩), .pointer (some ⟨ub, 0, none⟩)]] w fun e w' =>
      ∃ E o, e = .returned (.tuple #[.agg (vx E o), .int .i64 E]) ∧ E = dk (sr n Q) n sn rl 2 0 L f ∧ (E = 0 → Lm (PS S n fr Q L) o) ∧ Sp w' rb (2 * n) rl ∧ Ch (fun k => k = rb) w w' := by
  have hGl := hG.lt
  have hFl := hF.lt
  by_cases hm : ak (sr n Q) n sn rl 2 = 0
  · obtain ⟨h1, h2, h3⟩ := ak_zero hm
    have hn0 := sr_pos h1
    have hB : Below w.heap.size w ((w.alloc (.cells (qc n 0 (fe Bt Bf) (.slice (some ⟨sg, 0, none⟩) sn sc) none) 60)).alloc (.cells z3 35)) := bA (b1 _ _ _) (by simp) _
    have hq : Iq ((w.alloc (.cells (qc n 0 (fe Bt Bf) (.slice (some ⟨sg, 0, none⟩) sn sc) none) 60)).alloc (.cells z3 35)) w.heap.size n 0 (fe Bt Bf) (.slice (some ⟨sg, 0, none⟩) sn sc) none := keep _ (at0 _ _)
    have hPr : Pr w rb n rl U0 (fun v => U0 (n + v)) := ⟨U0, hG, fun _ _ => rfl, fun _ _ => rfl, hU0⟩
    have hl := look56 n rl rb w.heap.size nb sb fb2 ub pb sg sn sc uc Bt Bf g K ua bx Q L f S fr U0 (fun v => U0 (n + v)) (by omega) (fun v _ => hsr v) h3 hn0 (by omega) hlen hql _ HE (fun u W hu => hfr u W (by omega) (by omega)) hq (hPr.of (hB.block _ hGl)) (hF.on (X := fun _ => False) (Ch.of hB) (fun h => h) (fun h => h) (fun h => h)) ((hB.block nb hnb.lt).trans hnb) ((hB.block sb hsb.lt).trans hsb) ((hB.block fb2 hfb.lt).trans hfb) ((hB.block ub hub.lt).trans hub) ((hB.block pb hpb.lt).trans hpb) (hS.on (X := fun _ => False) (Ch.of hB) (fun h => h)) (hua.on hB (Nat.le_refl _)) (fun x hx => ⟨(hux x hx).1, by have := (hux x hx).2; omega⟩) r1 r2 r3 (by omega) (by omega) (by omega) (by omega)
    have hj := judge_ok n 2 rl sn sc 56 rb Bt Bf (sr n Q) 0 (some ⟨sg, 0, none⟩) #[.pointer (some ⟨nb, 0, none⟩), .pointer (some ⟨sb, 0, none⟩), .pointer (some ⟨fb2, 0, none⟩), .pointer (some ⟨ub, 0, none⟩)] (fun k => k = rb ∨ k = w.heap.size) (RL2 n rl rb L f S fr Q) (by omega) hn hsn hr hm w enters56 (by omega)
      (fun E o W W' h hk => ⟨h.1, h.2.1, by obtain ⟨D, C, hh⟩ := h.2.2; exact ⟨D, C, hh.of (hk rb hGl)⟩⟩) hl
    refine hj.mono ?_
    rintro e w' ⟨E, o, rfl, ⟨a, b, D, C, U, c, d, d', e⟩, hC⟩
    refine ⟨E, o, rfl, by rw [dk_eq hm]; exact a, b, ⟨U, c, e⟩, hC.mono (fun k hk h => by rcases h with h | h; exact h; omega)⟩
  · refine (judge_bad n 2 rl sn sc 56 rb Bt Bf (sr n Q) 0 (some ⟨sg, 0, none⟩) #[.pointer (some ⟨nb, 0, none⟩), .pointer (some ⟨sb, 0, none⟩), .pointer (some ⟨fb2, 0, none⟩), .pointer (some ⟨ub, 0, none⟩)] (by omega) hn hsn hr hm w).mono ?_
    rintro e w' ⟨rfl, hB⟩
    refine ⟨_, none, by unfold vx; rw [if_neg hm], (dk_ne hm).symm, fun h => absurd h hm, ⟨U0, hG.on hB, hU0⟩, Ch.of hB⟩
theorem res49 (T : Array Value) (b : Nat) (a c d : Value) (W : World) (h10 : T[12]? = some (.pointer (some ⟨b, 0, none⟩))) {E : Int} (h11 : T[13]? = some (.int .i64 E)) (h : W.heap[b]? = some (.cells #[a, c, d] 35 (0, 0))) :
    (results Try.f49 T).run Try.prog W = .ok (.tuple #[.agg #[a, c, d], .int .i64 E]) W := by
  have h0 : W.cell? ⟨b, 0, none⟩ = some a := (cell_of_row _ _ _ _ _ _ h).trans rfl
  have h1 : W.cell? ⟨b, 1, none⟩ = some c := (cell_of_row _ _ _ _ _ _ h).trans rfl
  have h2 : W.cell? ⟨b, 2, none⟩ = some d := (cell_of_row _ _ _ _ _ _ h).trans rfl
  simp [results, Try.f49, go_sem, h10, h11, h0, h1, h2]
abbrev S49 (b nb ub n : Nat) (ed sl : Value) (ua : Option Addr) (ul uc : Nat) (w : World) : Prop := w.cell? ⟨b, 0, none⟩ = some (.int .u32 (n : Int)) ∧ w.cell? ⟨b, 1, none⟩ = some (.int .i64 0) ∧ w.cell? ⟨b, 2, none⟩ = some ed ∧ w.cell? ⟨b, 3, none⟩ = some sl ∧ w.cell? ⟨b, 4, none⟩ = some (.bool false) ∧ w.cell? ⟨b, 5, none⟩ = some (.int .u32 0) ∧ w.cell? ⟨b, 6, none⟩ = some (.int .i64 0) ∧ w.cell? ⟨nb, 0, none⟩ = some (.int .u32 (n : Int)) ∧ w.cell? ⟨ub, 0, none⟩ = some (.slice ua ul uc)
theorem S49.mk {b nb ub n : Nat} {ed sl : Value} {ua : Option Addr} {ul uc : Nat} {w : World} (h : w.heap[b]? = some (.cells #[.int .u32 (n : Int), .int .i64 0, ed, sl, .bool false, .int .u32 0, .int .i64 0] 60 (0, 0))) (hn : Boxed w nb 22 (.int .u32 (n : Int))) (hu : Boxed w ub 25 (.slice ua ul uc)) : S49 b nb ub n ed sl ua ul uc w := by
  obtain ⟨a, b, c, d, e, f, g⟩ := S11.mk h
  exact ⟨a, b, c, d, e, f, g, hn.cell, hu.cell⟩
set_option maxHeartbeats 8000000 in
theorem levels_any (n rl rb pb sg sn sc uc Bt Bf g K : Nat) (ua : Option Addr) (bx : Array Value) (Q : List Nat) (L : List T3) (f : Int) (S : Nat → Nat → Int) (fr : Nat → Int) (U0 : Nat → Int) (hsr : ∀ v, 0 ≤ S v 0 ∧ S v 0 < 18446744073709551616) (hn : n < 4294967296) (hsn : sn ≤ 140737488351232) (hr : rl ≤ 5000) (hlen : L.length ≤ 140737488351232) (hql : Q.length ≤ 140737488351232) (w : World)
    (HE : ∀ A W, (callFunc K A).run Try.prog W = .ok (.enter K A) W)
    (hfr : ∀ u W, u < 5000 → u < sn → Boxed W pb 23 (.slice (some ⟨sg, 0, none⟩) sn sc) → SR W sg sn S → Calls Try.prog K (#[.int .u32 (u : Int)] ++ bx) W fun r W' => r = .returned (.int .u64 (fr u)) ∧ W' = W)
    (hG : GU w rb rl U0) (hU0 : ∀ x, 2 * n ≤ x → x < rl → U0 x = 99) (hF : Fd w g Bt Bf L f) (hS : SR w sg sn S) (hua : Row1 w ua Q) (hux : ∀ x, ua = some x → x.block ≠ rb ∧ x.block < w.heap.size) (hpb : ∀ W, Boxed W (w.heap.size + 1) 23 (.slice (some ⟨sg, 0, none⟩) sn sc) → Below w.heap.size w W → Boxed W pb 23 (.slice (some ⟨sg, 0, none⟩) sn sc))
    (r1 : rb ≠ g) (r2 : rb ≠ Bt) (r3 : rb ≠ Bf) :
    Calls Try.prog 49 #[.int .u32 (n : Int), fe Bt Bf, .slice (some ⟨sg, 0, none⟩) sn sc, .slice (some ⟨rb, 0, none⟩) rl rl, .func (.func K) #[] bx, .slice ua Q.length uc] w fun e w' =>
      ∃ E o, e = .returned (.tuple #[.agg (vx E o), .int .i64 E]) ∧ E = dk (sr n Q) n sn rl 2 0 L f ∧ (E = 0 → Lm (PS S n fr Q L) o) ∧ Sp w' rb (2 * n) rl ∧ Ch (fun k => k = rb) w w' := by
  have hGl := hG.lt
  obtain ⟨w5, hw5⟩ : ∃ w5, (((((w.alloc (.cells #[.int .u32 (n : Int)] 22)).alloc (.cells #[.slice (some ⟨sg, 0, none⟩) sn sc] 23)).alloc (.cells #[.func (.func K) #[] bx] 86)).alloc (.cells #[.slice ua Q.length uc] 25)).alloc (.cells z3 35)) = w5 := ⟨_, rfl⟩
  obtain ⟨wJ, hwJ⟩ : ∃ wJ, w5.alloc (.cells #[.int .u32 (n : Int), .int .i64 0, fe Bt Bf, .slice (some ⟨sg, 0, none⟩) sn sc, .bool false, .int .u32 0, .int .i64 0] 60) = wJ := ⟨_, rfl⟩
  have hB5 : Below w.heap.size w w5 := by rw [← hw5]; exact bA2 (bA2 (bA2 (bA2 (b1 _ _ _) _) _) _) _
  have hs5 : w5.heap.size = w.heap.size + 1 + 1 + 1 + 1 + 1 := by rw [← hw5]; simp
  have hB : Below w.heap.size w wJ := by rw [← hwJ]; exact bA2 hB5 _
  have hsz : wJ.heap.size = w.heap.size + 6 := by rw [← hwJ]; simp [hs5]
  have hnb : Boxed wJ (w.heap.size) 22 (.int .u32 (n : Int)) := by rw [← hwJ, ← hw5]; exact ((((Boxed.new w _ _).alloc _).alloc _).alloc _).alloc _ |>.alloc _
  have hsb : Boxed wJ (w.heap.size + 1) 23 (.slice (some ⟨sg, 0, none⟩) sn sc) := by
    rw [← hwJ, ← hw5]
    have h := ((((Boxed.new (w.alloc (.cells #[.int .u32 (n : Int)] 22)) 23 (.slice (some ⟨sg, 0, none⟩) sn sc)).alloc (.cells #[.func (.func K) #[] bx] 86)).alloc (.cells #[.slice ua Q.length uc] 25)).alloc (.cells z3 35)).alloc (.cells #[.int .u32 (n : Int), .int .i64 0, fe Bt Bf, .slice (some ⟨sg, 0, none⟩) sn sc, .bool false, .int .u32 0, .int .i64 0] 60)
    rw [World.size_alloc] at h
    exact h
  have hfb : Boxed wJ (w.heap.size + 1 + 1) 86 (.func (.func K) #[] bx) := by
    rw [← hwJ, ← hw5]
    have h := (((Boxed.new ((w.alloc (.cells #[.int .u32 (n : Int)] 22)).alloc (.cells #[.slice (some ⟨sg, 0, none⟩) sn sc] 23)) 86 (.func (.func K) #[] bx)).alloc (.cells #[.slice ua Q.length uc] 25)).alloc (.cells z3 35)).alloc (.cells #[.int .u32 (n : Int), .int .i64 0, fe Bt Bf, .slice (some ⟨sg, 0, none⟩) sn sc, .bool false, .int .u32 0, .int .i64 0] 60)
    rw [World.size_alloc, World.size_alloc] at h
    exact h
  have hub : Boxed wJ (w.heap.size + 1 + 1 + 1) 25 (.slice ua Q.length uc) := by
    rw [← hwJ, ← hw5]
    have h := ((Boxed.new (((w.alloc (.cells #[.int .u32 (n : Int)] 22)).alloc (.cells #[.slice (some ⟨sg, 0, none⟩) sn sc] 23)).alloc (.cells #[.func (.func K) #[] bx] 86)) 25 (.slice ua Q.length uc)).alloc (.cells z3 35)).alloc (.cells #[.int .u32 (n : Int), .int .i64 0, fe Bt Bf, .slice (some ⟨sg, 0, none⟩) sn sc, .bool false, .int .u32 0, .int .i64 0] 60)
    rw [World.size_alloc, World.size_alloc, World.size_alloc] at h
    exact h
  have hz : wJ.heap[w.heap.size + 1 + 1 + 1 + 1]? = some (.cells z3 35 (0, 0)) := by
    rw [← hwJ]
    refine keep _ ?_
    rw [← hw5]
    have := at0 ((((w.alloc (.cells #[.int .u32 (n : Int)] 22)).alloc (.cells #[.slice (some ⟨sg, 0, none⟩) sn sc] 23)).alloc (.cells #[.func (.func K) #[] bx] 86)).alloc (.cells #[.slice ua Q.length uc] 25)) (.cells z3 35)
    rw [World.size_alloc, World.size_alloc, World.size_alloc, World.size_alloc] at this
    exact this
  have hq : wJ.heap[w.heap.size + 1 + 1 + 1 + 1 + 1]? = some (.cells #[.int .u32 (n : Int), .int .i64 0, fe Bt Bf, .slice (some ⟨sg, 0, none⟩) sn sc, .bool false, .int .u32 0, .int .i64 0] 60 (0, 0)) := by
    rw [← hwJ]
    have := at0 w5 (.cells #[.int .u32 (n : Int), .int .i64 0, fe Bt Bf, .slice (some ⟨sg, 0, none⟩) sn sc, .bool false, .int .u32 0, .int .i64 0] 60)
    rw [hs5] at this
    exact this
  have HJ : Hid (Calls Try.prog 23 #[.agg #[.int .u32 (n : Int), .int .i64 0, fe Bt Bf, .slice (some ⟨sg, 0, none⟩) sn sc, .bool false, .int .u32 0, .int .i64 0], .int .i64 (sr n Q), .slice (some ⟨rb, 0, none⟩) rl rl, .int .i64 2, .func (.func 56) #[] #[.pointer (some ⟨w.heap.size, 0, none⟩), .pointer (some ⟨w.heap.size + 1, 0, none⟩), .pointer (some ⟨w.heap.size + 1 + 1, 0, none⟩), .pointer (some ⟨w.heap.size + 1 + 1 + 1, 0, none⟩)]] wJ.drew fun e w' => ∃ E o, e = .returned (.tuple #[.agg (vx E o), .int .i64 E]) ∧ E = dk (sr n Q) n sn rl 2 0 L f ∧ (E = 0 → Lm (PS S n fr Q L) o) ∧ Sp w' rb (2 * n) rl ∧ Ch (fun k => k = rb) wJ.drew w') :=
    judge56 n rl rb (w.heap.size) (w.heap.size + 1) (w.heap.size + 1 + 1) (w.heap.size + 1 + 1 + 1) pb sg sn sc uc Bt Bf g K ua bx Q L f S fr U0 hsr hn hsn hr hlen hql wJ.drew HE hfr ((hG.on hB).of rfl) hU0 ((hF.on (X := fun _ => False) (Ch.of hB) (fun h => h) (fun h => h) (fun h => h)).of rfl rfl rfl) hnb hsb hfb hub (hpb wJ.drew hsb (belowD hB)) ((hS.on (X := fun _ => False) (Ch.of hB) (fun h => h)).of rfl) (hua.on (belowD hB) (Nat.le_refl _)) (fun x hx => ⟨(hux x hx).1, by have := (hux x hx).2; show x.block < wJ.heap.size; omega⟩) r1 r2 r3
  have HS : Hid (S49 (w.heap.size + 1 + 1 + 1 + 1 + 1) (w.heap.size) (w.heap.size + 1 + 1 + 1) n (fe Bt Bf) (.slice (some ⟨sg, 0, none⟩) sn sc) ua Q.length uc wJ.drew) := S49.mk hq hnb hub
  have HK : Hid (∀ w3, Ch (fun k => k = rb) wJ.drew w3 → S49 (w.heap.size + 1 + 1 + 1 + 1 + 1) (w.heap.size) (w.heap.size + 1 + 1 + 1) n (fe Bt Bf) (.slice (some ⟨sg, 0, none⟩) sn sc) ua Q.length uc w3) := fun w3 hC => S49.mk ((hC.block (w.heap.size + 1 + 1 + 1 + 1 + 1) (by show _ < wJ.heap.size; omega) (by omega)).trans hq) ((hC.block (w.heap.size) (by show _ < wJ.heap.size; omega) (by omega)).trans hnb) ((hC.block (w.heap.size + 1 + 1 + 1) (by show _ < wJ.heap.size; omega) (by omega)).trans hub)
  have HK2 : Hid (∀ w3, Ch (fun k => k = rb) wJ.drew w3 → ∀ a b c, S49 (w.heap.size + 1 + 1 + 1 + 1 + 1) (w.heap.size) (w.heap.size + 1 + 1 + 1) n (fe Bt Bf) (.slice (some ⟨sg, 0, none⟩) sn sc) ua Q.length uc (((w3.setCell ⟨w.heap.size + 1 + 1 + 1 + 1, 0, none⟩ a).setCell ⟨w.heap.size + 1 + 1 + 1 + 1, 1, none⟩ b).setCell ⟨w.heap.size + 1 + 1 + 1 + 1, 2, none⟩ c)) := fun w3 hC a b c => by
    have hz3 : w3.heap[w.heap.size + 1 + 1 + 1 + 1]? = some (.cells z3 35 (0, 0)) := (hC.block (w.heap.size + 1 + 1 + 1 + 1) (by show _ < wJ.heap.size; omega) (by omega)).trans hz
    rw [sets3 hz3 rfl]
    exact S49.mk ((setRow_other _ _ _ _ (by omega)).trans ((hC.block (w.heap.size + 1 + 1 + 1 + 1 + 1) (by show _ < wJ.heap.size; omega) (by omega)).trans hq)) ((setRow_other _ _ _ _ (by omega)).trans ((hC.block (w.heap.size) (by show _ < wJ.heap.size; omega) (by omega)).trans hnb)) ((setRow_other _ _ _ _ (by omega)).trans ((hC.block (w.heap.size + 1 + 1 + 1) (by show _ < wJ.heap.size; omega) (by omega)).trans hub))
  have HFin : Hid (∀ E o w3, Ch (fun k => k = rb) wJ.drew w3 → E = dk (sr n Q) n sn rl 2 0 L f ∧ (E = 0 → Lm (PS S n fr Q L) o) ∧ Sp w3 rb (2 * n) rl → ∀ a b c, (((w3.setCell ⟨w.heap.size + 1 + 1 + 1 + 1, 0, none⟩ a).setCell ⟨w.heap.size + 1 + 1 + 1 + 1, 1, none⟩ b).setCell ⟨w.heap.size + 1 + 1 + 1 + 1, 2, none⟩ c).heap[w.heap.size + 1 + 1 + 1 + 1]? = some (.cells #[a, b, c] 35 (0, 0)) ∧ E = dk (sr n Q) n sn rl 2 0 L f ∧ (E = 0 → Lm (PS S n fr Q L) o) ∧ Sp (((w3.setCell ⟨w.heap.size + 1 + 1 + 1 + 1, 0, none⟩ a).setCell ⟨w.heap.size + 1 + 1 + 1 + 1, 1, none⟩ b).setCell ⟨w.heap.size + 1 + 1 + 1 + 1, 2, none⟩ c) rb (2 * n) rl ∧ Ch (fun k => k = rb) w (((w3.setCell ⟨w.heap.size + 1 + 1 + 1 + 1, 0, none⟩ a).setCell ⟨w.heap.size + 1 + 1 + 1 + 1, 1, none⟩ b).setCell ⟨w.heap.size + 1 + 1 + 1 + 1, 2, none⟩ c)) := fun E o w3 hC h a b c => by
    have hz3 : w3.heap[w.heap.size + 1 + 1 + 1 + 1]? = some (.cells z3 35 (0, 0)) := (hC.block (w.heap.size + 1 + 1 + 1 + 1) (by show _ < wJ.heap.size; omega) (by omega)).trans hz
    have hC1 : Ch (fun k => k = rb) w w3 := ((Ch.of hB).drew).trans hC
    rw [sets3 hz3 rfl]
    exact ⟨setRow_heap _ _ _ _ _ _ hz3, h.1, h.2.1, h.2.2.of (setRow_other _ _ _ _ (by omega)), hC1.row _ (Or.inr (by omega))⟩
  have HZ : Hid (∀ W : World, W = wJ.drew → Calls Try.prog 55 #[.int .u32 (n : Int), .slice ua Q.length uc] W fun e w' => e = .returned (.int .i64 (sr n Q)) ∧ w' = W) := fun W hW => by subst hW; exact sourced_any n ua uc Q hn hql wJ.drew (hua.on (belowD hB) (Nat.le_refl _))
  have Hz : Hid (∀ w3, Ch (fun k => k = rb) wJ.drew w3 → w3.heap[w.heap.size + 1 + 1 + 1 + 1]? = some (.cells z3 35 (0, 0))) := fun w3 hC => (hC.block (w.heap.size + 1 + 1 + 1 + 1) (by show _ < wJ.heap.size; omega) (by omega)).trans hz
  have HwJ := hide hwJ
  have Hw5 := hide hw5
  clear hG hU0 hF hS hua hux hpb hB hB5 hz hsb hnb hfb hub hsz hs5 hwJ hw5 hq HE hfr hsr
  go_enter Try.func49, Try.ntmps49
  go_wp2_with (fail)
  rw [Hw5.out, HwJ.out]
  go_region_held3 (S49 (w.heap.size + 1 + 1 + 1 + 1 + 1) (w.heap.size) (w.heap.size + 1 + 1 + 1) n (fe Bt Bf) (.slice (some ⟨sg, 0, none⟩) sn sc) ua Q.length uc) ((first | with_reducible exact HS.out | with_reducible exact HK.out _ HC3.out | with_reducible exact HK2.out _ HC3.out _ _ _)) ((first | (go_at_call 55; refine (HZ.out _ rfl).mono ?_; rintro e1 w1 ⟨rfl, hw1⟩; subst w1) | (go_at_call 23; refine HJ.out.mono ?_; rintro e3 w3 ⟨E, o, rfl, h1, h2, h3, hC3⟩; obtain ⟨b0, x0, y0, hv, _, _⟩ := vx_shape E o; have HV := hide hv; rw [hv]; clear hv; have hz3 := Hz.out _ hC3; obtain ⟨g0, g1, g2, f0, f1, f2⟩ := z35 hz3; have HC3 := hide hC3; have HH := hide (And.intro h1 (And.intro h2 h3)); clear hC3 hz3 h1 h2 h3)))
  all_goals have HE := hide (HFin.out E o w3 HC3.out HH.out (.bool b0) (.int .u32 x0) (.int .i64 y0))
  all_goals clear HFin HH HC3 HK HK2 HS HJ HZ Hz HwJ Hw5
  all_goals go_wp2
  all_goals (refine bodyPost_ret (v := .tuple #[.agg #[.bool b0, .int .u32 x0, .int .i64 y0], .int .i64 E]) ?_ rfl ?_)
  all_goals first | exact res49 _ _ _ _ _ _ rfl rfl HE.out.1 | exact ⟨E, o, by rw [HV.out], HE.out.2⟩
theorem res19 (T : Array Value) (b : Nat) (a c d : Value) (W : World) (h10 : T[10]? = some (.pointer (some ⟨b, 0, none⟩))) {E : Int} (h11 : T[11]? = some (.int .i64 E)) (h : W.heap[b]? = some (.cells #[a, c, d] 35 (0, 0))) :
    (results Try.f19 T).run Try.prog W = .ok (.tuple #[.agg #[a, c, d], .int .i64 E]) W := by
  have h0 : W.cell? ⟨b, 0, none⟩ = some a := (cell_of_row _ _ _ _ _ _ h).trans rfl
  have h1 : W.cell? ⟨b, 1, none⟩ = some c := (cell_of_row _ _ _ _ _ _ h).trans rfl
  have h2 : W.cell? ⟨b, 2, none⟩ = some d := (cell_of_row _ _ _ _ _ _ h).trans rfl
  simp [results, Try.f19, go_sem, h10, h11, h0, h1, h2]
theorem res22 (T : Array Value) (b : Nat) (a c d : Value) (W : World) (h10 : T[10]? = some (.pointer (some ⟨b, 0, none⟩))) {E : Int} (h11 : T[11]? = some (.int .i64 E)) (h : W.heap[b]? = some (.cells #[a, c, d] 35 (0, 0))) :
    (results Try.f22 T).run Try.prog W = .ok (.tuple #[.agg #[a, c, d], .int .i64 E]) W := by
  have h0 : W.cell? ⟨b, 0, none⟩ = some a := (cell_of_row _ _ _ _ _ _ h).trans rfl
  have h1 : W.cell? ⟨b, 1, none⟩ = some c := (cell_of_row _ _ _ _ _ _ h).trans rfl
  have h2 : W.cell? ⟨b, 2, none⟩ = some d := (cell_of_row _ _ _ _ _ _ h).trans rfl
  simp [results, Try.f22, go_sem, h10, h11, h0, h1, h2]
set_option maxHeartbeats 4000000 in
theorem alevels_any (n src rl rb sg sn sc Bt Bf g : Nat) (L : List T3) (f : Int) (S : Nat → Nat → Int) (U0 : Nat → Int) (hsr : ∀ v, 0 ≤ S v 0 ∧ S v 0 < 18446744073709551616) (hn : n < 4294967296) (hsn : sn ≤ 140737488351232) (hr : rl ≤ 5000) (hlen : L.length ≤ 140737488351232) (w : World)
    (hG : GU w rb rl U0) (hU0 : ∀ x, 2 * n ≤ x → x < rl → U0 x = 99) (hF : Fd w g Bt Bf L f) (hS : SR w sg sn S) (r1 : rb ≠ g) (r2 : rb ≠ Bt) (r3 : rb ≠ Bf) :
    Calls Try.prog 19 #[.int .u32 (n : Int), .int .u32 (src : Int), fe Bt Bf, .slice (some ⟨sg, 0, none⟩) sn sc, .slice (some ⟨rb, 0, none⟩) rl rl] w fun e w' =>
      ∃ E o, e = .returned (.tuple #[.agg (vx E o), .int .i64 E]) ∧ E = dk (sr n [src]) n sn rl 2 0 L f ∧ (E = 0 → Lm (PS S n (fun u => (u : Int)) [src] L) o) ∧ Sp w' rb (2 * n) rl ∧ Ch (fun k => k = rb) w w' := by
  have hGl := hG.lt
  obtain ⟨w1, hw1⟩ : ∃ w1, (w.alloc (.cells z3 35)).alloc (.cells #[.int .u32 (src : Int)] 22) = w1 := ⟨_, rfl⟩
  have hB : Below w.heap.size w w1 := by rw [← hw1]; exact bA2 (b1 _ _ _) _
  have hs1 : w1.heap.size = w.heap.size + 2 := by rw [← hw1]; simp
  have hz : w1.heap[w.heap.size]? = some (.cells z3 35 (0, 0)) := by rw [← hw1]; exact keep _ (at0 _ _)
  have hu : w1.heap[w.heap.size + 1]? = some (.cells #[.int .u32 (src : Int)] 22 (0, 0)) := by
    rw [← hw1]
    have := at0 (w.alloc (.cells z3 35)) (.cells #[.int .u32 (src : Int)] 22)
    rw [World.size_alloc] at this
    exact this
  have hua : Row1 w1 (some ⟨w.heap.size + 1, 0, none⟩) [src] := fun _ => ⟨_, rfl, by show w.heap.size + 1 < _; omega, fun i q hq => by
    have hi : i = 0 := by have := (List.getElem?_eq_some_iff.1 hq).1; simp at this; exact this
    subst hi
    simp at hq
    subst hq
    exact (cell_of_row _ _ _ _ _ _ hu).trans rfl⟩
  have HLv : Hid (∀ uc, Calls Try.prog 49 #[.int .u32 (n : Int), fe Bt Bf, .slice (some ⟨sg, 0, none⟩) sn sc, .slice (some ⟨rb, 0, none⟩) rl rl, .func (.func 48) #[] #[], .slice (some ⟨w.heap.size + 1, 0, none⟩) 1 uc] w1 fun e w' => ∃ E o, e = .returned (.tuple #[.agg (vx E o), .int .i64 E]) ∧ E = dk (sr n [src]) n sn rl 2 0 L f ∧ (E = 0 → Lm (PS S n (fun u => (u : Int)) [src] L) o) ∧ Sp w' rb (2 * n) rl ∧ Ch (fun k => k = rb) w1 w') := fun uc =>
    levels_any n rl rb (w1.heap.size + 1) sg sn sc uc Bt Bf g 48 (some ⟨w.heap.size + 1, 0, none⟩) #[] [src] L f S (fun u => (u : Int)) U0 hsr hn hsn hr hlen (by simp) w1 enters48 (fun u W hu _ _ _ => from48 u (by omega) W) (hG.on hB) hU0 (hF.on (X := fun _ => False) (Ch.of hB) (fun h => h) (fun h => h) (fun h => h)) (hS.on (X := fun _ => False) (Ch.of hB) (fun h => h)) hua (fun x hx => by cases hx; exact ⟨by show w.heap.size + 1 ≠ rb; omega, by show w.heap.size + 1 < _; omega⟩) (fun W h _ => h) r1 r2 r3
  have HFin : Hid (∀ E o w3, Ch (fun k => k = rb) w1 w3 → (E = dk (sr n [src]) n sn rl 2 0 L f ∧ (E = 0 → Lm (PS S n (fun u => (u : Int)) [src] L) o) ∧ Sp w3 rb (2 * n) rl) → ∀ a b c, (((w3.setCell ⟨w.heap.size, 0, none⟩ a).setCell ⟨w.heap.size, 1, none⟩ b).setCell ⟨w.heap.size, 2, none⟩ c).heap[w.heap.size]? = some (.cells #[a, b, c] 35 (0, 0)) ∧ E = dk (sr n [src]) n sn rl 2 0 L f ∧ (E = 0 → Lm (PS S n (fun u => (u : Int)) [src] L) o) ∧ Sp (((w3.setCell ⟨w.heap.size, 0, none⟩ a).setCell ⟨w.heap.size, 1, none⟩ b).setCell ⟨w.heap.size, 2, none⟩ c) rb (2 * n) rl ∧ Ch (fun k => k = rb) w (((w3.setCell ⟨w.heap.size, 0, none⟩ a).setCell ⟨w.heap.size, 1, none⟩ b).setCell ⟨w.heap.size, 2, none⟩ c)) := fun E o w3 hC h a b c => by
    have hz3 : w3.heap[w.heap.size]? = some (.cells z3 35 (0, 0)) := (hC.block _ (by omega) (by omega)).trans hz
    have hC1 : Ch (fun k => k = rb) w w3 := (Ch.of hB).trans hC
    rw [sets3 hz3 rfl]
    exact ⟨setRow_heap _ _ _ _ _ _ hz3, h.1, h.2.1, h.2.2.of (setRow_other _ _ _ _ (by omega)), hC1.row _ (Or.inr (by omega))⟩
  have Hz : Hid (∀ w3, Ch (fun k => k = rb) w1 w3 → Zc w3 w.heap.size) := fun w3 hC => (hC.block _ (by omega) (by omega)).trans hz
  have HW1 := hide hw1
  clear hG hU0 hF hS hB hs1 hz hu hua hw1 hsr
  go_enter Try.func19, Try.ntmps19
  go_wp2_with (fail)
  rw [HW1.out]
  refine (HLv.out _).mono ?_
  rintro e3 w3 ⟨E, o, rfl, h1, h2, h3, hC3⟩
  obtain ⟨b0, x0, y0, hv, _, _⟩ := vx_shape E o
  have HV := hide hv
  rw [hv]
  obtain ⟨g0, g1, g2, f0, f1, f2⟩ := z35 (Hz.out _ hC3)
  have HE := hide (HFin.out E o w3 hC3 ⟨h1, h2, h3⟩ (.bool b0) (.int .u32 x0) (.int .i64 y0))
  clear hv h1 h2 h3 hC3 HFin HLv Hz HW1
  go_wp2
  all_goals (refine bodyPost_ret (v := .tuple #[.agg #[.bool b0, .int .u32 x0, .int .i64 y0], .int .i64 E]) ?_ rfl ?_)
  all_goals first | exact res19 _ _ _ _ _ _ rfl rfl HE.out.1 | exact ⟨E, o, by rw [HV.out], HE.out.2⟩
set_option maxHeartbeats 4000000 in
theorem reached_any (n rl rb sg sn sc uc Bt Bf g : Nat) (ua : Option Addr) (Q : List Nat) (L : List T3) (f : Int) (S : Nat → Nat → Int) (U0 : Nat → Int) (hsr : ∀ v, 0 ≤ S v 0 ∧ S v 0 < 18446744073709551616) (hn : n < 4294967296) (hsn : sn ≤ 140737488351232) (hr : rl ≤ 5000) (hlen : L.length ≤ 140737488351232) (hql : Q.length ≤ 140737488351232) (w : World)
    (hG : GU w rb rl U0) (hU0 : ∀ x, 2 * n ≤ x → x < rl → U0 x = 99) (hF : Fd w g Bt Bf L f) (hS : SR w sg sn S) (hua : Row1 w ua Q) (hux : ∀ x, ua = some x → x.block ≠ rb ∧ x.block < w.heap.size) (r1 : rb ≠ g) (r2 : rb ≠ Bt) (r3 : rb ≠ Bf) :
    Calls Try.prog 22 #[.int .u32 (n : Int), fe Bt Bf, .slice (some ⟨sg, 0, none⟩) sn sc, .slice (some ⟨rb, 0, none⟩) rl rl, .slice ua Q.length uc] w fun e w' =>
      ∃ E o, e = .returned (.tuple #[.agg (vx E o), .int .i64 E]) ∧ E = dk (sr n Q) n sn rl 2 0 L f ∧ (E = 0 → Lm (PS S n (fun u => S u 1) Q L) o) ∧ Sp w' rb (2 * n) rl ∧ Ch (fun k => k = rb) w w' := by
  have hGl := hG.lt
  obtain ⟨w1, hw1⟩ : ∃ w1, (w.alloc (.cells #[.slice (some ⟨sg, 0, none⟩) sn sc] 23)).alloc (.cells z3 35) = w1 := ⟨_, rfl⟩
  have hB : Below w.heap.size w w1 := by rw [← hw1]; exact bA2 (b1 _ _ _) _
  have hs1 : w1.heap.size = w.heap.size + 2 := by rw [← hw1]; simp
  have hpb : Boxed w1 w.heap.size 23 (.slice (some ⟨sg, 0, none⟩) sn sc) := by rw [← hw1]; exact (Boxed.new _ _ _).alloc _
  have hz : w1.heap[w.heap.size + 1]? = some (.cells z3 35 (0, 0)) := by
    rw [← hw1]
    have := at0 (w.alloc (.cells #[.slice (some ⟨sg, 0, none⟩) sn sc] 23)) (.cells z3 35)
    rw [World.size_alloc] at this
    exact this
  have HLv : Hid (Calls Try.prog 49 #[.int .u32 (n : Int), fe Bt Bf, .slice (some ⟨sg, 0, none⟩) sn sc, .slice (some ⟨rb, 0, none⟩) rl rl, .func (.func 50) #[] #[.pointer (some ⟨w.heap.size, 0, none⟩)], .slice ua Q.length uc] w1 fun e w' => ∃ E o, e = .returned (.tuple #[.agg (vx E o), .int .i64 E]) ∧ E = dk (sr n Q) n sn rl 2 0 L f ∧ (E = 0 → Lm (PS S n (fun u => S u 1) Q L) o) ∧ Sp w' rb (2 * n) rl ∧ Ch (fun k => k = rb) w1 w') :=
    levels_any n rl rb w.heap.size sg sn sc uc Bt Bf g 50 ua #[.pointer (some ⟨w.heap.size, 0, none⟩)] Q L f S (fun u => S u 1) U0 hsr hn hsn hr hlen hql w1 enters50 (fun u W _ hu h1 h2 => from50 u w.heap.size sg sn sc S hu hsn W h1 h2) (hG.on hB) hU0 (hF.on (X := fun _ => False) (Ch.of hB) (fun h => h) (fun h => h) (fun h => h)) (hS.on (X := fun _ => False) (Ch.of hB) (fun h => h)) (hua.on hB (Nat.le_refl _)) (fun x hx => ⟨(hux x hx).1, by have := (hux x hx).2; omega⟩) (fun W _ hW => (hW.block _ (by omega)).trans hpb) r1 r2 r3
  have c0 := hpb.cell
  have HFin : Hid (∀ E o w3, Ch (fun k => k = rb) w1 w3 → (E = dk (sr n Q) n sn rl 2 0 L f ∧ (E = 0 → Lm (PS S n (fun u => S u 1) Q L) o) ∧ Sp w3 rb (2 * n) rl) → ∀ a b c, (((w3.setCell ⟨w.heap.size + 1, 0, none⟩ a).setCell ⟨w.heap.size + 1, 1, none⟩ b).setCell ⟨w.heap.size + 1, 2, none⟩ c).heap[w.heap.size + 1]? = some (.cells #[a, b, c] 35 (0, 0)) ∧ E = dk (sr n Q) n sn rl 2 0 L f ∧ (E = 0 → Lm (PS S n (fun u => S u 1) Q L) o) ∧ Sp (((w3.setCell ⟨w.heap.size + 1, 0, none⟩ a).setCell ⟨w.heap.size + 1, 1, none⟩ b).setCell ⟨w.heap.size + 1, 2, none⟩ c) rb (2 * n) rl ∧ Ch (fun k => k = rb) w (((w3.setCell ⟨w.heap.size + 1, 0, none⟩ a).setCell ⟨w.heap.size + 1, 1, none⟩ b).setCell ⟨w.heap.size + 1, 2, none⟩ c)) := fun E o w3 hC h a b c => by
    have hz3 : w3.heap[w.heap.size + 1]? = some (.cells z3 35 (0, 0)) := (hC.block _ (by omega) (by omega)).trans hz
    have hC1 : Ch (fun k => k = rb) w w3 := (Ch.of hB).trans hC
    rw [sets3 hz3 rfl]
    exact ⟨setRow_heap _ _ _ _ _ _ hz3, h.1, h.2.1, h.2.2.of (setRow_other _ _ _ _ (by omega)), hC1.row _ (Or.inr (by omega))⟩
  have Hz : Hid (∀ w3, Ch (fun k => k = rb) w1 w3 → Zc w3 (w.heap.size + 1)) := fun w3 hC => (hC.block _ (by omega) (by omega)).trans hz
  have HW1 := hide hw1
  rw [← hw1] at c0
  clear hG hU0 hF hS hB hs1 hz hpb hua hux hw1 hsr
  go_enter Try.func22, Try.ntmps22
  go_wp2_with (fail)
  rw [HW1.out]
  refine HLv.out.mono ?_
  rintro e3 w3 ⟨E, o, rfl, h1, h2, h3, hC3⟩
  obtain ⟨b0, x0, y0, hv, _, _⟩ := vx_shape E o
  have HV := hide hv
  rw [hv]
  obtain ⟨g0, g1, g2, f0, f1, f2⟩ := z35 (Hz.out _ hC3)
  have HE := hide (HFin.out E o w3 hC3 ⟨h1, h2, h3⟩ (.bool b0) (.int .u32 x0) (.int .i64 y0))
  clear hv h1 h2 h3 hC3 HFin HLv Hz HW1 c0
  go_wp2
  all_goals (refine bodyPost_ret (v := .tuple #[.agg #[.bool b0, .int .u32 x0, .int .i64 y0], .int .i64 E]) ?_ rfl ?_)
  all_goals first | exact res22 _ _ _ _ _ _ rfl rfl HE.out.1 | exact ⟨E, o, by rw [HV.out], HE.out.2⟩
end Au
end Go.Proofs.Ytcepfmeoeepjdab
