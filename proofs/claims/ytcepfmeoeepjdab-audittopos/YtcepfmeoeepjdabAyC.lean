import Derived.Test.YtcepfmeoeepjdabAyB
import Derived.Test.YtcepfmeoeepjdabAyM
namespace Go.Proofs.Ytcepfmeoeepjdab
namespace Au
open Go.RowKit
set_option linter.unusedVariables false
set_option maxRecDepth 8000
/-- What stands beside the room. -/
structure Ev (W : World) (n rb qb sb nb zb mb lb fb2 pb sg sn sc K : Nat) (bx : Array Value) (S : Nat → Nat → Int) : Prop where
  bs : Boxed W sb 23 (.slice (some ⟨sg, 0, none⟩) sn sc)
  bn : Boxed W nb 22 (.int .u32 (n : Int))
  bz : Boxed W zb 63 (.pointer (some ⟨qb, 0, none⟩))
  bm : Boxed W mb 32 (.slice (some ⟨rb, 0, none⟩) n (2 * n))
  bl : Boxed W lb 32 (.slice (some ⟨rb, n, none⟩) n n)
  bf : Boxed W fb2 86 (.func (.func K) #[] bx)
  bp : Boxed W pb 23 (.slice (some ⟨sg, 0, none⟩) sn sc)
  bS : SR W sg sn S
theorem Ev.of {W W' : World} {n rb qb sb nb zb mb lb fb2 pb sg sn sc K : Nat} {bx : Array Value} {S : Nat → Nat → Int} (h : Ev W n rb qb sb nb zb mb lb fb2 pb sg sn sc K bx S) (e : ∀ k, k = sb ∨ k = nb ∨ k = zb ∨ k = mb ∨ k = lb ∨ k = fb2 ∨ k = pb ∨ k = sg → W'.heap[k]? = W.heap[k]?) : Ev W' n rb qb sb nb zb mb lb fb2 pb sg sn sc K bx S :=
  ⟨(e _ (by simp)).trans h.bs, (e _ (by simp)).trans h.bn, (e _ (by simp)).trans h.bz, (e _ (by simp)).trans h.bm, (e _ (by simp)).trans h.bl, (e _ (by simp)).trans h.bf, (e _ (by simp)).trans h.bp, h.bS.of (e _ (by simp))⟩
theorem Ev.lt {W : World} {n rb qb sb nb zb mb lb fb2 pb sg sn sc K : Nat} {bx : Array Value} {S : Nat → Nat → Int} (h : Ev W n rb qb sb nb zb mb lb fb2 pb sg sn sc K bx S) (k : Nat) (hk : k = sb ∨ k = nb ∨ k = zb ∨ k = mb ∨ k = lb ∨ k = fb2 ∨ k = pb ∨ k = sg) : k < W.heap.size := by
  rcases hk with rfl | rfl | rfl | rfl | rfl | rfl | rfl | rfl
  · exact h.bs.lt
  · exact h.bn.lt
  · exact h.bz.lt
  · exact h.bm.lt
  · exact h.bl.lt
  · exact h.bf.lt
  · exact h.bp.lt
  · exact h.bS.lt
/-- Rooms and inquiries lie elsewhere: by their types. -/
theorem Ev.ner {W : World} {n rb qb sb nb zb mb lb fb2 pb sg sn sc K : Nat} {bx : Array Value} {S : Nat → Nat → Int} {m : Nat} {D C : Nat → Int} (h : Ev W n rb qb sb nb zb mb lb fb2 pb sg sn sc K bx S) (hP : Pr W rb n m D C) (k : Nat) (hk : k = sb ∨ k = nb ∨ k = zb ∨ k = mb ∨ k = lb ∨ k = fb2 ∨ k = pb ∨ k = sg) : k ≠ rb := fun e => by
  obtain ⟨U, ⟨Q, q, _⟩, _⟩ := hP
  rcases hk with rfl | rfl | rfl | rfl | rfl | rfl | rfl | rfl
  · have := h.bs; unfold Boxed at this; rw [e, q] at this; simp at this
  · have := h.bn; unfold Boxed at this; rw [e, q] at this; simp at this
  · have := h.bz; unfold Boxed at this; rw [e, q] at this; simp at this
  · have := h.bm; unfold Boxed at this; rw [e, q] at this; simp at this
  · have := h.bl; unfold Boxed at this; rw [e, q] at this; simp at this
  · have := h.bf; unfold Boxed at this; rw [e, q] at this; simp at this
  · have := h.bp; unfold Boxed at this; rw [e, q] at this; simp at this
  · obtain ⟨Q', q', _⟩ := h.bS; rw [e, q] at q'; simp at q'
theorem Ev.neq {W : World} {n rb qb sb nb zb mb lb fb2 pb sg sn sc K : Nat} {bx : Array Value} {S : Nat → Nat → Int} {kd : Int} {ed sl : Value} {o : Vd} (h : Ev W n rb qb sb nb zb mb lb fb2 pb sg sn sc K bx S) (hI : Iq W qb n kd ed sl o) (k : Nat) (hk : k = sb ∨ k = nb ∨ k = zb ∨ k = mb ∨ k = lb ∨ k = fb2 ∨ k = pb ∨ k = sg) : k ≠ qb := fun e => by
  unfold Iq at hI
  rcases hk with rfl | rfl | rfl | rfl | rfl | rfl | rfl | rfl
  · have := h.bs; unfold Boxed at this; rw [e, hI] at this; simp at this
  · have := h.bn; unfold Boxed at this; rw [e, hI] at this; simp at this
  · have := h.bz; unfold Boxed at this; rw [e, hI] at this; simp at this
  · have := h.bm; unfold Boxed at this; rw [e, hI] at this; simp at this
  · have := h.bl; unfold Boxed at this; rw [e, hI] at this; simp at this
  · have := h.bf; unfold Boxed at this; rw [e, hI] at this; simp at this
  · have := h.bp; unfold Boxed at this; rw [e, hI] at this; simp at this
  · obtain ⟨Q', q', _⟩ := h.bS; rw [e, hI] at q'; simp at q'
theorem Ev.ch {W W' : World} {n rb qb sb nb zb mb lb fb2 pb sg sn sc K : Nat} {bx : Array Value} {S : Nat → Nat → Int} {m : Nat} {D C : Nat → Int} {kd : Int} {ed sl : Value} {o : Vd} (h : Ev W n rb qb sb nb zb mb lb fb2 pb sg sn sc K bx S) (hP : Pr W rb n m D C) (hI : Iq W qb n kd ed sl o) (hc : Ch (fun k => k = rb ∨ k = qb) W W') : Ev W' n rb qb sb nb zb mb lb fb2 pb sg sn sc K bx S :=
  h.of (fun k hk => hc.block k (h.lt k hk) (fun hh => hh.elim (h.ner hP k hk) (h.neq hI k hk)))
abbrev S58 (sb eb sg sn sc x y : Nat) (s t : Int) (w : World) : Prop := w.cell? ⟨sb, 0, none⟩ = some (.slice (some ⟨sg, 0, none⟩) sn sc) ∧ w.cell? ⟨eb, 0, none⟩ = some (.int .u32 (x : Int)) ∧ w.cell? ⟨eb, 1, none⟩ = some (.int .u32 (y : Int)) ∧ w.cell? ⟨sg, x * 8, none⟩ = some (.int .u64 s) ∧ w.cell? ⟨sg, y * 8, none⟩ = some (.int .u64 t)
abbrev S7 (fb2 eb lb rb n x y K : Nat) (bx : Array Value) (w : World) : Prop := w.cell? ⟨fb2, 0, none⟩ = some (.func (.func K) #[] bx) ∧ w.cell? ⟨eb, 0, none⟩ = some (.int .u32 (x : Int)) ∧ w.cell? ⟨eb, 1, none⟩ = some (.int .u32 (y : Int)) ∧ w.cell? ⟨lb, 0, none⟩ = some (.slice (some ⟨rb, n, none⟩) n n)
set_option maxHeartbeats 8000000 in
theorem see58 (n m rb qb sb nb zb mb lb fb2 pb sg sn sc K : Nat) (bx : Array Value) (S : Nat → Nat → Int) (fr : Nat → Int) (kd : Int) (ed sl : Value) (o : Vd) (M : Nat → Bool) (C : Nat → Int) (e : T3) (hx : e.1 < n) (hy : e.2.1 < n) (hs : n ≤ sn) (hsr : ∀ v, v < n → 0 ≤ S v 0 ∧ S v 0 < 18446744073709551616) (hm : 2 * n ≤ m) (hn : n ≤ 5000) (w : World)
    (HE : ∀ A W, (callFunc K A).run Try.prog W = .ok (.enter K A) W)
    (hfr : ∀ u W, u < n → Boxed W pb 23 (.slice (some ⟨sg, 0, none⟩) sn sc) → SR W sg sn S → Calls Try.prog K (#[.int .u32 (u : Int)] ++ bx) W fun r W' => r = .returned (.int .u64 (fr u)) ∧ W' = W)
    (hP : Pr w rb n m (w01 M) C) (hI : Iq w qb n kd ed sl o) (hV : Ev w n rb qb sb nb zb mb lb fb2 pb sg sn sc K bx S) (hrq : rb ≠ qb) :
    Calls Try.prog 58 #[eV e.1 e.2.1 e.2.2, .pointer (some ⟨sb, 0, none⟩), .pointer (some ⟨nb, 0, none⟩), .pointer (some ⟨zb, 0, none⟩), .pointer (some ⟨mb, 0, none⟩), .pointer (some ⟨lb, 0, none⟩), .pointer (some ⟨fb2, 0, none⟩)] w fun r w' => (∃ v, r = .returned v) ∧ Pr w' rb n m (w01 (fun v => M v || mtE S n v e)) (fun v => lsE S n fr v (C v) e) ∧ Iq w' qb n kd ed sl (if ovE S n e.2.1 e = true then nt o e.2.1 2 else o) ∧ Ch (fun k => k = rb ∨ k = qb) w w' := by
  obtain ⟨x, y, z⟩ := e
  simp only at hx hy ⊢
  obtain ⟨M1, hM1⟩ : ∃ M1 : Nat → Bool, (fun v => M v || mtE S n v (x, y, z)) = M1 := ⟨_, rfl⟩
  obtain ⟨C1, hC1⟩ : ∃ C1 : Nat → Int, (fun v => lsE S n fr v (C v) (x, y, z)) = C1 := ⟨_, rfl⟩
  obtain ⟨o1, ho1⟩ : ∃ o1, (if ovE S n y (x, y, z) = true then nt o y 2 else o) = o1 := ⟨_, rfl⟩
  rw [hM1, hC1, ho1]
  obtain ⟨eb, heb⟩ : ∃ eb, eb = w.heap.size := ⟨_, rfl⟩
  obtain ⟨w0, hw0⟩ : ∃ w0, w.alloc (.cells #[.int .u32 (x : Int), .int .u32 (y : Int), .int .u32 (z : Int)] 66) = w0 := ⟨_, rfl⟩
  have hB0 : Below w.heap.size w w0 := by rw [← hw0]; exact b1 _ _ _
  have hPl := hP.lt
  have hIl := hI.lt
  have he0 : w0.heap[eb]? = some (.cells #[.int .u32 (x : Int), .int .u32 (y : Int), .int .u32 (z : Int)] 66 (0, 0)) := by rw [← hw0, heb]; exact at0 _ _
  have hP0 : Pr w0 rb n m (w01 M) C := hP.of (hB0.block _ hPl)
  have hI0 : Iq w0 qb n kd ed sl o := (hB0.block _ hIl).trans hI
  have hV0 : Ev w0 n rb qb sb nb zb mb lb fb2 pb sg sn sc K bx S := hV.of (fun k hk => hB0.block k (hV.lt k hk))
  have hsx := hsr x hx
  have hsy := hsr y hy
  obtain ⟨a, ha⟩ : ∃ a, S x 0 = a := ⟨_, rfl⟩
  obtain ⟨b, hb⟩ : ∃ b, S y 0 = b := ⟨_, rfl⟩
  have hS58 : ∀ W : World, W.heap = w0.heap → S58 sb eb sg sn sc x y a b W := fun W hW => by
    have c1 := hV0.bS.c x (by omega) 0 (by decide)
    have c2 := hV0.bS.c y (by omega) 0 (by decide)
    rw [Nat.add_zero, ha] at c1
    rw [Nat.add_zero, hb] at c2
    have hq : ∀ p, W.cell? p = w0.cell? p := fun p => World.cell?_of_block (by rw [hW])
    exact ⟨(hq _).trans hV0.bs.cell, (hq _).trans ((cell_of_row _ _ _ _ _ _ he0).trans rfl), (hq _).trans ((cell_of_row _ _ _ _ _ _ he0).trans rfl), (hq _).trans c1, (hq _).trans c2⟩
  have HS58 := hide (hS58 w0.drew rfl)
  have cn0 : w0.drew.cell? ⟨nb, 0, none⟩ = some (.int .u32 (n : Int)) := hV0.bn.cell
  have hnu : IntKind.u64.wrap (n : Int) = n := wu _ (by omega) (by omega)
  have hC0 : Ch (fun k => k = rb ∨ k = qb) w w0.drew := (Ch.of hB0).drew
  have hxn : x < sn := by omega
  have hyn : y < sn := by omega
  -- nothing comes of it
  have HNo : Hid ((∀ v, mtE S n v (x, y, z) = false) → ovE S n y (x, y, z) = false → Pr w0.drew rb n m (w01 M1) C1 ∧ Iq w0.drew qb n kd ed sl o1 ∧ Ch (fun k => k = rb ∨ k = qb) w w0.drew) := fun h1 h2 => by
    refine ⟨(hP0.of (W' := w0.drew) rfl).ext (fun v hv => ?_) (fun v hv => ?_), ?_, hC0⟩
    · rw [← hM1]; unfold w01; simp only [h1 v, Bool.or_false]
    · rw [← hC1]; unfold lsE; simp only [h1 v, Bool.false_eq_true, if_false]
    · rw [← ho1, h2]; exact hI0
  by_cases h1 : a < (n : Int)
  · have h1n : ¬ (n : Int) ≤ a := by omega
    have hwa : IntKind.u64.wrap (a + 1) = a + 1 := wu _ (by omega) (by omega)
    by_cases h2 : a + 1 < b
    · have hov : ovE S n y (x, y, z) = true := by unfold ovE; simp only; rw [ha, hb]; simp [h1, h2]
      have hmt : ∀ v, mtE S n v (x, y, z) = false := fun v => by
        unfold mtE; simp only
        by_cases ev : y = v
        · subst ev; rw [ha, hb]; simp; omega
        · simp [ev]
      rw [hov, if_pos rfl] at ho1
      have HNt := hide (note_any qb y 2 n kd ed sl o w0.drew hI0)
      have HFin : Hid (∀ w', Iq w' qb n kd ed sl (nt o y 2) → Ch (fun k => k = qb) w0.drew w' → Pr w' rb n m (w01 M1) C1 ∧ Iq w' qb n kd ed sl o1 ∧ Ch (fun k => k = rb ∨ k = qb) w w') := fun w' hq hc => by
        have hp : Pr w' rb n m (w01 M) C := (hP0.of (W' := w0.drew) rfl).of (hc.block rb (by have := hP0.lt; exact this) hrq)
        refine ⟨hp.ext (fun v hv => ?_) (fun v hv => ?_), by rw [← ho1]; exact hq, hC0.trans (hc.mono (fun k _ h => Or.inr h))⟩
        · rw [← hM1]; unfold w01; simp only [hmt v, Bool.or_false]
        · rw [← hC1]; unfold lsE; simp only [hmt v, Bool.false_eq_true, if_false]
      have cz : w0.drew.cell? ⟨zb, 0, none⟩ = some (.pointer (some ⟨qb, 0, none⟩)) := hV0.bz.cell
      have HW0 := hide hw0
      have Heb := hide heb
      clear hP hI hV hP0 hI0 hV0 hB0 hw0 he0 hS58 hM1 hC1 ho1 hsr hov hmt HNo hfr hC0 heb ha hb
      go_enter Try.func58, Try.ntmps58
      go_wp2_with (fail)
      rw [HW0.out, ← Heb.out]
      go_region_held3 (S58 sb eb sg sn sc x y a b) ((with_reducible exact HS58.out)) ((fail))
      obtain ⟨e0, e1, e2, e3, e4⟩ := HS58.out
      clear HS58 e0 e1 e3 e4
      go_wp2_with (fail)
      refine HNt.out.mono ?_
      rintro r2 w2 ⟨⟨v2, rfl⟩, hq2, hc2⟩
      have HE2 := hide (HFin.out _ hq2 hc2)
      clear hq2 hc2 HFin HNt
      go_wp2
      all_goals go_end0
      all_goals exact ⟨⟨_, rfl⟩, HE2.out⟩
    · have hov : ovE S n y (x, y, z) = false := by unfold ovE; simp only; rw [ha, hb]; simp [h2]
      have h2n : ¬ a + 1 < b := h2
      by_cases h3 : b = a + 1
      · have hmt : mtE S n y (x, y, z) = true := by unfold mtE; simp only; rw [ha, hb]; simp [h1, h3]
        have hmo : ∀ v, v ≠ y → mtE S n v (x, y, z) = false := fun v hv => by
          have h9 : (y == v) = false := by simpa using fun q => hv q.symm
          unfold mtE; simp only; rw [h9]; rfl
        have h3b : (b == a + 1) = true := by simpa using h3
        rw [hov] at ho1
        simp only [Bool.false_eq_true, if_false] at ho1
        obtain ⟨w3, hw3⟩ : ∃ w3, (w0.setCell ⟨rb, y, none⟩ (.int .u64 1)).drew = w3 := ⟨_, rfl⟩
        have hP3 : Pr w3 rb n m (w01 M1) C := by
          rw [← hw3]
          refine ((hP0.setD y hy 1).of (W' := (w0.setCell ⟨rb, y, none⟩ (.int .u64 1)).drew) rfl).ext (fun v hv => ?_) (fun _ _ => rfl)
          by_cases ev : v = y
          · subst ev; rw [up_eq, ← hM1]; unfold w01; simp only [hmt, Bool.or_true, if_true]
          · rw [up_ne _ _ _ _ ev, ← hM1]; unfold w01; simp only [hmo v ev, Bool.or_false]
        have hc3 : Ch (fun k => k = rb) w0.drew w3 := by
          rw [← hw3]
          have h9 := (Ch.refl (fun k => k = rb) w0).set y (.int .u64 1) (Or.inl rfl)
          exact ⟨h9.os, h9.tape, h9.output, h9.size, h9.block⟩
        have hne := fun k hk => hV0.ner hP0 k hk
        have heb2 : eb ≠ rb := by omega
        have cm : w0.drew.cell? ⟨mb, 0, none⟩ = some (.slice (some ⟨rb, 0, none⟩) n (2 * n)) := hV0.bm.cell
        have cd : w0.drew.cell? ⟨rb, y, none⟩ = some (.int .u64 (w01 M y)) := hP0.d hm y hy
        have cf : w0.drew.frozen? ⟨rb, y, none⟩ = false := hP0.fz y
        have hS7 : ∀ W : World, W.heap[fb2]? = w0.heap[fb2]? → W.heap[eb]? = w0.heap[eb]? → W.heap[lb]? = w0.heap[lb]? → S7 fb2 eb lb rb n x y K bx W := fun W q1 q2 q3 => ⟨(show W.cell? ⟨fb2, 0, none⟩ = w0.cell? ⟨fb2, 0, none⟩ from World.cell?_of_block q1).trans hV0.bf.cell, (show W.cell? ⟨eb, 0, none⟩ = w0.cell? ⟨eb, 0, none⟩ from World.cell?_of_block q2).trans ((cell_of_row _ _ _ _ _ _ he0).trans rfl), (show W.cell? ⟨eb, 1, none⟩ = w0.cell? ⟨eb, 1, none⟩ from World.cell?_of_block q2).trans ((cell_of_row _ _ _ _ _ _ he0).trans rfl), (show W.cell? ⟨lb, 0, none⟩ = w0.cell? ⟨lb, 0, none⟩ from World.cell?_of_block q3).trans hV0.bl.cell⟩
        have HK : Hid (S7 fb2 eb lb rb n x y K bx w3.drew) := hS7 w3.drew (hc3.block _ (hV0.lt _ (by simp)) (hne _ (by simp))) (hc3.block _ (lt_of_some he0) heb2) (hc3.block _ (hV0.lt _ (by simp)) (hne _ (by simp)))
        have HKs : Hid (∀ v, S7 fb2 eb lb rb n x y K bx (w3.drew.setCell ⟨rb, n + y, none⟩ v)) := fun v => hS7 _ ((Below.heap_setCell _ _ _ _ (hne _ (by simp))).trans (hc3.block _ (hV0.lt _ (by simp)) (hne _ (by simp)))) ((Below.heap_setCell _ _ _ _ heb2).trans (hc3.block _ (lt_of_some he0) heb2)) ((Below.heap_setCell _ _ _ _ (hne _ (by simp))).trans (hc3.block _ (hV0.lt _ (by simp)) (hne _ (by simp))))
        have hV3 : Ev w3 n rb qb sb nb zb mb lb fb2 pb sg sn sc K bx S := hV0.of (fun k hk => hc3.block k (hV0.lt k hk) (hne k hk))
        have HFr : Hid (∀ W : World, W = w3.drew → Calls Try.prog K (#[.int .u32 (x : Int)] ++ bx) W fun r W' => r = .returned (.int .u64 (fr x)) ∧ W' = W) := fun W hW => by subst hW; exact hfr x _ hx hV3.bp (hV3.bS.of rfl)
        obtain ⟨c, hcy⟩ : ∃ c, C y = c := ⟨_, rfl⟩
        obtain ⟨t, hty⟩ : ∃ t, fr x = t := ⟨_, rfl⟩
        rw [hty] at HFr
        have cl : w3.drew.cell? ⟨rb, n + y, none⟩ = some (.int .u64 c) := by rw [← hcy]; exact hP3.c hm y hy
        have clf : w3.drew.frozen? ⟨rb, n + y, none⟩ = false := hP3.fz (n + y)
        have HE2 : Hid (∀ q, q = min c t → Pr (w3.drew.setCell ⟨rb, n + y, none⟩ (.int .u64 q)) rb n m (w01 M1) C1 ∧ Iq (w3.drew.setCell ⟨rb, n + y, none⟩ (.int .u64 q)) qb n kd ed sl o1 ∧ Ch (fun k => k = rb ∨ k = qb) w (w3.drew.setCell ⟨rb, n + y, none⟩ (.int .u64 q))) := fun q hq => by
          refine ⟨((hP3.of (W' := w3.drew) rfl).setC y hy q).ext (fun _ _ => rfl) (fun v hv => ?_), ?_, (hC0.trans ((hc3.mono (fun k _ h => Or.inl h)).drew)).set _ _ (Or.inl (Or.inl rfl))⟩
          · by_cases ev : v = y
            · subst ev; rw [up_eq, ← hC1]; unfold lsE; simp only [hmt, if_true]; rw [hcy, hty, hq]
            · rw [up_ne _ _ _ _ ev, ← hC1]; unfold lsE; simp only [hmo v ev, Bool.false_eq_true, if_false]
          · rw [← ho1]
            exact (Below.heap_setCell _ _ _ _ (fun e => hrq e.symm)).trans ((hc3.block qb (by have := hI0.lt; exact this) (fun e => hrq e.symm)).trans hI0)
        have HW0 := hide hw0
        have Heb := hide heb
        have HW3 := hide hw3
        clear hP hI hV hP0 hI0 hV0 hB0 hw0 he0 hS58 hM1 hC1 ho1 hsr hov hmt hmo HNo hfr hC0 heb ha hb hw3 hP3 hc3 hne heb2 hS7 hV3 hcy hty h3
        rcases Int.lt_trichotomy c t with hmn | hmn | hmn
        · skip
          go_enter Try.func58, Try.ntmps58
          go_wp2_with (fail)
          rw [HW0.out, ← Heb.out]
          go_region_held3 (S58 sb eb sg sn sc x y a b) ((with_reducible exact HS58.out)) ((fail))
          obtain ⟨e0, e1, e2, e3, e4⟩ := HS58.out
          clear HS58 e0 e1 e3 e4
          go_wp2_with (fail)
          rw [HW3.out]
          refine wp_region_held_drew (S := S7 fb2 eb lb rb n x y K bx) (by kernel_rfl) ?_ (fun hHeld => ?_)
          · exact HK.out
          refine wpAnyH_take (i := 0) (oi := ({ dst := some 45, op := Go.Op.load 32 (Go.Operand.tmp 5), type := 32, pos := "levels.go:36", after := #[], guard := none } : Oper)) (v := ?_) rfl (by kernel_rfl) (by kernel_rfl) (by kernel_rfl) (fun _ _ _ h => h) (Or.inl ⟨by rfl, ?_⟩) (by assumption) ?_
          rotate_left 1
          · (intro w hSw; (try dsimp only at hSw); go_simp; (try with_reducible rfl))
          try simp only [Act.put, List.setIfInBounds_toArray, List.set_cons_zero, List.set_cons_succ]
          refine wpAnyH_take (i := 1) (oi := ({ dst := some 46, op := Go.Op.fieldAddr 66 (Go.Operand.tmp 7) 1, type := 0, pos := "levels.go:36", after := #[], guard := none } : Oper)) (v := ?_) rfl (by kernel_rfl) (by kernel_rfl) (by kernel_rfl) (fun _ _ _ h => h) (Or.inl ⟨by rfl, ?_⟩) (by assumption) ?_
          rotate_left 1
          · (intro w hSw; (try dsimp only at hSw); go_simp; (try with_reducible rfl))
          try simp only [Act.put, List.setIfInBounds_toArray, List.set_cons_zero, List.set_cons_succ]
          refine wpAnyH_take (i := 2) (oi := ({ dst := some 47, op := Go.Op.load 22 (Go.Operand.tmp 46), type := 22, pos := "levels.go:36", after := #[{ on := 1, ground := Go.Ground.data }], guard := none } : Oper)) (v := ?_) rfl (by kernel_rfl) (by kernel_rfl) (by kernel_rfl) (fun _ _ _ h => h) (Or.inl ⟨by rfl, ?_⟩) (by assumption) ?_
          rotate_left 1
          · (intro w hSw; (try dsimp only at hSw); go_simp; (try with_reducible rfl))
          try simp only [Act.put, List.setIfInBounds_toArray, List.set_cons_zero, List.set_cons_succ]
          refine wpAnyH_take (i := 3) (oi := ({ dst := some 48, op := Go.Op.load 32 (Go.Operand.tmp 5), type := 32, pos := "levels.go:36", after := #[], guard := none } : Oper)) (v := ?_) rfl (by kernel_rfl) (by kernel_rfl) (by kernel_rfl) (fun _ _ _ h => h) (Or.inl ⟨by rfl, ?_⟩) (by assumption) ?_
          rotate_left 1
          · (intro w hSw; (try dsimp only at hSw); go_simp; (try with_reducible rfl))
          try simp only [Act.put, List.setIfInBounds_toArray, List.set_cons_zero, List.set_cons_succ]
          refine wpAnyH_take (i := 4) (oi := ({ dst := some 49, op := Go.Op.fieldAddr 66 (Go.Operand.tmp 7) 1, type := 0, pos := "levels.go:36", after := #[], guard := none } : Oper)) (v := ?_) rfl (by kernel_rfl) (by kernel_rfl) (by kernel_rfl) (fun _ _ _ h => h) (Or.inl ⟨by rfl, ?_⟩) (by assumption) ?_
          rotate_left 1
          · (intro w hSw; (try dsimp only at hSw); go_simp; (try with_reducible rfl))
          try simp only [Act.put, List.setIfInBounds_toArray, List.set_cons_zero, List.set_cons_succ]
          refine wpAnyH_take (i := 5) (oi := ({ dst := some 50, op := Go.Op.load 22 (Go.Operand.tmp 49), type := 22, pos := "levels.go:36", after := #[{ on := 4, ground := Go.Ground.data }], guard := none } : Oper)) (v := ?_) rfl (by kernel_rfl) (by kernel_rfl) (by kernel_rfl) (fun _ _ _ h => h) (Or.inl ⟨by rfl, ?_⟩) (by assumption) ?_
          rotate_left 1
          · (intro w hSw; (try dsimp only at hSw); go_simp; (try with_reducible rfl))
          try simp only [Act.put, List.setIfInBounds_toArray, List.set_cons_zero, List.set_cons_succ]
          refine wpAnyH_take (i := 6) (oi := ({ dst := some 51, op := Go.Op.indexAddr 32 (Go.Operand.tmp 48) (Go.Operand.tmp 50), type := 0, pos := "levels.go:36", after := #[{ on := 3, ground := Go.Ground.data }, { on := 5, ground := Go.Ground.data }], guard := none } : Oper)) (v := ?_) rfl (by kernel_rfl) (by kernel_rfl) (by kernel_rfl) (fun _ _ _ h => h) (Or.inl ⟨by rfl, ?_⟩) (by assumption) ?_
          rotate_left 1
          · (intro w hSw; (try dsimp only at hSw); go_simp; (try with_reducible rfl))
          try simp only [Act.put, List.setIfInBounds_toArray, List.set_cons_zero, List.set_cons_succ]
          refine wpAnyH_take (i := 8) (oi := ({ dst := some 53, op := Go.Op.load 86 (Go.Operand.tmp 6), type := 86, pos := "levels.go:36", after := #[], guard := none } : Oper)) (v := ?_) rfl (by kernel_rfl) (by kernel_rfl) (by kernel_rfl) (fun _ _ _ h => h) (Or.inl ⟨by rfl, ?_⟩) (by assumption) ?_
          rotate_left 1
          · (intro w hSw; (try dsimp only at hSw); go_simp; (try with_reducible rfl))
          try simp only [Act.put, List.setIfInBounds_toArray, List.set_cons_zero, List.set_cons_succ]
          refine wpAnyH_take (i := 9) (oi := ({ dst := some 54, op := Go.Op.fieldAddr 66 (Go.Operand.tmp 7) 0, type := 0, pos := "levels.go:36", after := #[], guard := none } : Oper)) (v := ?_) rfl (by kernel_rfl) (by kernel_rfl) (by kernel_rfl) (fun _ _ _ h => h) (Or.inl ⟨by rfl, ?_⟩) (by assumption) ?_
          rotate_left 1
          · (intro w hSw; (try dsimp only at hSw); go_simp; (try with_reducible rfl))
          try simp only [Act.put, List.setIfInBounds_toArray, List.set_cons_zero, List.set_cons_succ]
          refine wpAnyH_take (i := 10) (oi := ({ dst := some 55, op := Go.Op.load 22 (Go.Operand.tmp 54), type := 22, pos := "levels.go:36", after := #[{ on := 9, ground := Go.Ground.data }], guard := none } : Oper)) (v := ?_) rfl (by kernel_rfl) (by kernel_rfl) (by kernel_rfl) (fun _ _ _ h => h) (Or.inl ⟨by rfl, ?_⟩) (by assumption) ?_
          rotate_left 1
          · (intro w hSw; (try dsimp only at hSw); go_simp; (try with_reducible rfl))
          try simp only [Act.put, List.setIfInBounds_toArray, List.set_cons_zero, List.set_cons_succ]
          refine wpAnyH_ready (rs := [7, 11]) (by kernel_rfl) (by simp) ?_
          refine (AllReadyH.cons (o := ({ dst := some 52, op := Go.Op.load 28 (Go.Operand.tmp 51), type := 28, pos := "levels.go:36", after := #[{ on := 6, ground := Go.Ground.data }], guard := none } : Oper)) rfl (fun K hK => ?_) (AllReadyH.cons (o := ({ dst := some 56, op := Go.Op.call { callee := Go.Callee.value (Go.Operand.tmp 53), args := #[Go.Operand.tmp 55], argTypes := #[22] }, type := 28, pos := "levels.go:36", after := #[{ on := 8, ground := Go.Ground.data }, { on := 10, ground := Go.Ground.data }], guard := none } : Oper)) rfl (fun K hK => ?_) AllReadyH.nil))
          · go_simp
            go_wp2_with (fail)
            refine hK.out _ _ ?_ (fun hHeld => ?_)
            · exact HK.out
            clear hK K
            try simp only [Act.put, List.setIfInBounds_toArray, List.set_cons_zero, List.set_cons_succ]
            refine wpAnyH_ready (rs := [11]) (by kernel_rfl) (by simp) ?_
            refine (AllReadyH.cons (o := ({ dst := some 56, op := Go.Op.call { callee := Go.Callee.value (Go.Operand.tmp 53), args := #[Go.Operand.tmp 55], argTypes := #[22] }, type := 28, pos := "levels.go:36", after := #[{ on := 8, ground := Go.Ground.data }, { on := 10, ground := Go.Ground.data }], guard := none } : Oper)) rfl (fun K hK => ?_) AllReadyH.nil)
            · go_simp
              refine (HFr.out _ rfl).mono ?_
              rintro e9 w9 ⟨rfl, hw9⟩
              subst w9
              go_wp2_with (fail)
              refine hK.out _ _ ?_ (fun hHeld => ?_)
              · exact HK.out
              clear hK K
              try simp only [Act.put, List.setIfInBounds_toArray, List.set_cons_zero, List.set_cons_succ]
              refine wpAnyH_take (i := 12) (oi := ({ dst := some 57, op := Go.Op.call { callee := Go.Callee.builtin Go.Builtin.min, args := #[Go.Operand.tmp 52, Go.Operand.tmp 56], argTypes := #[28, 28] }, type := 28, pos := "levels.go:36", after := #[{ on := 7, ground := Go.Ground.data }, { on := 11, ground := Go.Ground.data }], guard := none } : Oper)) (v := ?_) rfl (by kernel_rfl) (by kernel_rfl) (by kernel_rfl) (fun _ _ _ h => h) (Or.inl ⟨by rfl, ?_⟩) (by assumption) ?_
              rotate_left 1
              · (intro w hSw; (try dsimp only at hSw); go_simp; (try with_reducible rfl))
              try simp only [Act.put, List.setIfInBounds_toArray, List.set_cons_zero, List.set_cons_succ]
              refine wpAnyH_take (i := 13) (oi := ({ dst := some 58, op := Go.Op.indexAddr 32 (Go.Operand.tmp 45) (Go.Operand.tmp 47), type := 0, pos := "levels.go:36", after := #[{ on := 0, ground := Go.Ground.data }, { on := 2, ground := Go.Ground.data }, { on := 0, ground := Go.Ground.phase }, { on := 1, ground := Go.Ground.phase }, { on := 2, ground := Go.Ground.phase }, { on := 3, ground := Go.Ground.phase }, { on := 4, ground := Go.Ground.phase }, { on := 5, ground := Go.Ground.phase }, { on := 6, ground := Go.Ground.phase }, { on := 7, ground := Go.Ground.phase }, { on := 8, ground := Go.Ground.phase }, { on := 9, ground := Go.Ground.phase }, { on := 10, ground := Go.Ground.phase }, { on := 11, ground := Go.Ground.phase }, { on := 12, ground := Go.Ground.phase }], guard := none } : Oper)) (v := ?_) rfl (by kernel_rfl) (by kernel_rfl) (by kernel_rfl) (fun _ _ _ h => h) (Or.inl ⟨by rfl, ?_⟩) (by assumption) ?_
              rotate_left 1
              · (intro w hSw; (try dsimp only at hSw); go_simp; (try with_reducible rfl))
              try simp only [Act.put, List.setIfInBounds_toArray, List.set_cons_zero, List.set_cons_succ]
              refine wpAnyH_ready (rs := [14]) (by kernel_rfl) (by simp) ?_
              refine (AllReadyH.cons (o := ({ dst := none, op := Go.Op.store 28 (Go.Operand.tmp 58) (Go.Operand.tmp 57), type := 0, pos := "levels.go:36", after := #[{ on := 13, ground := Go.Ground.data }, { on := 12, ground := Go.Ground.data }, { on := 11, ground := Go.Ground.chain }, { on := 0, ground := Go.Ground.phase }, { on := 1, ground := Go.Ground.phase }, { on := 2, ground := Go.Ground.phase }, { on := 3, ground := Go.Ground.phase }, { on := 4, ground := Go.Ground.phase }, { on := 5, ground := Go.Ground.phase }, { on := 6, ground := Go.Ground.phase }, { on := 7, ground := Go.Ground.phase }, { on := 8, ground := Go.Ground.phase }, { on := 9, ground := Go.Ground.phase }, { on := 10, ground := Go.Ground.phase }, { on := 11, ground := Go.Ground.phase }, { on := 12, ground := Go.Ground.phase }], guard := none } : Oper)) rfl (fun K hK => ?_) AllReadyH.nil)
              · go_simp
                go_wp2_with (fail)
                refine hK.out _ _ ?_ (fun hHeld => ?_)
                · exact HKs.out _
                clear hK K
                try simp only [Act.put, List.setIfInBounds_toArray, List.set_cons_zero, List.set_cons_succ]
                refine wpAnyH_done (by kernel_rfl) ?_ _
                go_wp2
                all_goals go_end0
                all_goals exact ⟨⟨_, rfl⟩, HE2.out _ (by first | rfl | omega)⟩
          · go_simp
            refine (HFr.out _ rfl).mono ?_
            rintro e9 w9 ⟨rfl, hw9⟩
            subst w9
            go_wp2_with (fail)
            refine hK.out _ _ ?_ (fun hHeld => ?_)
            · exact HK.out
            clear hK K
            try simp only [Act.put, List.setIfInBounds_toArray, List.set_cons_zero, List.set_cons_succ]
            refine wpAnyH_ready (rs := [7]) (by kernel_rfl) (by simp) ?_
            refine (AllReadyH.cons (o := ({ dst := some 52, op := Go.Op.load 28 (Go.Operand.tmp 51), type := 28, pos := "levels.go:36", after := #[{ on := 6, ground := Go.Ground.data }], guard := none } : Oper)) rfl (fun K hK => ?_) AllReadyH.nil)
            · go_simp
              go_wp2_with (fail)
              refine hK.out _ _ ?_ (fun hHeld => ?_)
              · exact HK.out
              clear hK K
              try simp only [Act.put, List.setIfInBounds_toArray, List.set_cons_zero, List.set_cons_succ]
              refine wpAnyH_take (i := 12) (oi := ({ dst := some 57, op := Go.Op.call { callee := Go.Callee.builtin Go.Builtin.min, args := #[Go.Operand.tmp 52, Go.Operand.tmp 56], argTypes := #[28, 28] }, type := 28, pos := "levels.go:36", after := #[{ on := 7, ground := Go.Ground.data }, { on := 11, ground := Go.Ground.data }], guard := none } : Oper)) (v := ?_) rfl (by kernel_rfl) (by kernel_rfl) (by kernel_rfl) (fun _ _ _ h => h) (Or.inl ⟨by rfl, ?_⟩) (by assumption) ?_
              rotate_left 1
              · (intro w hSw; (try dsimp only at hSw); go_simp; (try with_reducible rfl))
              try simp only [Act.put, List.setIfInBounds_toArray, List.set_cons_zero, List.set_cons_succ]
              refine wpAnyH_take (i := 13) (oi := ({ dst := some 58, op := Go.Op.indexAddr 32 (Go.Operand.tmp 45) (Go.Operand.tmp 47), type := 0, pos := "levels.go:36", after := #[{ on := 0, ground := Go.Ground.data }, { on := 2, ground := Go.Ground.data }, { on := 0, ground := Go.Ground.phase }, { on := 1, ground := Go.Ground.phase }, { on := 2, ground := Go.Ground.phase }, { on := 3, ground := Go.Ground.phase }, { on := 4, ground := Go.Ground.phase }, { on := 5, ground := Go.Ground.phase }, { on := 6, ground := Go.Ground.phase }, { on := 7, ground := Go.Ground.phase }, { on := 8, ground := Go.Ground.phase }, { on := 9, ground := Go.Ground.phase }, { on := 10, ground := Go.Ground.phase }, { on := 11, ground := Go.Ground.phase }, { on := 12, ground := Go.Ground.phase }], guard := none } : Oper)) (v := ?_) rfl (by kernel_rfl) (by kernel_rfl) (by kernel_rfl) (fun _ _ _ h => h) (Or.inl ⟨by rfl, ?_⟩) (by assumption) ?_
              rotate_left 1
              · (intro w hSw; (try dsimp only at hSw); go_simp; (try with_reducible rfl))
              try simp only [Act.put, List.setIfInBounds_toArray, List.set_cons_zero, List.set_cons_succ]
              refine wpAnyH_ready (rs := [14]) (by kernel_rfl) (by simp) ?_
              refine (AllReadyH.cons (o := ({ dst := none, op := Go.Op.store 28 (Go.Operand.tmp 58) (Go.Operand.tmp 57), type := 0, pos := "levels.go:36", after := #[{ on := 13, ground := Go.Ground.data }, { on := 12, ground := Go.Ground.data }, { on := 11, ground := Go.Ground.chain }, { on := 0, ground := Go.Ground.phase }, { on := 1, ground := Go.Ground.phase }, { on := 2, ground := Go.Ground.phase }, { on := 3, ground := Go.Ground.phase }, { on := 4, ground := Go.Ground.phase }, { on := 5, ground := Go.Ground.phase }, { on := 6, ground := Go.Ground.phase }, { on := 7, ground := Go.Ground.phase }, { on := 8, ground := Go.Ground.phase }, { on := 9, ground := Go.Ground.phase }, { on := 10, ground := Go.Ground.phase }, { on := 11, ground := Go.Ground.phase }, { on := 12, ground := Go.Ground.phase }], guard := none } : Oper)) rfl (fun K hK => ?_) AllReadyH.nil)
              · go_simp
                go_wp2_with (fail)
                refine hK.out _ _ ?_ (fun hHeld => ?_)
                · exact HKs.out _
                clear hK K
                try simp only [Act.put, List.setIfInBounds_toArray, List.set_cons_zero, List.set_cons_succ]
                refine wpAnyH_done (by kernel_rfl) ?_ _
                go_wp2
                all_goals go_end0
                all_goals exact ⟨⟨_, rfl⟩, HE2.out _ (by first | rfl | omega)⟩
        · subst hmn
          go_enter Try.func58, Try.ntmps58
          go_wp2_with (fail)
          rw [HW0.out, ← Heb.out]
          go_region_held3 (S58 sb eb sg sn sc x y a b) ((with_reducible exact HS58.out)) ((fail))
          obtain ⟨e0, e1, e2, e3, e4⟩ := HS58.out
          clear HS58 e0 e1 e3 e4
          go_wp2_with (fail)
          rw [HW3.out]
          refine wp_region_held_drew (S := S7 fb2 eb lb rb n x y K bx) (by kernel_rfl) ?_ (fun hHeld => ?_)
          · exact HK.out
          refine wpAnyH_take (i := 0) (oi := ({ dst := some 45, op := Go.Op.load 32 (Go.Operand.tmp 5), type := 32, pos := "levels.go:36", after := #[], guard := none } : Oper)) (v := ?_) rfl (by kernel_rfl) (by kernel_rfl) (by kernel_rfl) (fun _ _ _ h => h) (Or.inl ⟨by rfl, ?_⟩) (by assumption) ?_
          rotate_left 1
          · (intro w hSw; (try dsimp only at hSw); go_simp; (try with_reducible rfl))
          try simp only [Act.put, List.setIfInBounds_toArray, List.set_cons_zero, List.set_cons_succ]
          refine wpAnyH_take (i := 1) (oi := ({ dst := some 46, op := Go.Op.fieldAddr 66 (Go.Operand.tmp 7) 1, type := 0, pos := "levels.go:36", after := #[], guard := none } : Oper)) (v := ?_) rfl (by kernel_rfl) (by kernel_rfl) (by kernel_rfl) (fun _ _ _ h => h) (Or.inl ⟨by rfl, ?_⟩) (by assumption) ?_
          rotate_left 1
          · (intro w hSw; (try dsimp only at hSw); go_simp; (try with_reducible rfl))
          try simp only [Act.put, List.setIfInBounds_toArray, List.set_cons_zero, List.set_cons_succ]
          refine wpAnyH_take (i := 2) (oi := ({ dst := some 47, op := Go.Op.load 22 (Go.Operand.tmp 46), type := 22, pos := "levels.go:36", after := #[{ on := 1, ground := Go.Ground.data }], guard := none } : Oper)) (v := ?_) rfl (by kernel_rfl) (by kernel_rfl) (by kernel_rfl) (fun _ _ _ h => h) (Or.inl ⟨by rfl, ?_⟩) (by assumption) ?_
          rotate_left 1
          · (intro w hSw; (try dsimp only at hSw); go_simp; (try with_reducible rfl))
          try simp only [Act.put, List.setIfInBounds_toArray, List.set_cons_zero, List.set_cons_succ]
          refine wpAnyH_take (i := 3) (oi := ({ dst := some 48, op := Go.Op.load 32 (Go.Operand.tmp 5), type := 32, pos := "levels.go:36", after := #[], guard := none } : Oper)) (v := ?_) rfl (by kernel_rfl) (by kernel_rfl) (by kernel_rfl) (fun _ _ _ h => h) (Or.inl ⟨by rfl, ?_⟩) (by assumption) ?_
          rotate_left 1
          · (intro w hSw; (try dsimp only at hSw); go_simp; (try with_reducible rfl))
          try simp only [Act.put, List.setIfInBounds_toArray, List.set_cons_zero, List.set_cons_succ]
          refine wpAnyH_take (i := 4) (oi := ({ dst := some 49, op := Go.Op.fieldAddr 66 (Go.Operand.tmp 7) 1, type := 0, pos := "levels.go:36", after := #[], guard := none } : Oper)) (v := ?_) rfl (by kernel_rfl) (by kernel_rfl) (by kernel_rfl) (fun _ _ _ h => h) (Or.inl ⟨by rfl, ?_⟩) (by assumption) ?_
          rotate_left 1
          · (intro w hSw; (try dsimp only at hSw); go_simp; (try with_reducible rfl))
          try simp only [Act.put, List.setIfInBounds_toArray, List.set_cons_zero, List.set_cons_succ]
          refine wpAnyH_take (i := 5) (oi := ({ dst := some 50, op := Go.Op.load 22 (Go.Operand.tmp 49), type := 22, pos := "levels.go:36", after := #[{ on := 4, ground := Go.Ground.data }], guard := none } : Oper)) (v := ?_) rfl (by kernel_rfl) (by kernel_rfl) (by kernel_rfl) (fun _ _ _ h => h) (Or.inl ⟨by rfl, ?_⟩) (by assumption) ?_
          rotate_left 1
          · (intro w hSw; (try dsimp only at hSw); go_simp; (try with_reducible rfl))
          try simp only [Act.put, List.setIfInBounds_toArray, List.set_cons_zero, List.set_cons_succ]
          refine wpAnyH_take (i := 6) (oi := ({ dst := some 51, op := Go.Op.indexAddr 32 (Go.Operand.tmp 48) (Go.Operand.tmp 50), type := 0, pos := "levels.go:36", after := #[{ on := 3, ground := Go.Ground.data }, { on := 5, ground := Go.Ground.data }], guard := none } : Oper)) (v := ?_) rfl (by kernel_rfl) (by kernel_rfl) (by kernel_rfl) (fun _ _ _ h => h) (Or.inl ⟨by rfl, ?_⟩) (by assumption) ?_
          rotate_left 1
          · (intro w hSw; (try dsimp only at hSw); go_simp; (try with_reducible rfl))
          try simp only [Act.put, List.setIfInBounds_toArray, List.set_cons_zero, List.set_cons_succ]
          refine wpAnyH_take (i := 8) (oi := ({ dst := some 53, op := Go.Op.load 86 (Go.Operand.tmp 6), type := 86, pos := "levels.go:36", after := #[], guard := none } : Oper)) (v := ?_) rfl (by kernel_rfl) (by kernel_rfl) (by kernel_rfl) (fun _ _ _ h => h) (Or.inl ⟨by rfl, ?_⟩) (by assumption) ?_
          rotate_left 1
          · (intro w hSw; (try dsimp only at hSw); go_simp; (try with_reducible rfl))
          try simp only [Act.put, List.setIfInBounds_toArray, List.set_cons_zero, List.set_cons_succ]
          refine wpAnyH_take (i := 9) (oi := ({ dst := some 54, op := Go.Op.fieldAddr 66 (Go.Operand.tmp 7) 0, type := 0, pos := "levels.go:36", after := #[], guard := none } : Oper)) (v := ?_) rfl (by kernel_rfl) (by kernel_rfl) (by kernel_rfl) (fun _ _ _ h => h) (Or.inl ⟨by rfl, ?_⟩) (by assumption) ?_
          rotate_left 1
          · (intro w hSw; (try dsimp only at hSw); go_simp; (try with_reducible rfl))
          try simp only [Act.put, List.setIfInBounds_toArray, List.set_cons_zero, List.set_cons_succ]
          refine wpAnyH_take (i := 10) (oi := ({ dst := some 55, op := Go.Op.load 22 (Go.Operand.tmp 54), type := 22, pos := "levels.go:36", after := #[{ on := 9, ground := Go.Ground.data }], guard := none } : Oper)) (v := ?_) rfl (by kernel_rfl) (by kernel_rfl) (by kernel_rfl) (fun _ _ _ h => h) (Or.inl ⟨by rfl, ?_⟩) (by assumption) ?_
          rotate_left 1
          · (intro w hSw; (try dsimp only at hSw); go_simp; (try with_reducible rfl))
          try simp only [Act.put, List.setIfInBounds_toArray, List.set_cons_zero, List.set_cons_succ]
          refine wpAnyH_ready (rs := [7, 11]) (by kernel_rfl) (by simp) ?_
          refine (AllReadyH.cons (o := ({ dst := some 52, op := Go.Op.load 28 (Go.Operand.tmp 51), type := 28, pos := "levels.go:36", after := #[{ on := 6, ground := Go.Ground.data }], guard := none } : Oper)) rfl (fun K hK => ?_) (AllReadyH.cons (o := ({ dst := some 56, op := Go.Op.call { callee := Go.Callee.value (Go.Operand.tmp 53), args := #[Go.Operand.tmp 55], argTypes := #[22] }, type := 28, pos := "levels.go:36", after := #[{ on := 8, ground := Go.Ground.data }, { on := 10, ground := Go.Ground.data }], guard := none } : Oper)) rfl (fun K hK => ?_) AllReadyH.nil))
          · go_simp
            go_wp2_with (fail)
            refine hK.out _ _ ?_ (fun hHeld => ?_)
            · exact HK.out
            clear hK K
            try simp only [Act.put, List.setIfInBounds_toArray, List.set_cons_zero, List.set_cons_succ]
            refine wpAnyH_ready (rs := [11]) (by kernel_rfl) (by simp) ?_
            refine (AllReadyH.cons (o := ({ dst := some 56, op := Go.Op.call { callee := Go.Callee.value (Go.Operand.tmp 53), args := #[Go.Operand.tmp 55], argTypes := #[22] }, type := 28, pos := "levels.go:36", after := #[{ on := 8, ground := Go.Ground.data }, { on := 10, ground := Go.Ground.data }], guard := none } : Oper)) rfl (fun K hK => ?_) AllReadyH.nil)
            · go_simp
              refine (HFr.out _ rfl).mono ?_
              rintro e9 w9 ⟨rfl, hw9⟩
              subst w9
              go_wp2_with (fail)
              refine hK.out _ _ ?_ (fun hHeld => ?_)
              · exact HK.out
              clear hK K
              try simp only [Act.put, List.setIfInBounds_toArray, List.set_cons_zero, List.set_cons_succ]
              refine wpAnyH_take (i := 12) (oi := ({ dst := some 57, op := Go.Op.call { callee := Go.Callee.builtin Go.Builtin.min, args := #[Go.Operand.tmp 52, Go.Operand.tmp 56], argTypes := #[28, 28] }, type := 28, pos := "levels.go:36", after := #[{ on := 7, ground := Go.Ground.data }, { on := 11, ground := Go.Ground.data }], guard := none } : Oper)) (v := ?_) rfl (by kernel_rfl) (by kernel_rfl) (by kernel_rfl) (fun _ _ _ h => h) (Or.inl ⟨by rfl, ?_⟩) (by assumption) ?_
              rotate_left 1
              · (intro w hSw; (try dsimp only at hSw); go_simp; (try with_reducible rfl))
              try simp only [Act.put, List.setIfInBounds_toArray, List.set_cons_zero, List.set_cons_succ]
              refine wpAnyH_take (i := 13) (oi := ({ dst := some 58, op := Go.Op.indexAddr 32 (Go.Operand.tmp 45) (Go.Operand.tmp 47), type := 0, pos := "levels.go:36", after := #[{ on := 0, ground := Go.Ground.data }, { on := 2, ground := Go.Ground.data }, { on := 0, ground := Go.Ground.phase }, { on := 1, ground := Go.Ground.phase }, { on := 2, ground := Go.Ground.phase }, { on := 3, ground := Go.Ground.phase }, { on := 4, ground := Go.Ground.phase }, { on := 5, ground := Go.Ground.phase }, { on := 6, ground := Go.Ground.phase }, { on := 7, ground := Go.Ground.phase }, { on := 8, ground := Go.Ground.phase }, { on := 9, ground := Go.Ground.phase }, { on := 10, ground := Go.Ground.phase }, { on := 11, ground := Go.Ground.phase }, { on := 12, ground := Go.Ground.phase }], guard := none } : Oper)) (v := ?_) rfl (by kernel_rfl) (by kernel_rfl) (by kernel_rfl) (fun _ _ _ h => h) (Or.inl ⟨by rfl, ?_⟩) (by assumption) ?_
              rotate_left 1
              · (intro w hSw; (try dsimp only at hSw); go_simp; (try with_reducible rfl))
              try simp only [Act.put, List.setIfInBounds_toArray, List.set_cons_zero, List.set_cons_succ]
              refine wpAnyH_ready (rs := [14]) (by kernel_rfl) (by simp) ?_
              refine (AllReadyH.cons (o := ({ dst := none, op := Go.Op.store 28 (Go.Operand.tmp 58) (Go.Operand.tmp 57), type := 0, pos := "levels.go:36", after := #[{ on := 13, ground := Go.Ground.data }, { on := 12, ground := Go.Ground.data }, { on := 11, ground := Go.Ground.chain }, { on := 0, ground := Go.Ground.phase }, { on := 1, ground := Go.Ground.phase }, { on := 2, ground := Go.Ground.phase }, { on := 3, ground := Go.Ground.phase }, { on := 4, ground := Go.Ground.phase }, { on := 5, ground := Go.Ground.phase }, { on := 6, ground := Go.Ground.phase }, { on := 7, ground := Go.Ground.phase }, { on := 8, ground := Go.Ground.phase }, { on := 9, ground := Go.Ground.phase }, { on := 10, ground := Go.Ground.phase }, { on := 11, ground := Go.Ground.phase }, { on := 12, ground := Go.Ground.phase }], guard := none } : Oper)) rfl (fun K hK => ?_) AllReadyH.nil)
              · go_simp
                go_wp2_with (fail)
                refine hK.out _ _ ?_ (fun hHeld => ?_)
                · exact HKs.out _
                clear hK K
                try simp only [Act.put, List.setIfInBounds_toArray, List.set_cons_zero, List.set_cons_succ]
                refine wpAnyH_done (by kernel_rfl) ?_ _
                go_wp2
                all_goals go_end0
                all_goals exact ⟨⟨_, rfl⟩, HE2.out _ (by first | rfl | omega)⟩
          · go_simp
            refine (HFr.out _ rfl).mono ?_
            rintro e9 w9 ⟨rfl, hw9⟩
            subst w9
            go_wp2_with (fail)
            refine hK.out _ _ ?_ (fun hHeld => ?_)
            · exact HK.out
            clear hK K
            try simp only [Act.put, List.setIfInBounds_toArray, List.set_cons_zero, List.set_cons_succ]
            refine wpAnyH_ready (rs := [7]) (by kernel_rfl) (by simp) ?_
            refine (AllReadyH.cons (o := ({ dst := some 52, op := Go.Op.load 28 (Go.Operand.tmp 51), type := 28, pos := "levels.go:36", after := #[{ on := 6, ground := Go.Ground.data }], guard := none } : Oper)) rfl (fun K hK => ?_) AllReadyH.nil)
            · go_simp
              go_wp2_with (fail)
              refine hK.out _ _ ?_ (fun hHeld => ?_)
              · exact HK.out
              clear hK K
              try simp only [Act.put, List.setIfInBounds_toArray, List.set_cons_zero, List.set_cons_succ]
              refine wpAnyH_take (i := 12) (oi := ({ dst := some 57, op := Go.Op.call { callee := Go.Callee.builtin Go.Builtin.min, args := #[Go.Operand.tmp 52, Go.Operand.tmp 56], argTypes := #[28, 28] }, type := 28, pos := "levels.go:36", after := #[{ on := 7, ground := Go.Ground.data }, { on := 11, ground := Go.Ground.data }], guard := none } : Oper)) (v := ?_) rfl (by kernel_rfl) (by kernel_rfl) (by kernel_rfl) (fun _ _ _ h => h) (Or.inl ⟨by rfl, ?_⟩) (by assumption) ?_
              rotate_left 1
              · (intro w hSw; (try dsimp only at hSw); go_simp; (try with_reducible rfl))
              try simp only [Act.put, List.setIfInBounds_toArray, List.set_cons_zero, List.set_cons_succ]
              refine wpAnyH_take (i := 13) (oi := ({ dst := some 58, op := Go.Op.indexAddr 32 (Go.Operand.tmp 45) (Go.Operand.tmp 47), type := 0, pos := "levels.go:36", after := #[{ on := 0, ground := Go.Ground.data }, { on := 2, ground := Go.Ground.data }, { on := 0, ground := Go.Ground.phase }, { on := 1, ground := Go.Ground.phase }, { on := 2, ground := Go.Ground.phase }, { on := 3, ground := Go.Ground.phase }, { on := 4, ground := Go.Ground.phase }, { on := 5, ground := Go.Ground.phase }, { on := 6, ground := Go.Ground.phase }, { on := 7, ground := Go.Ground.phase }, { on := 8, ground := Go.Ground.phase }, { on := 9, ground := Go.Ground.phase }, { on := 10, ground := Go.Ground.phase }, { on := 11, ground := Go.Ground.phase }, { on := 12, ground := Go.Ground.phase }], guard := none } : Oper)) (v := ?_) rfl (by kernel_rfl) (by kernel_rfl) (by kernel_rfl) (fun _ _ _ h => h) (Or.inl ⟨by rfl, ?_⟩) (by assumption) ?_
              rotate_left 1
              · (intro w hSw; (try dsimp only at hSw); go_simp; (try with_reducible rfl))
              try simp only [Act.put, List.setIfInBounds_toArray, List.set_cons_zero, List.set_cons_succ]
              refine wpAnyH_ready (rs := [14]) (by kernel_rfl) (by simp) ?_
              refine (AllReadyH.cons (o := ({ dst := none, op := Go.Op.store 28 (Go.Operand.tmp 58) (Go.Operand.tmp 57), type := 0, pos := "levels.go:36", after := #[{ on := 13, ground := Go.Ground.data }, { on := 12, ground := Go.Ground.data }, { on := 11, ground := Go.Ground.chain }, { on := 0, ground := Go.Ground.phase }, { on := 1, ground := Go.Ground.phase }, { on := 2, ground := Go.Ground.phase }, { on := 3, ground := Go.Ground.phase }, { on := 4, ground := Go.Ground.phase }, { on := 5, ground := Go.Ground.phase }, { on := 6, ground := Go.Ground.phase }, { on := 7, ground := Go.Ground.phase }, { on := 8, ground := Go.Ground.phase }, { on := 9, ground := Go.Ground.phase }, { on := 10, ground := Go.Ground.phase }, { on := 11, ground := Go.Ground.phase }, { on := 12, ground := Go.Ground.phase }], guard := none } : Oper)) rfl (fun K hK => ?_) AllReadyH.nil)
              · go_simp
                go_wp2_with (fail)
                refine hK.out _ _ ?_ (fun hHeld => ?_)
                · exact HKs.out _
                clear hK K
                try simp only [Act.put, List.setIfInBounds_toArray, List.set_cons_zero, List.set_cons_succ]
                refine wpAnyH_done (by kernel_rfl) ?_ _
                go_wp2
                all_goals go_end0
                all_goals exact ⟨⟨_, rfl⟩, HE2.out _ (by first | rfl | omega)⟩
        · have hmn2 : ¬ c < t := by omega
          go_enter Try.func58, Try.ntmps58
          go_wp2_with (fail)
          rw [HW0.out, ← Heb.out]
          go_region_held3 (S58 sb eb sg sn sc x y a b) ((with_reducible exact HS58.out)) ((fail))
          obtain ⟨e0, e1, e2, e3, e4⟩ := HS58.out
          clear HS58 e0 e1 e3 e4
          go_wp2_with (fail)
          rw [HW3.out]
          refine wp_region_held_drew (S := S7 fb2 eb lb rb n x y K bx) (by kernel_rfl) ?_ (fun hHeld => ?_)
          · exact HK.out
          refine wpAnyH_take (i := 0) (oi := ({ dst := some 45, op := Go.Op.load 32 (Go.Operand.tmp 5), type := 32, pos := "levels.go:36", after := #[], guard := none } : Oper)) (v := ?_) rfl (by kernel_rfl) (by kernel_rfl) (by kernel_rfl) (fun _ _ _ h => h) (Or.inl ⟨by rfl, ?_⟩) (by assumption) ?_
          rotate_left 1
          · (intro w hSw; (try dsimp only at hSw); go_simp; (try with_reducible rfl))
          try simp only [Act.put, List.setIfInBounds_toArray, List.set_cons_zero, List.set_cons_succ]
          refine wpAnyH_take (i := 1) (oi := ({ dst := some 46, op := Go.Op.fieldAddr 66 (Go.Operand.tmp 7) 1, type := 0, pos := "levels.go:36", after := #[], guard := none } : Oper)) (v := ?_) rfl (by kernel_rfl) (by kernel_rfl) (by kernel_rfl) (fun _ _ _ h => h) (Or.inl ⟨by rfl, ?_⟩) (by assumption) ?_
          rotate_left 1
          · (intro w hSw; (try dsimp only at hSw); go_simp; (try with_reducible rfl))
          try simp only [Act.put, List.setIfInBounds_toArray, List.set_cons_zero, List.set_cons_succ]
          refine wpAnyH_take (i := 2) (oi := ({ dst := some 47, op := Go.Op.load 22 (Go.Operand.tmp 46), type := 22, pos := "levels.go:36", after := #[{ on := 1, ground := Go.Ground.data }], guard := none } : Oper)) (v := ?_) rfl (by kernel_rfl) (by kernel_rfl) (by kernel_rfl) (fun _ _ _ h => h) (Or.inl ⟨by rfl, ?_⟩) (by assumption) ?_
          rotate_left 1
          · (intro w hSw; (try dsimp only at hSw); go_simp; (try with_reducible rfl))
          try simp only [Act.put, List.setIfInBounds_toArray, List.set_cons_zero, List.set_cons_succ]
          refine wpAnyH_take (i := 3) (oi := ({ dst := some 48, op := Go.Op.load 32 (Go.Operand.tmp 5), type := 32, pos := "levels.go:36", after := #[], guard := none } : Oper)) (v := ?_) rfl (by kernel_rfl) (by kernel_rfl) (by kernel_rfl) (fun _ _ _ h => h) (Or.inl ⟨by rfl, ?_⟩) (by assumption) ?_
          rotate_left 1
          · (intro w hSw; (try dsimp only at hSw); go_simp; (try with_reducible rfl))
          try simp only [Act.put, List.setIfInBounds_toArray, List.set_cons_zero, List.set_cons_succ]
          refine wpAnyH_take (i := 4) (oi := ({ dst := some 49, op := Go.Op.fieldAddr 66 (Go.Operand.tmp 7) 1, type := 0, pos := "levels.go:36", after := #[], guard := none } : Oper)) (v := ?_) rfl (by kernel_rfl) (by kernel_rfl) (by kernel_rfl) (fun _ _ _ h => h) (Or.inl ⟨by rfl, ?_⟩) (by assumption) ?_
          rotate_left 1
          · (intro w hSw; (try dsimp only at hSw); go_simp; (try with_reducible rfl))
          try simp only [Act.put, List.setIfInBounds_toArray, List.set_cons_zero, List.set_cons_succ]
          refine wpAnyH_take (i := 5) (oi := ({ dst := some 50, op := Go.Op.load 22 (Go.Operand.tmp 49), type := 22, pos := "levels.go:36", after := #[{ on := 4, ground := Go.Ground.data }], guard := none } : Oper)) (v := ?_) rfl (by kernel_rfl) (by kernel_rfl) (by kernel_rfl) (fun _ _ _ h => h) (Or.inl ⟨by rfl, ?_⟩) (by assumption) ?_
          rotate_left 1
          · (intro w hSw; (try dsimp only at hSw); go_simp; (try with_reducible rfl))
          try simp only [Act.put, List.setIfInBounds_toArray, List.set_cons_zero, List.set_cons_succ]
          refine wpAnyH_take (i := 6) (oi := ({ dst := some 51, op := Go.Op.indexAddr 32 (Go.Operand.tmp 48) (Go.Operand.tmp 50), type := 0, pos := "levels.go:36", after := #[{ on := 3, ground := Go.Ground.data }, { on := 5, ground := Go.Ground.data }], guard := none } : Oper)) (v := ?_) rfl (by kernel_rfl) (by kernel_rfl) (by kernel_rfl) (fun _ _ _ h => h) (Or.inl ⟨by rfl, ?_⟩) (by assumption) ?_
          rotate_left 1
          · (intro w hSw; (try dsimp only at hSw); go_simp; (try with_reducible rfl))
          try simp only [Act.put, List.setIfInBounds_toArray, List.set_cons_zero, List.set_cons_succ]
          refine wpAnyH_take (i := 8) (oi := ({ dst := some 53, op := Go.Op.load 86 (Go.Operand.tmp 6), type := 86, pos := "levels.go:36", after := #[], guard := none } : Oper)) (v := ?_) rfl (by kernel_rfl) (by kernel_rfl) (by kernel_rfl) (fun _ _ _ h => h) (Or.inl ⟨by rfl, ?_⟩) (by assumption) ?_
          rotate_left 1
          · (intro w hSw; (try dsimp only at hSw); go_simp; (try with_reducible rfl))
          try simp only [Act.put, List.setIfInBounds_toArray, List.set_cons_zero, List.set_cons_succ]
          refine wpAnyH_take (i := 9) (oi := ({ dst := some 54, op := Go.Op.fieldAddr 66 (Go.Operand.tmp 7) 0, type := 0, pos := "levels.go:36", after := #[], guard := none } : Oper)) (v := ?_) rfl (by kernel_rfl) (by kernel_rfl) (by kernel_rfl) (fun _ _ _ h => h) (Or.inl ⟨by rfl, ?_⟩) (by assumption) ?_
          rotate_left 1
          · (intro w hSw; (try dsimp only at hSw); go_simp; (try with_reducible rfl))
          try simp only [Act.put, List.setIfInBounds_toArray, List.set_cons_zero, List.set_cons_succ]
          refine wpAnyH_take (i := 10) (oi := ({ dst := some 55, op := Go.Op.load 22 (Go.Operand.tmp 54), type := 22, pos := "levels.go:36", after := #[{ on := 9, ground := Go.Ground.data }], guard := none } : Oper)) (v := ?_) rfl (by kernel_rfl) (by kernel_rfl) (by kernel_rfl) (fun _ _ _ h => h) (Or.inl ⟨by rfl, ?_⟩) (by assumption) ?_
          rotate_left 1
          · (intro w hSw; (try dsimp only at hSw); go_simp; (try with_reducible rfl))
          try simp only [Act.put, List.setIfInBounds_toArray, List.set_cons_zero, List.set_cons_succ]
          refine wpAnyH_ready (rs := [7, 11]) (by kernel_rfl) (by simp) ?_
          refine (AllReadyH.cons (o := ({ dst := some 52, op := Go.Op.load 28 (Go.Operand.tmp 51), type := 28, pos := "levels.go:36", after := #[{ on := 6, ground := Go.Ground.data }], guard := none } : Oper)) rfl (fun K hK => ?_) (AllReadyH.cons (o := ({ dst := some 56, op := Go.Op.call { callee := Go.Callee.value (Go.Operand.tmp 53), args := #[Go.Operand.tmp 55], argTypes := #[22] }, type := 28, pos := "levels.go:36", after := #[{ on := 8, ground := Go.Ground.data }, { on := 10, ground := Go.Ground.data }], guard := none } : Oper)) rfl (fun K hK => ?_) AllReadyH.nil))
          · go_simp
            go_wp2_with (fail)
            refine hK.out _ _ ?_ (fun hHeld => ?_)
            · exact HK.out
            clear hK K
            try simp only [Act.put, List.setIfInBounds_toArray, List.set_cons_zero, List.set_cons_succ]
            refine wpAnyH_ready (rs := [11]) (by kernel_rfl) (by simp) ?_
            refine (AllReadyH.cons (o := ({ dst := some 56, op := Go.Op.call { callee := Go.Callee.value (Go.Operand.tmp 53), args := #[Go.Operand.tmp 55], argTypes := #[22] }, type := 28, pos := "levels.go:36", after := #[{ on := 8, ground := Go.Ground.data }, { on := 10, ground := Go.Ground.data }], guard := none } : Oper)) rfl (fun K hK => ?_) AllReadyH.nil)
            · go_simp
              refine (HFr.out _ rfl).mono ?_
              rintro e9 w9 ⟨rfl, hw9⟩
              subst w9
              go_wp2_with (fail)
              refine hK.out _ _ ?_ (fun hHeld => ?_)
              · exact HK.out
              clear hK K
              try simp only [Act.put, List.setIfInBounds_toArray, List.set_cons_zero, List.set_cons_succ]
              refine wpAnyH_take (i := 12) (oi := ({ dst := some 57, op := Go.Op.call { callee := Go.Callee.builtin Go.Builtin.min, args := #[Go.Operand.tmp 52, Go.Operand.tmp 56], argTypes := #[28, 28] }, type := 28, pos := "levels.go:36", after := #[{ on := 7, ground := Go.Ground.data }, { on := 11, ground := Go.Ground.data }], guard := none } : Oper)) (v := ?_) rfl (by kernel_rfl) (by kernel_rfl) (by kernel_rfl) (fun _ _ _ h => h) (Or.inl ⟨by rfl, ?_⟩) (by assumption) ?_
              rotate_left 1
              · (intro w hSw; (try dsimp only at hSw); go_simp; (try with_reducible rfl))
              try simp only [Act.put, List.setIfInBounds_toArray, List.set_cons_zero, List.set_cons_succ]
              refine wpAnyH_take (i := 13) (oi := ({ dst := some 58, op := Go.Op.indexAddr 32 (Go.Operand.tmp 45) (Go.Operand.tmp 47), type := 0, pos := "levels.go:36", after := #[{ on := 0, ground := Go.Ground.data }, { on := 2, ground := Go.Ground.data }, { on := 0, ground := Go.Ground.phase }, { on := 1, ground := Go.Ground.phase }, { on := 2, ground := Go.Ground.phase }, { on := 3, ground := Go.Ground.phase }, { on := 4, ground := Go.Ground.phase }, { on := 5, ground := Go.Ground.phase }, { on := 6, ground := Go.Ground.phase }, { on := 7, ground := Go.Ground.phase }, { on := 8, ground := Go.Ground.phase }, { on := 9, ground := Go.Ground.phase }, { on := 10, ground := Go.Ground.phase }, { on := 11, ground := Go.Ground.phase }, { on := 12, ground := Go.Ground.phase }], guard := none } : Oper)) (v := ?_) rfl (by kernel_rfl) (by kernel_rfl) (by kernel_rfl) (fun _ _ _ h => h) (Or.inl ⟨by rfl, ?_⟩) (by assumption) ?_
              rotate_left 1
              · (intro w hSw; (try dsimp only at hSw); go_simp; (try with_reducible rfl))
              try simp only [Act.put, List.setIfInBounds_toArray, List.set_cons_zero, List.set_cons_succ]
              refine wpAnyH_ready (rs := [14]) (by kernel_rfl) (by simp) ?_
              refine (AllReadyH.cons (o := ({ dst := none, op := Go.Op.store 28 (Go.Operand.tmp 58) (Go.Operand.tmp 57), type := 0, pos := "levels.go:36", after := #[{ on := 13, ground := Go.Ground.data }, { on := 12, ground := Go.Ground.data }, { on := 11, ground := Go.Ground.chain }, { on := 0, ground := Go.Ground.phase }, { on := 1, ground := Go.Ground.phase }, { on := 2, ground := Go.Ground.phase }, { on := 3, ground := Go.Ground.phase }, { on := 4, ground := Go.Ground.phase }, { on := 5, ground := Go.Ground.phase }, { on := 6, ground := Go.Ground.phase }, { on := 7, ground := Go.Ground.phase }, { on := 8, ground := Go.Ground.phase }, { on := 9, ground := Go.Ground.phase }, { on := 10, ground := Go.Ground.phase }, { on := 11, ground := Go.Ground.phase }, { on := 12, ground := Go.Ground.phase }], guard := none } : Oper)) rfl (fun K hK => ?_) AllReadyH.nil)
              · go_simp
                go_wp2_with (fail)
                refine hK.out _ _ ?_ (fun hHeld => ?_)
                · exact HKs.out _
                clear hK K
                try simp only [Act.put, List.setIfInBounds_toArray, List.set_cons_zero, List.set_cons_succ]
                refine wpAnyH_done (by kernel_rfl) ?_ _
                go_wp2
                all_goals go_end0
                all_goals exact ⟨⟨_, rfl⟩, HE2.out _ (by first | rfl | omega)⟩
          · go_simp
            refine (HFr.out _ rfl).mono ?_
            rintro e9 w9 ⟨rfl, hw9⟩
            subst w9
            go_wp2_with (fail)
            refine hK.out _ _ ?_ (fun hHeld => ?_)
            · exact HK.out
            clear hK K
            try simp only [Act.put, List.setIfInBounds_toArray, List.set_cons_zero, List.set_cons_succ]
            refine wpAnyH_ready (rs := [7]) (by kernel_rfl) (by simp) ?_
            refine (AllReadyH.cons (o := ({ dst := some 52, op := Go.Op.load 28 (Go.Operand.tmp 51), type := 28, pos := "levels.go:36", after := #[{ on := 6, ground := Go.Ground.data }], guard := none } : Oper)) rfl (fun K hK => ?_) AllReadyH.nil)
            · go_simp
              go_wp2_with (fail)
              refine hK.out _ _ ?_ (fun hHeld => ?_)
              · exact HK.out
              clear hK K
              try simp only [Act.put, List.setIfInBounds_toArray, List.set_cons_zero, List.set_cons_succ]
              refine wpAnyH_take (i := 12) (oi := ({ dst := some 57, op := Go.Op.call { callee := Go.Callee.builtin Go.Builtin.min, args := #[Go.Operand.tmp 52, Go.Operand.tmp 56], argTypes := #[28, 28] }, type := 28, pos := "levels.go:36", after := #[{ on := 7, ground := Go.Ground.data }, { on := 11, ground := Go.Ground.data }], guard := none } : Oper)) (v := ?_) rfl (by kernel_rfl) (by kernel_rfl) (by kernel_rfl) (fun _ _ _ h => h) (Or.inl ⟨by rfl, ?_⟩) (by assumption) ?_
              rotate_left 1
              · (intro w hSw; (try dsimp only at hSw); go_simp; (try with_reducible rfl))
              try simp only [Act.put, List.setIfInBounds_toArray, List.set_cons_zero, List.set_cons_succ]
              refine wpAnyH_take (i := 13) (oi := ({ dst := some 58, op := Go.Op.indexAddr 32 (Go.Operand.tmp 45) (Go.Operand.tmp 47), type := 0, pos := "levels.go:36", after := #[{ on := 0, ground := Go.Ground.data }, { on := 2, ground := Go.Ground.data }, { on := 0, ground := Go.Ground.phase }, { on := 1, ground := Go.Ground.phase }, { on := 2, ground := Go.Ground.phase }, { on := 3, ground := Go.Ground.phase }, { on := 4, ground := Go.Ground.phase }, { on := 5, ground := Go.Ground.phase }, { on := 6, ground := Go.Ground.phase }, { on := 7, ground := Go.Ground.phase }, { on := 8, ground := Go.Ground.phase }, { on := 9, ground := Go.Ground.phase }, { on := 10, ground := Go.Ground.phase }, { on := 11, ground := Go.Ground.phase }, { on := 12, ground := Go.Ground.phase }], guard := none } : Oper)) (v := ?_) rfl (by kernel_rfl) (by kernel_rfl) (by kernel_rfl) (fun _ _ _ h => h) (Or.inl ⟨by rfl, ?_⟩) (by assumption) ?_
              rotate_left 1
              · (intro w hSw; (try dsimp only at hSw); go_simp; (try with_reducible rfl))
              try simp only [Act.put, List.setIfInBounds_toArray, List.set_cons_zero, List.set_cons_succ]
              refine wpAnyH_ready (rs := [14]) (by kernel_rfl) (by simp) ?_
              refine (AllReadyH.cons (o := ({ dst := none, op := Go.Op.store 28 (Go.Operand.tmp 58) (Go.Operand.tmp 57), type := 0, pos := "levels.go:36", after := #[{ on := 13, ground := Go.Ground.data }, { on := 12, ground := Go.Ground.data }, { on := 11, ground := Go.Ground.chain }, { on := 0, ground := Go.Ground.phase }, { on := 1, ground := Go.Ground.phase }, { on := 2, ground := Go.Ground.phase }, { on := 3, ground := Go.Ground.phase }, { on := 4, ground := Go.Ground.phase }, { on := 5, ground := Go.Ground.phase }, { on := 6, ground := Go.Ground.phase }, { on := 7, ground := Go.Ground.phase }, { on := 8, ground := Go.Ground.phase }, { on := 9, ground := Go.Ground.phase }, { on := 10, ground := Go.Ground.phase }, { on := 11, ground := Go.Ground.phase }, { on := 12, ground := Go.Ground.phase }], guard := none } : Oper)) rfl (fun K hK => ?_) AllReadyH.nil)
              · go_simp
                go_wp2_with (fail)
                refine hK.out _ _ ?_ (fun hHeld => ?_)
                · exact HKs.out _
                clear hK K
                try simp only [Act.put, List.setIfInBounds_toArray, List.set_cons_zero, List.set_cons_succ]
                refine wpAnyH_done (by kernel_rfl) ?_ _
                go_wp2
                all_goals go_end0
                all_goals exact ⟨⟨_, rfl⟩, HE2.out _ (by first | rfl | omega)⟩
      · have hmt : ∀ v, mtE S n v (x, y, z) = false := fun v => by
          unfold mtE; simp only
          by_cases ev : y = v
          · subst ev; rw [ha, hb]; simp; omega
          · simp [ev]
        have h3b : (b == a + 1) = false := by simpa using h3
        have HE2 := hide (HNo.out hmt hov)
        have HW0 := hide hw0
        have Heb := hide heb
        clear hP hI hV hP0 hI0 hV0 hB0 hw0 he0 hS58 hM1 hC1 ho1 hsr hov hmt HNo hfr hC0 heb ha hb h3
        go_enter Try.func58, Try.ntmps58
        go_wp2_with (fail)
        rw [HW0.out, ← Heb.out]
        go_region_held3 (S58 sb eb sg sn sc x y a b) ((with_reducible exact HS58.out)) ((fail))
        clear HS58
        go_wp2
        all_goals go_end0
        all_goals exact ⟨⟨_, rfl⟩, HE2.out⟩
  · have h1n : (n : Int) ≤ a := by omega
    have HE2 := hide (HNo.out (fun v => by unfold mtE; simp only; rw [ha]; simp [h1]) (by unfold ovE; simp only; rw [ha]; simp [h1]))
    have HW0 := hide hw0
    have Heb := hide heb
    clear hP hI hV hP0 hI0 hV0 hB0 hw0 he0 hS58 hM1 hC1 ho1 hsr HNo hfr hC0 heb ha hb
    go_enter Try.func58, Try.ntmps58
    go_wp2_with (fail)
    rw [HW0.out, ← Heb.out]
    go_region_held3 (S58 sb eb sg sn sc x y a b) ((with_reducible exact HS58.out)) ((fail))
    clear HS58
    go_wp2
    all_goals go_end0
    all_goals exact ⟨⟨_, rfl⟩, HE2.out⟩
end Au
end Go.Proofs.Ytcepfmeoeepjdab
