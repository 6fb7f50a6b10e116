import Derived.Test.YtiljdiagabepbaaDoorPbH
import Derived.Laws.OwnMore
namespace Go.Proofs.YtiljdiagabepbaaDoor
namespace Pb
open Go.RowKit
set_option linter.unusedVariables false
/-- Worlds alike but for the blocks of S and new ones. -/
structure Frm (w w' : World) (S : Nat → Prop) : Prop where
  os : w'.os = w.os
  tape : w'.tape = w.tape
  output : w'.output = w.output
  size : w.heap.size ≤ w'.heap.size
  block : ∀ k, k < w.heap.size → ¬ S k → w'.heap[k]? = w.heap[k]?
theorem Frm.refl (w : World) (S : Nat → Prop) : Frm w w S := ⟨rfl, rfl, rfl, Nat.le_refl _, fun _ _ _ => rfl⟩
theorem Frm.trans {w w1 w2 : World} {S S2 : Nat → Prop} (h : Frm w w1 S) (h2 : Frm w1 w2 S2) (hs : ∀ k, k < w.heap.size → S2 k → S k) : Frm w w2 S :=
  ⟨h2.os.trans h.os, h2.tape.trans h.tape, h2.output.trans h.output, Nat.le_trans h.size h2.size, fun k hk hn => (h2.block k (Nat.lt_of_lt_of_le hk h.size) (fun e => hn (hs k hk e))).trans (h.block k hk hn)⟩
theorem Frm.trans' {w w1 w2 : World} {S S1 S2 : Nat → Prop} (h : Frm w w1 S1) (h2 : Frm w1 w2 S2) (hs1 : ∀ k, k < w.heap.size → S1 k → S k) (hs : ∀ k, k < w.heap.size → S2 k → S k) : Frm w w2 S :=
  ⟨h2.os.trans h.os, h2.tape.trans h.tape, h2.output.trans h.output, Nat.le_trans h.size h2.size, fun k hk hn => (h2.block k (Nat.lt_of_lt_of_le hk h.size) (fun e => hn (hs k hk e))).trans (h.block k hk (fun e => hn (hs1 k hk e)))⟩
theorem own_slice {w : World} {base : Nat} {v : Value} {n : Nat} {xs : List Value} (ho : w.ownsRow base 5 1 v n xs) : ∃ p n c, v = .slice p n c := by
  rcases ho.2 with ⟨rfl, _⟩ | ⟨g', cap, cur, rfl, _⟩
  · exact ⟨_, _, _, rfl⟩
  · exact ⟨_, _, _, rfl⟩
theorem own_frm {w w' : World} {base : Nat} {v : Value} {n : Nat} {xs : List Value} {S : Nat → Prop} (ho : w.ownsRow base 5 1 v n xs) (hf : Frm w w' S) (hS : ∀ k, v.ownBlock = some k → ¬ S k) : w'.ownsRow base 5 1 v n xs := by
  refine ⟨ho.1, ?_⟩
  rcases ho.2 with hn | ⟨g, cap, cur, rfl, hb, hgg, rest⟩
  · exact .inl hn
  · exact .inr ⟨g, cap, cur, rfl, hb, (hf.block g (Array.getElem?_eq_some_iff.1 hgg).1 (hS g rfl)).trans hgg, rest⟩
theorem Frm.below {B : Nat} {w0 w w' : World} {S : Nat → Prop} (h : Frm w w' S) (hb : Below B w0 w) (hB : B ≤ w.heap.size) (hS : ∀ k, S k → B ≤ k) : Below B w0 w' :=
  hb.trans ⟨h.os, h.tape, h.output, h.size, fun k hk => h.block k (by omega) (fun e => by have := hS k e; omega)⟩
theorem Frm.of_below {w w' : World} {S : Nat → Prop} (h : Below w.heap.size w w') : Frm w w' S := ⟨h.os, h.tape, h.output, h.size, fun k hk _ => h.block k hk⟩
theorem Frm.setCell (w : World) (p : Addr) (v : Value) : Frm w (w.setCell p v) (fun k => k = p.block) :=
  ⟨rfl, rfl, rfl, by simp, fun k hk hn => Go.Deep.blk_setCell_other _ _ _ _ hn⟩
theorem Frm.of_grown {w w' : World} {r : Option Nat} (h : w.grownBy w' r) : Frm w w' (fun k => r = some k) :=
  ⟨h.os, h.tape, h.output, h.size, fun k hk hn => h.block k hk (fun e => hn e.symm)⟩
theorem Frm.cell {w w' : World} {S : Nat → Prop} (h : Frm w w' S) {p : Addr} {v : Value} (hc : w.cell? p = some v) (hn : ¬ S p.block) : w'.cell? p = some v :=
  (World.cell?_of_block (h.block p.block (World.block_lt_of_cell? w p hc) hn)).trans hc
/-- What a slice of bytes reads as. -/
def Src (w : World) (g gf : Nat) (dv : Value) (data : List Value) : Prop :=
  (∀ v ∈ data, v.oneCell' = true) ∧ ((dv = .slice none 0 0 ∧ data = []) ∨ ∃ a m c, dv = .slice (some a) m c ∧ data.length = m ∧ ∀ j u, data[j]? = some u → a.block ≠ g ∧ a.block ≠ gf ∧ w.cell? (a.add j) = some u)
theorem add_block (a : Addr) (j : Nat) : (a.add j).block = a.block := by unfold Addr.add; split <;> rfl
theorem Src.frm {w w' : World} {g gf : Nat} {dv : Value} {data : List Value} {S : Nat → Prop} (h : Src w g gf dv data) (hf : Frm w w' S) (hS : ∀ k, S k → k = g ∨ k = gf) : Src w' g gf dv data := by
  refine ⟨h.1, ?_⟩
  rcases h.2 with h | ⟨a, m, c, e, hl, h3⟩
  · exact .inl h
  · refine .inr ⟨a, m, c, e, hl, fun j u hj => ⟨(h3 j u hj).1, (h3 j u hj).2.1, hf.cell (h3 j u hj).2.2 (fun e => ?_)⟩⟩
    rw [add_block] at e
    rcases hS _ e with e | e
    · exact (h3 j u hj).1 e
    · exact (h3 j u hj).2.1 e
theorem info5 : ∃ i, Tryd.prog.info? 5 = some i ∧ i.zero = some (.int .u8 0) ∧ i.size = 1 ∧ i.bytes = 1 := by
  have h : (Tryd.prog.info? 5).map (fun i => (i.zero, i.size, i.bytes)) = some (some (.int .u8 0), 1, 1) := by kernel_rfl
  cases hh : Tryd.prog.info? 5 with
  | none => rw [hh] at h; cases h
  | some i => rw [hh] at h; simp at h; exact ⟨i, rfl, h.1, h.2.1, h.2.2⟩
/-- append(bv, dv...) of bytes, whatever dv. -/
theorem app_src (w : World) (base g gf : Nat) (bv dv : Value) (xs data : List Value) (ho : w.ownsRow base 5 1 bv xs.length xs) (hs : Src w g gf dv data) (hl : xs.length + data.length ≤ 1073741824) (hb : base ≤ w.heap.size) :
    ∃ v' w', (∀ ty, (Builtin.append_ #[37, 37] ty #[bv, dv]).run Tryd.prog w = .ok v' w') ∧ w'.ownsRow base 5 1 v' (xs ++ data).length (xs ++ data) ∧ w.grownBy w' bv.ownBlock ∧ ∀ k, v'.ownBlock = some k → bv.ownBlock = some k ∨ w.heap.size ≤ k := by
  obtain ⟨i, hi, hz, h1, h2⟩ := info5
  rcases hs.2 with ⟨rfl, rfl⟩ | ⟨a, m, c, rfl, rfl, hc'⟩
  rotate_left
  have hc : ∀ j u, data[j]? = some u → w.cell? (a.add j) = some u := fun j u h => (hc' j u h).2.2
  rotate_left
  · exact ⟨bv, w, fun ty => run_append_owned_none (P := Tryd.prog) w base 37 ty 5 i 1 Tryd.underlying37 hi bv xs.length xs ho, by simpa using ho, ⟨rfl, rfl, rfl, Nat.le_refl _, fun _ _ _ => rfl⟩, fun k hk => .inl hk⟩
  · obtain ⟨v', w', r1, r2, r3, r4⟩ := run_append_own (P := Tryd.prog) w base 37 37 5 i (.int .u8 0) 1 1 Tryd.underlying37 hi hz h1 h2 rfl (by decide) bv xs.length xs ho a data.length c data (by omega) hc hs.1 (by simp only [maxLen]; omega) (by omega) hb
    refine ⟨v', w', fun ty => r1, by simpa using r2, r3, fun k hk => ?_⟩
    rcases ho.2 with ⟨rfl, hn⟩ | ⟨g', cap, cur, rfl, hbg, hg, hnc, hcm, hcs, htake⟩
    · obtain ⟨v2, w2, q1, q2, q3, q4⟩ := run_append_own (P := Tryd.prog) w w.heap.size 37 37 5 i (.int .u8 0) 1 1 Tryd.underlying37 hi hz h1 h2 rfl (by decide) (.slice none 0 0) xs.length xs ⟨by omega, .inl ⟨rfl, hn⟩⟩ a data.length c data (by omega) hc hs.1 (by simp only [maxLen]; omega) (by omega) (Nat.le_refl _)
      rw [r1] at q1
      injection q1 with e1 e2
      subst e1
      exact .inr (q2.lt k hk).1
    · by_cases hroom : xs.length + data.length ≤ cap
      · have hr := run_append_room (P := Tryd.prog) w 37 37 5 i Tryd.underlying37 hi g' xs.length cap cur hg a data.length c data (by rw [h1]; omega) hc hs.1 hroom (by rw [h1, hcs]; omega)
        rw [r1] at hr
        injection hr with e1 e2
        subst e1
        exact .inl hk
      · have hr := run_append_grow (P := Tryd.prog) w 37 37 5 i (.int .u8 0) Tryd.underlying37 hi hz ⟨g', 0, none⟩ xs.length cap xs (by rw [h1]; omega) (ho.cells (g := g') rfl) a data.length c data (by rw [h1]; omega) hc (by omega) (by omega) (growslice_fits (by omega) (by rw [h2]; omega))
        rw [r1] at hr
        injection hr with e1 e2
        subst e1
        simp [Value.ownBlock] at hk
        exact .inr (by omega)
theorem wpList_append_eq {w W : World} {ops : Array Oper} {rest : List Oper} {o : Oper} {a : Act} {Q : Exit → Act → World → Prop} (hgd : o.guard = none) (s x : Operand)
    (ho : o.op = .call { callee := .builtin .append, args := #[s, x], argTypes := #[37, 37] }) (v sv v' : Value) (hs : a.eval s = v) (hx : a.eval x = sv) (hr : Hid (∀ ty, (Builtin.append_ #[37, 37] ty #[v, sv]).run Tryd.prog w = .ok v' W))
    (h : wpList Tryd.prog ops Q rest (a.put o.dst v') W) : wpList Tryd.prog ops Q (o :: rest) a w := by
  refine wpList_plain hgd fun K hK => ?_
  unfold Oper.wp
  simp [execOp, ho, resolve, invoke, builtin, hs, hx, hr.out, Result.andThen]
  exact hK _ _ h
theorem len_src {w : World} {g gf : Nat} {dv : Value} {data : List Value} (h : Src w g gf dv data) (W : World) : (Builtin.len_ #[37] 3 #[dv]).run Tryd.prog W = .ok (.int .i64 data.length) W := by
  rcases h.2 with ⟨rfl, rfl⟩ | ⟨a, m, c, rfl, rfl, hc⟩
  · simp [Builtin.len_, goInt]
  · simp [Builtin.len_, goInt]
theorem own_ne {w : World} {base : Nat} {v : Value} {n : Nat} {xs : List Value} (ho : w.ownsRow base 5 1 v n xs) {g : Nat} {cur : Array Value} {t : TypeId} {f : Nat × Nat} (hg : w.heap[g]? = some (.cells cur t f)) (ht : t ≠ 5) : v.ownBlock ≠ some g := by
  rcases ho.2 with ⟨rfl, _⟩ | ⟨g', cap, cur', rfl, _, hg', _⟩
  · simp [Value.ownBlock]
  · simp only [Value.ownBlock]
    intro e
    injection e with e
    subst e
    rw [hg] at hg'
    injection hg' with e1
    injection e1 with e1 e2
    exact ht e2
set_option maxHeartbeats 1600000 in
set_option maxRecDepth 8000 in
theorem write_any (base g gp gn gd gf : Nat) (q ops used next writes wrote reads rb seeks : Int) (ch bv dv : Value) (xs data : List Value) (w : World) (hg : w.heap[g]? = some (.cells (dk g q ops gp gn gd ch used) 68 (0, 0))) (hf : w.heap[gf]? = some (.cells (fl bv next writes wrote reads rb seeks) 79 (0, 0))) (hs : Src w g gf dv data) (ho : w.ownsRow base 5 1 bv xs.length xs) (hl : xs.length + data.length ≤ 1073741824) (hb : base ≤ w.heap.size)
    (u0 : 0 ≤ used) (u1 : used ≤ 1073741824) (a0 : 0 ≤ writes) (a1 : writes < 4611686018427387904) (b0 : 0 ≤ wrote) (b1 : wrote < 4611686018427387904) :
    Calls Tryd.prog 29 #[.pointer (some ⟨g, 0, none⟩), .pointer (some ⟨gf, 0, none⟩), dv] w fun e w' => e = .returned (.tuple #[]) ∧ ∃ bv', w'.heap[g]? = some (.cells (dk g q ops gp gn gd ch (used + data.length)) 68 (0, 0)) ∧ w'.heap[gf]? = some (.cells (fl bv' next (writes + 1) (wrote + data.length) reads rb seeks) 79 (0, 0)) ∧ w'.ownsRow base 5 1 bv' (xs ++ data).length (xs ++ data) ∧ Frm w w' (fun k => k = g ∨ k = gf ∨ bv.ownBlock = some k) ∧ ∀ k, bv'.ownBlock = some k → bv.ownBlock = some k ∨ w.heap.size ≤ k := by
  have hgf : g ≠ gf := by rintro rfl; rw [hg] at hf; injection hf with e; injection e with e1 e2; exact absurd e2 (by decide)
  obtain ⟨bp, bn, bc, rfl⟩ : ∃ p n c, bv = .slice p n c := own_slice ho
  have ng := own_ne ho hg (by decide)
  have nf := own_ne ho hf (by decide)
  have hlen := len_src hs
  obtain ⟨x0, y0⟩ := dcell hf 0 (.slice bp bn bc) rfl
  have hlw := (Array.getElem?_eq_some_iff.1 hf).1
  obtain ⟨v', W1, r1, r2, r3, r4⟩ := app_src w base g gf (.slice bp bn bc) dv xs data ho hs hl hb
  obtain ⟨sp, sn, sc0, rfl⟩ : ∃ p n c, v' = .slice p n c := own_slice r2
  have R1 : Hid (∀ ty, (Builtin.append_ #[37, 37] ty #[.slice bp bn bc, dv]).run Tryd.prog w = .ok (.slice sp sn sc0) W1) := r1
  clear r1
  have f1 := Frm.of_grown r3
  have g1 := (f1.block g (Array.getElem?_eq_some_iff.1 hg).1 ng).trans hg
  have h1 := (f1.block gf (Array.getElem?_eq_some_iff.1 hf).1 nf).trans hf
  have HF : Hid (∀ a b c d, Frm W1 ((((W1.setCell ⟨gf, 0, none⟩ a).setCell ⟨gf, 8, none⟩ b).setCell ⟨gf, 9, none⟩ c).setCell ⟨g, 10, none⟩ d) (fun k => k = g ∨ k = gf)) := fun a b c d =>
    ((((Frm.refl W1 _).trans (Frm.setCell _ _ _) (fun k _ e => .inr e)).trans (Frm.setCell _ _ _) (fun k _ e => .inr e)).trans (Frm.setCell _ _ _) (fun k _ e => .inr e)).trans (Frm.setCell _ _ _) (fun k _ e => .inl e)
  have lg := (Array.getElem?_eq_some_iff.1 hg).1
  have O4 : Hid (w.grownBy W1 (Value.slice bp bn bc).ownBlock ∧ W1.ownsRow base 5 1 (.slice sp sn sc0) (xs ++ data).length (xs ++ data) ∧ ∀ k, (Value.slice sp sn sc0).ownBlock = some k → (Value.slice bp bn bc).ownBlock = some k ∨ w.heap.size ≤ k) := ⟨r3, r2, r4⟩
  clear r3 r2 r4 f1 hs ho
  obtain ⟨z1, z0⟩ := dcell h1 0 (.slice bp bn bc) rfl
  obtain ⟨x8, y8⟩ := dcell h1 8 (.int .i64 writes) rfl
  obtain ⟨x9, y9⟩ := dcell h1 9 (.int .i64 wrote) rfl
  obtain ⟨x10, y10⟩ := dcell g1 10 (.int .i64 used) rfl
  go_enter Tryd.func29, Tryd.ntmps29
  go_wp2_with (at_builtin; refine wpList_append_eq rfl _ _ rfl (.slice bp bn bc) dv (.slice sp sn sc0) (by rfl) (by rfl) R1 ?_)
  go_returns
  refine ⟨rfl, .slice sp sn sc0, sc (so (so (so g1 hgf 0 _) hgf 8 _) hgf 9 _) 10 _, so (sc (sc (sc h1 0 _) 8 _) 9 _) (Ne.symm hgf) 10 _, ?_, ?_, O4.out.2.2⟩
  · have F : Frm W1 ((((W1.setCell ⟨gf, 0, none⟩ (.slice sp sn sc0)).setCell ⟨gf, 8, none⟩ (.int .i64 (writes + 1))).setCell ⟨gf, 9, none⟩ (.int .i64 (wrote + data.length))).setCell ⟨g, 10, none⟩ (.int .i64 (used + data.length))) (fun k => k = g ∨ k = gf) := HF.out _ _ _ _
    exact own_frm O4.out.2.1 F (fun k hk => by
      rcases O4.out.2.2 k hk with e | e
      · exact fun hh => hh.elim (fun x => ng (x ▸ e)) (fun x => nf (x ▸ e))
      · exact fun hh => hh.elim (fun x => by omega) (fun x => by omega))
  · exact (Frm.of_grown O4.out.1).trans' (HF.out _ _ _ _) (fun k hk hh => .inr (.inr hh)) (fun k hk hh => hh.elim .inl (fun x => .inr (.inl x)))
end Pb
end Go.Proofs.YtiljdiagabepbaaDoor
