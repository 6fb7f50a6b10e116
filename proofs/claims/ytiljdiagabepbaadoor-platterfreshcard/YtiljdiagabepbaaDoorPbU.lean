import Derived.Test.YtiljdiagabepbaaDoorPbK
import Derived.Test.YtiljdiagabepbaaDoorPbO
import Derived.Test.YtiljdiagabepbaaDoorPbS
import Derived.Test.YtiljdiagabepbaaDoorPbT
import Derived.Lib.SlBytesConst
namespace Go.Proofs.YtiljdiagabepbaaDoor
namespace Pb
open Go.RowKit
set_option linter.unusedVariables false
/-- The pieces one behind the other. -/
def ct (F : Nat → List Value) : Nat → List Value
  | 0 => []
  | n + 1 => ct F n ++ F n
theorem ct_len (F : Nat → List Value) (n : Nat) : (ct F (n + 1)).length = (ct F n).length + (F n).length := by simp [ct]
theorem ct_mono (F : Nat → List Value) {i n : Nat} (h : i ≤ n) : (ct F i).length ≤ (ct F n).length := by
  induction n with
  | zero => obtain rfl : i = 0 := by omega
            exact Nat.le_refl _
  | succ n ih =>
    by_cases e : i = n + 1
    · subst e; exact Nat.le_refl _
    · rw [ct_len]; have := ih (by omega); omega
/-- The pieces, as they came in. -/
structure PR (W : World) (a : Option Addr) (len : Nat) (D : Nat → Value) (F : Nat → List Value) : Prop where
  small : len ≤ 1125899906842624
  at' : ∀ i, i < len → ∃ p, a = some p ∧ W.cell? (p.add i) = some (D i)
  bys : ∀ i, i < len → Bys (F i)
  rows : ∀ i, i < len → (D i = .slice none 0 0 ∧ F i = []) ∨ ∃ b c, D i = .slice (some b) (F i).length c ∧ ∀ j u, (F i)[j]? = some u → W.cell? (b.add j) = some u
  tot : (ct F len).length ≤ 1125899906842624
theorem PR.slice {W : World} {a : Option Addr} {len : Nat} {D : Nat → Value} {F : Nat → List Value} (h : PR W a len D F) (i : Nat) (hi : i < len) : ∃ p c, D i = .slice p (F i).length c := by
  rcases h.rows i hi with ⟨e, e2⟩ | ⟨b, c, e, _⟩
  · exact ⟨none, 0, by rw [e, e2]; rfl⟩
  · exact ⟨_, _, e⟩
theorem PR.src {W w : World} {a : Option Addr} {len : Nat} {D : Nat → Value} {F : Nat → List Value} (h : PR W a len D F) (i : Nat) (hi : i < len) (hb : Below W.heap.size W w) (g gf : Nat) (h1 : W.heap.size ≤ g) (h2 : W.heap.size ≤ gf) : Src w g gf (D i) (F i) := by
  refine ⟨(h.bys i hi).one, ?_⟩
  rcases h.rows i hi with e | ⟨b, c, e, hc⟩
  · exact .inl e
  · refine .inr ⟨b, _, c, e, rfl, fun j u hj => ?_⟩
    have hl := World.block_lt_of_cell? _ _ (hc j u hj)
    have e2 := add_block b j
    exact ⟨by omega, by omega, (hb.cell (p := b.add j) hl).trans (hc j u hj)⟩
theorem ct_bys {W : World} {a : Option Addr} {len : Nat} {D : Nat → Value} {F : Nat → List Value} (h : PR W a len D F) (n : Nat) (hn : n ≤ len) : Bys (ct F n) := by
  induction n with
  | zero => intro v hv; cases hv
  | succ n ih => exact (ih (by omega)).append (h.bys n (by omega))
theorem ST.away {w0 w w' : World} {g gp gn gd gf : Nat} {q ops used next writes wrote reads rb seeks : Int} {ch bv : Value} {xs : List Value} {S : Nat → Prop} (h : ST w0 w g gp gn gd gf q ops used next writes wrote reads rb seeks ch bv xs) (hf : Frm w w' S) (hS : ∀ k, S k → w0.heap.size ≤ k) (s1 : ¬ S g) (s2 : ¬ S gp) (s3 : ¬ S gn) (s4 : ∀ k, bv.ownBlock = some k → ¬ S k) (s5 : ¬ S gf) : ST w0 w' g gp gn gd gf q ops used next writes wrote reads rb seeks ch bv xs :=
  h.turn hf hS s1 s2 s3 s4 ((hf.block gf (Array.getElem?_eq_some_iff.1 h.hf).1 s5).trans h.hf)
/-- A row of our own beside the file's bytes. -/
structure OW (W w : World) (bv al : Value) (ys : List Value) : Prop where
  ow : w.ownsRow W.heap.size 5 1 al ys.length ys
  ne : ∀ b, al.ownBlock = some b → bv.ownBlock ≠ some b
theorem OW.move {W w w' : World} {bv bv' al : Value} {ys : List Value} {S : Nat → Prop} (h : OW W w bv al ys) (hf : Frm w w' S) (hS : ∀ k, al.ownBlock = some k → ¬ S k) (hb : ∀ k, bv'.ownBlock = some k → bv.ownBlock = some k ∨ w.heap.size ≤ k) : OW W w' bv' al ys :=
  ⟨own_frm h.ow hf hS, fun b e1 e2 => (hb b e2).elim (fun e => h.ne b e1 e) (fun e => by have := (h.ow.lt b e1).2; omega)⟩
theorem OW.frm {W w w' : World} {bv al : Value} {ys : List Value} (h : OW W w bv al ys) (hf : Frm w w' (fun _ => False)) : OW W w' bv al ys := h.move hf (fun _ _ e => e) (fun _ e => .inl e)
/-- append to our own row. -/
theorem OW.app {W w : World} {g gp gn gd gf : Nat} {q ops used next writes wrote reads rb seeks : Int} {ch bv al dv : Value} {xs ys data : List Value} (st : ST W w g gp gn gd gf q ops used next writes wrote reads rb seeks ch bv xs) (h : OW W w bv al ys) (src : Src w g gf dv data) (hl : ys.length + data.length ≤ 1073741824) :
    ∃ v' w', Hid (∀ ty, (Builtin.append_ #[37, 37] ty #[al, dv]).run Tryd.prog w = .ok v' w') ∧ ST W w' g gp gn gd gf q ops used next writes wrote reads rb seeks ch bv xs ∧ OW W w' bv v' (ys ++ data) ∧ Frm w w' (fun k => al.ownBlock = some k) ∧ (∀ k, v'.ownBlock = some k → al.ownBlock = some k ∨ w.heap.size ≤ k) ∧ ∃ p n c, v' = .slice p n c := by
  obtain ⟨v', w', r1, r2, r3, r4⟩ := app_src w W.heap.size g gf al dv ys data h.ow src hl st.bel.size
  have f := Frm.of_grown r3
  refine ⟨v', w', r1, st.away f (fun k e => (h.ow.lt k e).1) (fun e => own_ne h.ow st.hg (by decide) e) (fun e => own_nm h.ow st.hp e) (fun e => own_nm h.ow st.hn e) (fun k e1 e2 => h.ne k e2 e1) (fun e => own_ne h.ow st.hf (by decide) e), ⟨r2, fun b e1 e2 => ?_⟩, f, r4, own_slice r2⟩
  rcases r4 b e1 with e | e
  · exact h.ne b e e2
  · have := (st.ho.lt b e2).2; omega
set_option maxRecDepth 8000 in
theorem num_any (x : Int) (w : World) : Calls Tryd.prog 7 #[.int .i64 x] w fun e w' => e = .returned (.int .i64 x) ∧ w' = w := by
  go_enter Tryd.func7, Tryd.ntmps7
  go_wp2
  go_ret
  exact ⟨rfl, rfl⟩
theorem new_facts (w : World) (q : Int) : ∃ v, (((w.alloc (.map #[] 0)).alloc (.map #[] 0)).alloc (.map #[] 0)).alloc (.cells (dk (w.heap.size + 1 + 1 + 1) q 0 w.heap.size (w.heap.size + 1) (w.heap.size + 1 + 1) (.slice none 0 0) 0) 68) = v ∧ Below w.heap.size w v ∧ v.heap[w.heap.size + 1 + 1 + 1]? = some (.cells (dk (w.heap.size + 1 + 1 + 1) q 0 w.heap.size (w.heap.size + 1) (w.heap.size + 1 + 1) (.slice none 0 0) 0) 68 (0, 0)) ∧ v.heap[w.heap.size]? = some (.map #[] 0) ∧ v.heap[w.heap.size + 1]? = some (.map #[] 0) := by
  obtain ⟨h1, h2, h3⟩ := three_blk w (.map #[] 0) (.map #[] 0) (.map #[] 0)
  have e : (((w.alloc (.map #[] 0)).alloc (.map #[] 0)).alloc (.map #[] 0)).heap.size = w.heap.size + 1 + 1 + 1 := by simp
  refine ⟨_, rfl, ((((Below.refl _ _).alloc (Nat.le_refl _) _).alloc (by simp) _).alloc (by simp; omega) _).alloc (by simp; omega) _, ?_, ?_, ?_⟩
  · have := heap_alloc_last (((w.alloc (.map #[] 0)).alloc (.map #[] 0)).alloc (.map #[] 0)) (.cells (dk (w.heap.size + 1 + 1 + 1) q 0 w.heap.size (w.heap.size + 1) (w.heap.size + 1 + 1) (.slice none 0 0) 0) 68)
    rw [e] at this
    exact this
  · exact (Go.Deep.blk_alloc_lt _ _ _ (by omega)).trans h1
  · exact (Go.Deep.blk_alloc_lt _ _ _ (by omega)).trans h2
theorem ST.of_create {W w : World} {g gp gn gd gf : Nat} {q ops used : Int} {ch : Value} (h : DS W w g gp gn gd gf q ops used ch (fl (.slice none 0 0) 0 0 0 0 0 0)) : ST W w g gp gn gd gf q ops used 0 0 0 0 0 0 ch (.slice none 0 0) [] :=
  ⟨h.1, h.2.1, h.2.2.2.1, h.2.2.2.2.1, h.2.2.2.2.2.1, h.2.2.2.2.2.2.1, h.2.2.2.2.2.2.2.1, ⟨rfl, .inl ⟨rfl, rfl⟩⟩⟩
/-- Behind k pieces. -/
structure L2 (W w : World) (g gp gn gd gf T : Nat) (ch : Value) (F : Nat → List Value) (k : Nat) (al bv : Value) : Prop where
  st : ST W w g gp gn gd gf T (1 + k) (ct F k).length 0 k (ct F k).length 0 0 0 ch bv (ct F k)
  ow : OW W w bv al (ct F k)
theorem L2.start {W w : World} {g gp gn gd gf T : Nat} {ch : Value} (F : Nat → List Value) (h : DS W w g gp gn gd gf T 1 0 ch (fl (.slice none 0 0) 0 0 0 0 0 0)) : L2 W w g gp gn gd gf T ch F 0 (.slice none 0 0) (.slice none 0 0) :=
  ⟨ST.of_create h, ⟨⟨rfl, .inl ⟨rfl, rfl⟩⟩, fun b e => by simp [Value.ownBlock] at e⟩⟩
/-- A piece appended to the file, not yet to our row. -/
structure L3 (W w : World) (g gp gn gd gf T : Nat) (ch : Value) (F : Nat → List Value) (k : Nat) (al bv : Value) : Prop where
  st : ST W w g gp gn gd gf T (1 + ((k + 1 : Nat) : Int)) (ct F (k + 1)).length 0 ((k + 1 : Nat) : Int) (ct F (k + 1)).length 0 0 0 ch bv (ct F (k + 1))
  ow : OW W w bv al (ct F k)
theorem L2.app {W w : World} {g gp gn gd gf T : Nat} {ch : Value} {F : Nat → List Value} {k : Nat} {al bv : Value} (h : L2 W w g gp gn gd gf T ch F k al bv) (dv : Value) (src : Src w g gf dv (F k)) (ht : (ct F (k + 1)).length ≤ T) (hT : T ≤ 1048576) (hk : k ≤ 1125899906842624) :
    Calls Tryd.prog 11 #[.pointer (some ⟨g, 0, none⟩), .string ⟨#[102]⟩, dv] w fun e w' => e = .returned (.int .i64 0) ∧ ∃ bv', L3 W w' g gp gn gd gf T ch F k al bv' := by
  have hc := ct_len F k
  refine (append_ok W w g gp gn gd gf T (1 + k) (ct F k).length 0 k (ct F k).length 0 0 0 ch bv dv (ct F k) (F k) h.st src (by omega) (by omega) (by omega) (by omega) (by omega) (by omega) (by omega) (by omega) (by omega) (by omega) (by omega)).mono ?_
  rintro e w' ⟨rfl, bv', s, f, n⟩
  refine ⟨rfl, bv', ⟨?_, h.ow.move f (fun k e => ?_) n⟩⟩
  · have e1 : (1 + (k : Int) + 1) = 1 + ((k + 1 : Nat) : Int) := by omega
    have e2 : ((ct F k).length : Int) + ((F k).length : Int) = ((ct F (k + 1)).length : Int) := by omega
    have e3 : (k : Int) + 1 = ((k + 1 : Nat) : Int) := by omega
    rw [e1, e2, e3] at s
    exact s
  · rintro (e2 | e2 | e2)
    · exact own_ne h.ow.ow h.st.hg (by decide) (e2 ▸ e)
    · exact own_ne h.ow.ow h.st.hf (by decide) (e2 ▸ e)
    · exact h.ow.ne k e e2
theorem L3.grow {W w : World} {g gp gn gd gf T : Nat} {ch : Value} {F : Nat → List Value} {k : Nat} {al bv : Value} (h : L3 W w g gp gn gd gf T ch F k al bv) (dv : Value) (src : Src w g gf dv (F k)) (ht : (ct F (k + 1)).length ≤ T) (hT : T ≤ 1048576) :
    ∃ p n c w', Hid (∀ ty, (Builtin.append_ #[37, 37] ty #[al, dv]).run Tryd.prog w = .ok (.slice p n c) w') ∧ L2 W w' g gp gn gd gf T ch F (k + 1) (.slice p n c) bv := by
  have hc := ct_len F k
  obtain ⟨v', w', r, s, o, _, _, p, n, c, rfl⟩ := OW.app h.st h.ow src (by omega)
  exact ⟨p, n, c, w', r, ⟨s, o⟩⟩
/-- Behind the byte that did not fit. -/
structure L4 (W w : World) (g gp gn gd gf T : Nat) (ch : Value) (xs : List Value) (k : Nat) (al bv : Value) : Prop where
  st : ST W w g gp gn gd gf T (1 + k + 1) T 0 k T 0 0 0 ch bv xs
  ow : OW W w bv al xs
theorem L2.full {W w : World} {g gp gn gd gf T : Nat} {ch : Value} {F : Nat → List Value} {k : Nat} {al bv : Value} (h : L2 W w g gp gn gd gf T ch F k al bv) (ht : (ct F k).length = T) (hT : T ≤ 1048576) (hk : k ≤ 1125899906842624) (c : Nat) :
    Calls Tryd.prog 11 #[.pointer (some ⟨g, 0, none⟩), .string ⟨#[102]⟩, .slice (some ⟨w.heap.size, 0, none⟩) 1 c] (w.alloc (.cells #[.int .u8 120] 5 (1, 2))) fun e w' => e = .returned (.int .i64 33) ∧ L4 W w' g gp gn gd gf T ch (ct F k) k al bv := by
  have f1 : Frm w (w.alloc (.cells #[.int .u8 120] 5 (1, 2))) (fun _ => False) := Frm.of_below ((Below.refl _ _).alloc (Nat.le_refl _) _)
  have lg := (Array.getElem?_eq_some_iff.1 h.st.hg).1
  have lf := (Array.getElem?_eq_some_iff.1 h.st.hf).1
  have src : Src (w.alloc (.cells #[.int .u8 120] 5 (1, 2))) g gf (.slice (some ⟨w.heap.size, 0, none⟩) 1 c) [.int .u8 120] := by
    refine ⟨by simp [Value.oneCell'], .inr ⟨_, _, _, rfl, rfl, fun j u hj => ⟨?_, ?_, ?_⟩⟩⟩
    · show w.heap.size ≠ g; omega
    · show w.heap.size ≠ gf; omega
    · rw [Addr.add_lit, cell_of_row _ w.heap.size _ _ 5 (1, 2) (heap_alloc_last w _)]
      simpa using hj
  refine (append_no W _ g gp gn gd gf T (1 + k) (ct F k).length 0 k (ct F k).length 0 0 0 ch bv _ (ct F k) [.int .u8 120] (h.st.frm f1) src (by simp; omega) (by simp; omega) (by omega) (by omega) (by omega) (by omega) (by omega) (by omega) (by omega) (by omega) (by omega) (by omega)).mono ?_
  rintro e w' ⟨rfl, s, f⟩
  have o1 := h.ow.frm f1
  refine ⟨rfl, ⟨?_, o1.move f (fun k e e2 => own_ne h.ow.ow h.st.hg (by decide) (e2 ▸ e)) (fun _ e => .inl e)⟩⟩
  rw [ht] at s
  exact s
/-- k bytes read back, in r reads. -/
structure L5 (W w : World) (g gp gn gd gf T : Nat) (ch : Value) (xs : List Value) (j : Nat) (al bv gv : Value) (k r : Nat) : Prop where
  st : ST W w g gp gn gd gf T (1 + j + 1 + r) T k j T r k 0 ch bv xs
  ow : OW W w bv al xs
  og : OW W w bv gv (xs.take k)
  ng : ∀ b, gv.ownBlock = some b → al.ownBlock ≠ some b
  kT : k ≤ T
  rk : r ≤ k
  hl : xs.length = T
theorem L4.start {W w : World} {g gp gn gd gf T : Nat} {ch : Value} {xs : List Value} {j : Nat} {al bv : Value} (h : L4 W w g gp gn gd gf T ch xs j al bv) (hl : xs.length = T) : L5 W w g gp gn gd gf T ch xs j al bv (.slice none 0 0) 0 0 :=
  ⟨by have := h.st; simpa using this, h.ow, ⟨⟨rfl, .inl ⟨rfl, rfl⟩⟩, fun b e => by simp [Value.ownBlock] at e⟩, fun b e => by simp [Value.ownBlock] at e, by omega, by omega, hl⟩
/-- A buffer made. -/
theorem L5.made {W w : World} {g gp gn gd gf T : Nat} {ch : Value} {xs : List Value} {j : Nat} {al bv gv : Value} {k r : Nat} (h : L5 W w g gp gn gd gf T ch xs j al bv gv k r) (m : Nat) (hm : m ≤ 1073741824) :
    ∃ (w' : World) (cur : List Value), (Instr.makeSlice 37 (.int .i64 m) (.int .i64 m)).run Tryd.prog w = .ok (.slice (some ⟨w.heap.size, 0, none⟩) m m) w' ∧ w'.heap[w.heap.size]? = some (.cells cur.toArray 5 (0, 0)) ∧ cur.length = m ∧ L5 W w' g gp gn gd gf T ch xs j al bv gv k r ∧ (∀ v : Value, v = al ∨ v = bv ∨ v = gv → v.ownBlock ≠ some w.heap.size) := by
  obtain ⟨i, hi, hz, h1, h2⟩ := info5
  obtain ⟨w', r1, r2, r3⟩ := run_make_full (P := Tryd.prog) (w := w) w.heap.size 37 5 i (.int .u8 0) 1 Tryd.underlying37 hi hz h1 .i64 .i64 m (by rw [h2]; omega) (by simp only [maxLen]; omega) (Nat.le_refl _)
  have f : Frm w w' (fun _ => False) := ⟨r3.os, r3.tape, r3.output, r3.size, fun k hk _ => r3.block k hk (by simp)⟩
  rcases r2.2 with ⟨e, _⟩ | ⟨g', cap, cur, e, hb, hg, hnc, hcm, hcs, htake⟩
  · cases e
  · injection e with e1 e2 e3
    injection e1 with e1
    injection e1 with e1
    subst e1 e3
    refine ⟨w', cur.toList, r1, by simpa using hg, by simp [hcs], ⟨h.st.frm f, h.ow.frm f, h.og.frm f, h.ng, h.kT, h.rk, h.hl⟩, ?_⟩
    rintro v (rfl | rfl | rfl) e
    · have := (h.ow.ow.lt _ e).2; omega
    · have := (h.st.ho.lt _ e).2; omega
    · have := (h.og.ow.lt _ e).2; omega
/-- A read behind which our row is not yet grown. -/
structure L6 (W w : World) (g gp gn gd gf T : Nat) (ch : Value) (xs : List Value) (j : Nat) (al bv gv : Value) (k r m : Nat) : Prop where
  st : ST W w g gp gn gd gf T (1 + j + 1 + ((r + 1 : Nat) : Int)) T ((k + m : Nat) : Int) j T ((r + 1 : Nat) : Int) ((k + m : Nat) : Int) 0 ch bv xs
  ow : OW W w bv al xs
  og : OW W w bv gv (xs.take k)
  ng : ∀ b, gv.ownBlock = some b → al.ownBlock ≠ some b
theorem L5.read {W w : World} {g gp gn gd gf T : Nat} {ch : Value} {xs : List Value} {j : Nat} {al bv gv : Value} {k r : Nat} (h : L5 W w g gp gn gd gf T ch xs j al bv gv k r) (gb m : Nat) (cur : List Value) (hb : w.heap[gb]? = some (.cells cur.toArray 5 (0, 0))) (hm : cur.length = m) (hgb : ∀ v : Value, v = al ∨ v = bv ∨ v = gv → v.ownBlock ≠ some gb) (hgb0 : W.heap.size ≤ gb) (hm1 : m ≤ 1073741824) (hT : T ≤ 1048576) (hj : j ≤ 1125899906842624) (hby : Bys xs) :
    Calls Tryd.prog 12 #[.pointer (some ⟨g, 0, none⟩), .string ⟨#[102]⟩, .int .i64 k, .slice (some ⟨gb, 0, none⟩) m m] w fun e w' => e = .returned (.tuple #[.int .i64 ((xs.drop k).take m).length, .int .i64 0]) ∧ L6 W w' g gp gn gd gf T ch xs j al bv gv k r ((xs.drop k).take m).length ∧ Src w' g gf (.slice (some ⟨gb, 0, none⟩) ((xs.drop k).take m).length m) ((xs.drop k).take m) := by
  have hkT := h.kT
  have hrk := h.rk
  have hl := h.hl
  refine (readat_ok W w g gp gn gd gf gb k m T (1 + j + 1 + r) T k j T r k 0 ch bv xs cur h.st (by omega) (by omega) hb hm (hgb bv (.inr (.inl rfl))) (by omega) (by omega) hm1 rfl hby.one hgb0 (by omega) (by omega) (by omega) (by omega)).mono ?_
  rintro e w' ⟨rfl, s, hb', f⟩
  refine ⟨rfl, ⟨?_, h.ow.move f ?_ (fun _ e => .inl e), h.og.move f ?_ (fun _ e => .inl e), h.ng⟩, ?_⟩
  · have e1 : (1 + (j : Int) + 1 + (r : Int) + 1) = 1 + (j : Int) + 1 + ((r + 1 : Nat) : Int) := by omega
    have e2 : (k : Int) + (((xs.drop k).take m).length : Int) = ((k + ((xs.drop k).take m).length : Nat) : Int) := by omega
    have e3 : (r : Int) + 1 = ((r + 1 : Nat) : Int) := by omega
    rw [e1, e2, e3] at s
    exact s
  · rintro b e (e2 | e2 | e2)
    · exact own_ne h.ow.ow h.st.hg (by decide) (e2 ▸ e)
    · exact own_ne h.ow.ow h.st.hf (by decide) (e2 ▸ e)
    · exact hgb al (.inl rfl) (e2 ▸ e)
  · rintro b e (e2 | e2 | e2)
    · exact own_ne h.og.ow h.st.hg (by decide) (e2 ▸ e)
    · exact own_ne h.og.ow h.st.hf (by decide) (e2 ▸ e)
    · exact hgb gv (.inr (.inr rfl)) (e2 ▸ e)
  · refine ⟨fun v hv => hby.one v (List.mem_of_mem_drop (List.mem_of_mem_take hv)), .inr ⟨_, _, _, rfl, rfl, fun i u hi => ⟨?_, ?_, ?_⟩⟩⟩
    · exact fun e => cc_ne hb h.st.hg (by decide) e
    · exact fun e => cc_ne hb h.st.hf (by decide) e
    · rw [Addr.add_lit, cell_of_row _ gb _ _ 5 (0, 0) hb']
      have hil : i < ((xs.drop k).take m).length := by
        rcases Nat.lt_or_ge i ((xs.drop k).take m).length with hh | hh
        · exact hh
        · rw [List.getElem?_eq_none hh] at hi; cases hi
      have : (splice cur 0 ((xs.drop k).take m))[i]? = some u := by
        unfold splice
        rw [List.take_zero, List.nil_append, List.getElem?_append_left hil]
        exact hi
      simpa using this
theorem L6.grow {W w : World} {g gp gn gd gf T : Nat} {ch : Value} {xs : List Value} {j : Nat} {al bv gv : Value} {k r m n : Nat} (h : L6 W w g gp gn gd gf T ch xs j al bv gv k r n) (hn : n = ((xs.drop k).take m).length) (h1 : 1 ≤ n) (hkT : k ≤ T) (hrk : r ≤ k) (hl : xs.length = T) (hT : T ≤ 1048576) (dv : Value) (src : Src w g gf dv ((xs.drop k).take m)) :
    ∃ p l c w', Hid (∀ ty, (Builtin.append_ #[37, 37] ty #[gv, dv]).run Tryd.prog w = .ok (.slice p l c) w') ∧ L5 W w' g gp gn gd gf T ch xs j al bv (.slice p l c) (k + n) (r + 1) := by
  have hn2 : n ≤ xs.length - k := by rw [hn]; simp; omega
  have ht : (xs.take k).length = k := by simp; omega
  obtain ⟨v', w', q, s, o, f, ob, p, l, c, rfl⟩ := OW.app h.st h.og src (by omega)
  refine ⟨p, l, c, w', q, ⟨s, h.ow.move f (fun b e e2 => h.ng b e2 e) (fun _ e => .inl e), ?_, fun b e e2 => ?_, by omega, by omega, hl⟩⟩
  · have e : xs.take k ++ (xs.drop k).take m = xs.take (k + n) := by
      rw [List.take_add, hn]
      congr 1
      rw [List.length_take, List.take_eq_take_iff]
      omega
    rw [← e]; exact o
  · rcases ob b e with e3 | e3
    · exact h.ng b e3 e2
    · have := (h.ow.ow.lt b e2).2; omega
/-- All read back, and what is behind the end asked for. -/
structure L7 (W w : World) (g gp gn gd gf T : Nat) (ch : Value) (xs : List Value) (j : Nat) (al bv gv : Value) (r : Nat) : Prop where
  st : ST W w g gp gn gd gf T (1 + j + 1 + ((r + 1 : Nat) : Int) + 1) T (T : Nat) j T ((r + 1 : Nat) : Int) (T : Nat) 0 ch bv xs
  ow : OW W w bv al xs
  og : OW W w bv gv xs
theorem L6.far {W w : World} {g gp gn gd gf T : Nat} {ch : Value} {xs : List Value} {j : Nat} {al bv gv : Value} {r n : Nat} (h : L6 W w g gp gn gd gf T ch xs j al bv gv T r n) (hn : n = 0) (hl : xs.length = T) (hT : T ≤ 1048576) (hj : j ≤ 1125899906842624) (hr : r ≤ T) :
    Calls Tryd.prog 12 #[.pointer (some ⟨g, 0, none⟩), .string ⟨#[102]⟩, .int .i64 ((T : Int) + 1), .slice none 0 0] w fun e w' => e = .returned (.tuple #[.int .i64 0, .int .i64 34]) ∧ L7 W w' g gp gn gd gf T ch xs j al bv gv r := by
  subst hn
  have e1 : ((T : Int) + 1) = ((T + 1 : Nat) : Int) := by omega
  rw [e1]
  have hs := h.st
  refine (readat_no W w g gp gn gd gf (T + 1) T (1 + j + 1 + ((r + 1 : Nat) : Int)) T ((T + 0 : Nat) : Int) j T ((r + 1 : Nat) : Int) ((T + 0 : Nat) : Int) 0 ch bv xs hs (by omega) (by omega) (by omega) (by omega) (by omega)).mono ?_
  rintro e w' ⟨rfl, s, f⟩
  have hx : xs.take T = xs := by rw [← hl]; exact List.take_length
  have og := h.og
  rw [hx] at og
  exact ⟨rfl, ⟨s, h.ow.move f (fun b e e2 => own_ne h.ow.ow h.st.hg (by decide) (e2 ▸ e)) (fun _ e => .inl e), og.move f (fun b e e2 => own_ne h.og.ow h.st.hg (by decide) (e2 ▸ e)) (fun _ e => .inl e)⟩⟩
/-- Behind Stats. -/
structure L8 (W w : World) (xs : List Value) (al gv : Value) (b : Nat) (T : Nat) : Prop where
  bel : Below W.heap.size W w
  ow : w.ownsRow W.heap.size 5 1 al xs.length xs
  og : w.ownsRow W.heap.size 5 1 gv xs.length xs
  c4 : w.cell? ⟨b, 4, none⟩ = some (.int .i64 T)
  c7 : w.cell? ⟨b, 7, none⟩ = some (.int .i64 0)
theorem L7.stats {W w : World} {g gp gn gd gf T : Nat} {ch : Value} {xs : List Value} {j : Nat} {al bv gv : Value} {r : Nat} (h : L7 W w g gp gn gd gf T ch xs j al bv gv r) (hl : xs.length = T) (hT : T ≤ 1048576) :
    Calls Tryd.prog 10 #[.pointer (some ⟨g, 0, none⟩)] w fun e w' => ∃ b cap, e = .returned (.slice (some ⟨b, 0, none⟩) 1 cap) ∧ L8 W w' xs al gv b T := by
  refine (stats_one sorted_one W w g gp gn gd gf _ _ _ _ _ _ _ _ _ ch bv xs h.st (by omega)).mono ?_
  rintro e w' ⟨b, cap, rfl, hb, c4, c7, bel⟩
  have f : Frm w w' (fun _ => False) := Frm.of_below bel
  exact ⟨b, cap, rfl, ⟨f.below h.st.bel h.st.bel.size (fun k e => e.elim), own_frm h.ow.ow f (fun _ _ e => e), own_frm h.og.ow f (fun _ _ e => e), c4, c7⟩⟩
theorem L8.begins {W w : World} {xs : List Value} {al gv : Value} {b T : Nat} (h : L8 W w xs al gv b T) (hx : xs.length ≤ 1048576) (hby : Bys xs) :
    Calls Tryd.prog 13 #[gv, al] w fun e w' => e = .returned (.bool true) ∧ L8 W w' xs al gv b T := by
  refine (begins_same _ _ w gv al xs h.og h.ow hby (by omega)).mono ?_
  rintro e w' ⟨rfl, bel⟩
  have f : Frm w w' (fun _ => False) := Frm.of_below bel
  exact ⟨rfl, ⟨f.below h.bel h.bel.size (fun k e => e.elim), own_frm h.ow f (fun _ _ e => e), own_frm h.og f (fun _ _ e => e), f.cell h.c4 (fun e => e), f.cell h.c7 (fun e => e)⟩⟩
end Pb
end Go.Proofs.YtiljdiagabepbaaDoor
