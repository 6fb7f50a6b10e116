import Derived.Test.YtcepfmeoeepjdaaBqD
namespace Go.Proofs.Ytcepfmeoeepjdaa
namespace Au
open Go.RowKit
set_option linter.unusedVariables false
set_option maxRecDepth 8000
/-- One cell of the states written over. -/
def sc1 (S : Nat → Nat → Int) (v i : Nat) (x : Int) : Nat → Nat → Int := fun u j => if u = v ∧ j = i then x else S u j
theorem SR.set1 {w : World} {b n : Nat} {S : Nat → Nat → Int} (h : SR w b n S) (v i : Nat) (hi : i < 8) (x : Int) : SR (w.setCell ⟨b, v * 8 + i, none⟩ (.int .u64 x)) b n (sc1 S v i x) ∧ ∃ C, w.setCell ⟨b, v * 8 + i, none⟩ (.int .u64 x) = w.setRow b C := by
  obtain ⟨C, h1, h2⟩ := h
  rw [setCell_eq_setRow w b _ C 63 (0, 0) _ h1]
  refine ⟨⟨_, setRow_heap w b _ _ 63 (0, 0) h1, fun u hu j hj => ?_⟩, _, rfl⟩
  rw [Array.getElem?_setIfInBounds]
  have hc := h2 u hu j hj
  have hlt := (Array.getElem?_eq_some_iff.1 hc).1
  unfold sc1
  by_cases e : u = v ∧ j = i
  · obtain ⟨rfl, rfl⟩ := e
    rw [if_pos rfl, if_pos hlt, if_pos ⟨rfl, rfl⟩]
  · rw [if_neg (fun k => e ⟨by omega, by omega⟩), if_neg e]; exact hc
theorem SR.fz {w : World} {b n : Nat} {S : Nat → Nat → Int} (h : SR w b n S) (j : Nat) : w.frozen? ⟨b, j, none⟩ = false := by
  obtain ⟨C, h1, _⟩ := h
  exact frozen_of_row w b _ _ 63 h1
/-- A state written over, whatever came of it. -/
theorem SR.put {w : World} {b n : Nat} {S : Nat → Nat → Int} (h : SR w b n S) (v : Nat) (s : Nat → Int) (B : Nat) (w0 : World) (hB : Below B w0 w) (hb : B ≤ b) :
    let w' := (((((((w.setCell ⟨b, v * 8, none⟩ (.int .u64 (s 0))).setCell ⟨b, v * 8 + 1, none⟩ (.int .u64 (s 1))).setCell ⟨b, v * 8 + 2, none⟩ (.int .u64 (s 2))).setCell ⟨b, v * 8 + 3, none⟩ (.int .u64 (s 3))).setCell ⟨b, v * 8 + 4, none⟩ (.int .u64 (s 4))).setCell ⟨b, v * 8 + 5, none⟩ (.int .u64 (s 5))).setCell ⟨b, v * 8 + 6, none⟩ (.int .u64 (s 6))).setCell ⟨b, v * 8 + 7, none⟩ (.int .u64 (s 7))
    (∃ S', SR w' b n S') ∧ Below B w0 w' ∧ ∀ k, k ≠ b → w'.heap[k]? = w.heap[k]? := by
  have st : ∀ (W : World) (S : Nat → Nat → Int) (i : Nat), i < 8 → SR W b n S → Below B w0 W → (∀ k, k ≠ b → W.heap[k]? = w.heap[k]?) → (∃ S', SR (W.setCell ⟨b, v * 8 + i, none⟩ (.int .u64 (s i))) b n S') ∧ Below B w0 (W.setCell ⟨b, v * 8 + i, none⟩ (.int .u64 (s i))) ∧ ∀ k, k ≠ b → (W.setCell ⟨b, v * 8 + i, none⟩ (.int .u64 (s i))).heap[k]? = w.heap[k]? := fun W S i hi h1 h2 h3 => by
    obtain ⟨a, C, e⟩ := h1.set1 v i hi (s i)
    refine ⟨⟨_, a⟩, by rw [e]; exact below_setRow h2 hb _, fun k hk => ?_⟩
    rw [e]; exact (setRow_other _ _ _ _ hk).trans (h3 k hk)
  obtain ⟨⟨S0, a0⟩, b0, c0⟩ := st w S 0 (by decide) h hB (fun _ _ => rfl)
  obtain ⟨⟨S1, a1⟩, b1, c1⟩ := st _ S0 1 (by decide) a0 b0 c0
  obtain ⟨⟨S2, a2⟩, b2, c2⟩ := st _ S1 2 (by decide) a1 b1 c1
  obtain ⟨⟨S3, a3⟩, b3, c3⟩ := st _ S2 3 (by decide) a2 b2 c2
  obtain ⟨⟨S4, a4⟩, b4, c4⟩ := st _ S3 4 (by decide) a3 b3 c3
  obtain ⟨⟨S5, a5⟩, b5, c5⟩ := st _ S4 5 (by decide) a4 b4 c4
  obtain ⟨⟨S6, a6⟩, b6, c6⟩ := st _ S5 6 (by decide) a5 b5 c5
  exact st _ S6 7 (by decide) a6 b6 c6
/-- The document's Words at a truth. -/
theorem pw (n sg cap tb : Nat) (P : (Nat → Nat → Int) → Vd → Prop) (S : Nat → Nat → Int) (T : Nat → Int) (o : Vd) (h1 : 1 ≤ n) (h2 : n ≤ 60) (hT : Tr P n T) (hP : P S o) (W : World) (hS : SR W sg n S) (hG : GU W tb n T) :
    Calls Try.prog 16 #[.int .u32 (n : Int), .slice (some ⟨sg, 0, none⟩) n cap, .int .i64 0, .slice (some ⟨tb, 0, none⟩) n n] W fun e w' => e = .returned (.agg #[.bool (vR o), .int .u32 (vV o), .int .i64 (vK o)]) ∧ Below W.heap.size W w' := by
  refine (words18_any n cap tb (some ⟨sg, 0, none⟩) S T (by omega) W (fun _ => ⟨_, rfl, hS.lt, fun v hv i hi => ?_⟩) hG).mono ?_
  · rw [add0]; exact hS.c v hv i hi
  · rintro e w' ⟨o', rfl, hl, hb⟩
    obtain rfl := hT S o o' hP hl
    exact ⟨rfl, hb⟩
theorem make_w (w : World) (n : Nat) (hn : n ≤ 1000000) : (Instr.makeSlice 32 (.int .i64 (n : Int)) (.int .i64 (n : Int))).run Try.prog w = .ok (.slice (some ⟨w.heap.size, 0, none⟩) n n) (w.alloc (.cells (madeCells #[.int .u64 0] n) 28)) := by
  have h := infoW
  cases hh : Try.prog.info? 28 with
  | none => rw [hh] at h; cases h
  | some i =>
    rw [hh] at h
    simp at h
    have hr := run_make (P := Try.prog) w 32 28 i (.int .u64 0) Try.underlying32 hh h.1 .i64 .i64 n n (by omega) (by omega) (by rw [h.2.2]; omega) (by omega)
    rw [h.2.1] at hr
    simp only [Int.toNat_natCast, Nat.mul_one] at hr
    rw [hr]
    rfl
/-- What the law's walk of three rounds carries. -/
structure Pl (w W : World) (n sg rb lb kb tb : Nat) (ea : Option Addr) (M : List T3) (ro K T : Nat → Int) : Prop where
  s : ∃ S, SR W sg n S
  u : ∃ U, GU W rb (2 * n) U
  l : GU W lb n ro
  k : GU W kb n K
  t : GU W tb n T
  e : Row3 .u32 W ea M
  b : Below w.heap.size w W
/-- Blocks apart, and none of the arguments'. -/
structure Pd9 (w : World) (sg rb lb kb tb : Nat) (ea : Option Addr) (M : List T3) : Prop where
  d1 : rb ≠ sg
  d2 : lb ≠ sg ∧ lb ≠ rb
  d3 : kb ≠ sg ∧ kb ≠ rb
  d4 : tb ≠ sg ∧ tb ≠ rb
  d5 : 0 < M.length → ∀ x, ea = some x → x.block ≠ sg ∧ x.block ≠ rb
  g1 : w.heap.size ≤ sg
  g2 : w.heap.size ≤ rb
theorem Row3.chx {X : Nat → Prop} {w w' : World} {a : Option Addr} {L : List T3} (h : Row3 .u32 w a L) (hc : Ch X w w') (hx : 0 < L.length → ∀ x, a = some x → ¬ X x.block) : Row3 .u32 w' a L := fun h0 => by
  obtain ⟨x, rfl, h1, h2⟩ := h h0
  refine ⟨x, rfl, Nat.lt_of_lt_of_le h1 hc.size, fun i e he => ?_⟩
  obtain ⟨p, q, r⟩ := h2 i e he
  have hb : ∀ j, (x.add j).block = x.block := fun j => add_block _ _
  exact ⟨(hc.cell (p := x.add (i * 3)) (by rw [hb]; exact h1) (by rw [hb]; exact hx h0 x rfl)).trans p, (hc.cell (p := x.add (i * 3 + 1)) (by rw [hb]; exact h1) (by rw [hb]; exact hx h0 x rfl)).trans q, (hc.cell (p := x.add (i * 3 + 2)) (by rw [hb]; exact h1) (by rw [hb]; exact hx h0 x rfl)).trans r⟩
theorem Pl.bel {w W W' : World} {n sg rb lb kb tb : Nat} {ea : Option Addr} {M : List T3} {ro K T : Nat → Int} (h : Pl w W n sg rb lb kb tb ea M ro K T) (hb : Below W.heap.size W W') : Pl w W' n sg rb lb kb tb ea M ro K T := by
  obtain ⟨⟨S, s⟩, ⟨U, u⟩, l, k, t, e, b⟩ := h
  exact ⟨⟨S, s.of (hb.block _ s.lt)⟩, ⟨U, u.of (hb.block _ u.lt)⟩, l.of (hb.block _ l.lt), k.of (hb.block _ k.lt), t.of (hb.block _ t.lt), e.on hb (Nat.le_refl _), b.trans (hb.mono b.size)⟩
/-- Behind an audit: the room alone has changed. -/
theorem Pl.aud {w W W' : World} {n sg rb lb kb tb : Nat} {ea : Option Addr} {M : List T3} {ro K T : Nat → Int} (h : Pl w W n sg rb lb kb tb ea M ro K T) (d : Pd9 w sg rb lb kb tb ea M) (hc : Ch (fun k => k = rb) W W') (hu : ∃ U, GU W' rb (2 * n) U) : Pl w W' n sg rb lb kb tb ea M ro K T := by
  obtain ⟨⟨S, s⟩, _, l, k, t, e, b⟩ := h
  exact ⟨⟨S, s.of (hc.block _ s.lt (fun q => d.d1 q.symm))⟩, hu, l.of (hc.block _ l.lt d.d2.2), k.of (hc.block _ k.lt d.d3.2), t.of (hc.block _ t.lt d.d4.2), e.chx hc (fun h0 x hx => (d.d5 h0 x hx).2), b.trans (hc.below (fun j hj q => by have := d.g2; omega) b.size)⟩
theorem Pl.put {w W W' : World} {n sg rb lb kb tb : Nat} {ea : Option Addr} {M : List T3} {ro K T : Nat → Int} (h : Pl w W n sg rb lb kb tb ea M ro K T) (d : Pd9 w sg rb lb kb tb ea M) (hs : ∃ S, SR W' sg n S) (hb : Below w.heap.size w W') (hk : ∀ k, k ≠ sg → W'.heap[k]? = W.heap[k]?) : Pl w W' n sg rb lb kb tb ea M ro K T := by
  obtain ⟨_, ⟨U, u⟩, l, k, t, e, b⟩ := h
  refine ⟨hs, ⟨U, u.of (hk _ d.d1)⟩, l.of (hk _ d.d2.1), k.of (hk _ d.d3.1), t.of (hk _ d.d4.1), fun h0 => ?_, hb⟩
  obtain ⟨x, rfl, h1, h2⟩ := e h0
  have hx := hk x.block (d.d5 h0 x rfl).1
  refine ⟨x, rfl, same_lt hx h1, fun i e' he => ?_⟩
  obtain ⟨p, q, r⟩ := h2 i e' he
  have hc : ∀ j, W'.cell? (x.add j) = W.cell? (x.add j) := fun j => World.cell?_of_block (by rw [add_block]; exact hx)
  exact ⟨(hc _).trans p, (hc _).trans q, (hc _).trans r⟩
end Au
end Go.Proofs.Ytcepfmeoeepjdaa
