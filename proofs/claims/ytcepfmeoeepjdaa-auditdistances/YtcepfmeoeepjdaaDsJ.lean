import Derived.Test.YtcepfmeoeepjdaaDsG
import Derived.Test.YtcepfmeoeepjdaaDsI
import Derived.Test.YtcepfmeoeepjdaaAuJ
namespace Go.Proofs.Ytcepfmeoeepjdaa
namespace Au
open Go.RowKit
set_option linter.unusedVariables false
set_option maxRecDepth 8000
def GH (w : World) (b n : Nat) (H : Nat → Bool) : Prop := ∃ C : Array Value, w.heap[b]? = some (.cells C 4 (0, 0)) ∧ ∀ v, v < n → C[v]? = some (.bool (H v))
theorem GH.lt {w : World} {b n : Nat} {H : Nat → Bool} (h : GH w b n H) : b < w.heap.size := by
  obtain ⟨C, h, _⟩ := h
  exact (Array.getElem?_eq_some_iff.1 h).1
theorem GH.of {w w' : World} {b n : Nat} {H : Nat → Bool} (h : GH w b n H) (e : w'.heap[b]? = w.heap[b]?) : GH w' b n H := by
  obtain ⟨C, h, h2⟩ := h
  exact ⟨C, e.trans h, h2⟩
theorem GH.on {w w' : World} {b n : Nat} {H : Nat → Bool} (h : GH w b n H) (hb : Below w.heap.size w w') : GH w' b n H := h.of (hb.block b h.lt)
theorem GH.cell {w : World} {b n : Nat} {H : Nat → Bool} (h : GH w b n H) (v : Nat) (hv : v < n) : w.cell? ⟨b, v, none⟩ = some (.bool (H v)) := by
  obtain ⟨C, h, h2⟩ := h
  exact (cell_of_row w b _ _ 4 (0, 0) h).trans (h2 v hv)
theorem GH.fz {w : World} {b n : Nat} {H : Nat → Bool} (h : GH w b n H) (j : Nat) : w.frozen? ⟨b, j, none⟩ = false := by
  obtain ⟨C, h, h2⟩ := h
  exact frozen_of_row w b _ _ 4 h
theorem GH.set {w : World} {b n : Nat} {H : Nat → Bool} (h : GH w b n H) (j : Nat) (x : Bool) : GH (w.setCell ⟨b, j, none⟩ (.bool x)) b n (fun v => if v = j then x else H v) ∧ ∃ C, w.setCell ⟨b, j, none⟩ (.bool x) = w.setRow b C := by
  obtain ⟨C, h, h2⟩ := h
  rw [setCell_eq_setRow w b j C 4 (0, 0) _ h]
  refine ⟨⟨_, setRow_heap w b _ _ 4 (0, 0) h, fun v hv => ?_⟩, _, rfl⟩
  show _ = some (Value.bool (if v = j then x else H v))
  rw [Array.getElem?_setIfInBounds]
  have hv2 := h2 v hv
  have := (Array.getElem?_eq_some_iff.1 hv2).1
  by_cases e : j = v
  · subst e; rw [if_pos rfl, if_pos this, if_pos rfl]
  · rw [if_neg e, if_neg (fun k => e k.symm)]; exact hv2
theorem infoB : (Try.prog.info? 4).map (fun i => (i.zero, i.size, i.bytes)) = some (some (.bool false), 1, 1) := by kernel_rfl
theorem make_bool (w : World) (n : Nat) (hn : n ≤ 1000000) : (Instr.makeSlice 92 (.int .u32 (n : Int)) (.int .u32 (n : Int))).run Try.prog w = .ok (.slice (some ⟨w.heap.size, 0, none⟩) n n) (w.alloc (.cells (madeCells #[.bool false] n) 4)) := by
  have h := infoB
  cases hh : Try.prog.info? 4 with
  | none => rw [hh] at h; cases h
  | some i =>
    rw [hh] at h
    simp at h
    have hr := run_make (P := Try.prog) w 92 4 i (.bool false) Try.underlying92 hh h.1 .u32 .u32 n n (by omega) (by omega) (by rw [h.2.2]; omega) (by omega)
    rw [h.2.1] at hr
    simp only [Int.toNat_natCast, Nat.mul_one] at hr
    rw [hr]
    rfl

theorem GH.new (w : World) (n : Nat) : GH (w.alloc (.cells (madeCells #[.bool false] n) 4)) w.heap.size n (fun _ => false) := by
  refine ⟨_, at0 _ _, fun j hj => ?_⟩
  simp [madeCells, hj, Nat.mod_one]
/-- The faults, and where the verdict is put. -/
structure Zd (W w : World) (g fb n : Nat) (G : Nat → Int) : Prop where
  z : W.heap[w.heap.size]? = some (.cells z3 35 (0, 0))
  x : Boxed W fb 85 (.slice (some ⟨g, 0, none⟩) n n)
  g : GI W g n G
  b : Below w.heap.size w W
theorem Zd.ch {W W' w : World} {g fb n : Nat} {G G' : Nat → Int} (h : Zd W w g fb n G) (hc : Ch (fun k => k = g) W W') (hG : GI W' g n G') (h1 : w.heap.size < g) (h2 : fb ≠ g) : Zd W' w g fb n G' :=
  ⟨(hc.block _ (lt_of_some h.z) (by omega)).trans h.z, (hc.block _ h.x.lt h2).trans h.x, hG, h.b.trans (hc.below (fun k hk e => by omega) h.b.size)⟩
theorem Zd.on {W W' w : World} {g fb n : Nat} {G : Nat → Int} (h : Zd W w g fb n G) (hb : Below W.heap.size W W') : Zd W' w g fb n G :=
  ⟨(hb.block _ (lt_of_some h.z)).trans h.z, (hb.block _ h.x.lt).trans h.x, h.g.of (hb.block _ h.g.lt), h.b.trans (hb.mono h.b.size)⟩
def Kd (W w : World) (g fb tb n : Nat) (G : Nat → Int) (H : Nat → Bool) : Prop := Zd W w g fb n G ∧ GH W tb n H
theorem Kd.ch {W W' w : World} {g fb tb n : Nat} {G G' : Nat → Int} {H : Nat → Bool} (h : Kd W w g fb tb n G H) (hc : Ch (fun k => k = g) W W') (hG : GI W' g n G') (h1 : w.heap.size < g) (h2 : fb ≠ g) (h3 : tb ≠ g) : Kd W' w g fb tb n G' H := ⟨h.1.ch hc hG h1 h2, h.2.of (hc.block _ h.2.lt h3)⟩
theorem Kd.on {W W' w : World} {g fb tb n : Nat} {G : Nat → Int} {H : Nat → Bool} (h : Kd W w g fb tb n G H) (hb : Below W.heap.size W W') : Kd W' w g fb tb n G H := ⟨h.1.on hb, h.2.on hb⟩
theorem Kd.set {W w : World} {g fb tb n : Nat} {G : Nat → Int} {H H' : Nat → Bool} (h : Kd W w g fb tb n G H) (y : Nat) (h1 : w.heap.size < tb) (h2 : fb ≠ tb) (h3 : g ≠ tb) (he : ∀ v, v < n → (if v = y then true else H v) = H' v) : Kd (W.setCell ⟨tb, y, none⟩ (.bool true)) w g fb tb n G H' := by
  obtain ⟨⟨z1, z2, z3, z4⟩, hH⟩ := h
  obtain ⟨⟨X, x1, x2⟩, C, hX⟩ := hH.set y true
  refine ⟨?_, X, x1, fun v hv => by rw [← he v hv]; exact x2 v hv⟩
  rw [hX]
  exact ⟨(setRow_other _ _ _ _ (by omega)).trans z1, (setRow_other _ _ _ _ h2).trans z2, z3.of (setRow_other _ _ _ _ h3), below_setRow z4 (by omega) _⟩
theorem Kd.ext {W w : World} {g fb tb n : Nat} {G : Nat → Int} {H H' : Nat → Bool} (h : Kd W w g fb tb n G H) (he : ∀ v, v < n → H v = H' v) : Kd W w g fb tb n G H' := by
  obtain ⟨a, X, x1, x2⟩ := h
  exact ⟨a, X, x1, fun v hv => by rw [x2 v hv, he v hv]⟩
theorem take_succ' {L : List T3} {i : Nat} {e : T3} (h : L[i]? = some e) : L.take (i + 1) = L.take i ++ [e] := by rw [List.take_add_one, h]; rfl
/-- What is noted on the way. -/
def PA (S : Nat → Nat → Int) (s k a b : Nat) : Prop := b = 1 ∧ a < k ∧ r1d S s a = true
def PB (kd : Int) (S : Nat → Nat → Int) (s n : Nat) (M : List T3) (a b : Nat) : Prop := PA S s n a b ∨ (b = 3 ∧ a < n ∧ o3 kd S M a = true)
def PC (kd : Int) (S : Nat → Nat → Int) (s n : Nat) (L : List T3) (j a b : Nat) : Prop := PB kd S s n L a b ∨ (b = 2 ∧ a < j ∧ b2 S s a = true) ∨ (b = 4 ∧ a < j ∧ b4 S s (h4 kd S L) a = true)
abbrev S6d (fb g n : Nat) (ax : Addr) (k : Nat) (u : Int) (w : World) : Prop := w.cell? ⟨fb, 0, none⟩ = some (.slice (some ⟨g, 0, none⟩) n n) ∧ w.cell? ⟨(ax.add (k * 8)).block, (ax.add (k * 8)).off + 1, none⟩ = some (.int .u64 u)
abbrev S18d (p q : Nat) (eb : Addr) (i z : Nat) (u v : Int) (w : World) : Prop := w.cell? ⟨p, 0, none⟩ = some (.int .u64 u) ∧ w.cell? ⟨q, 0, none⟩ = some (.int .u64 v) ∧ w.cell? ⟨(eb.add (i * 3)).block, (eb.add (i * 3)).off + 2, none⟩ = some (.int .u32 (z : Int))
abbrev S19d (fb g n : Nat) (eb : Addr) (i y : Nat) (w : World) : Prop := w.cell? ⟨fb, 0, none⟩ = some (.slice (some ⟨g, 0, none⟩) n n) ∧ w.cell? ⟨(eb.add (i * 3)).block, (eb.add (i * 3)).off + 1, none⟩ = some (.int .u32 (y : Int))
abbrev S29d (fb tb xb g n v : Nat) (u : Int) (o : Bool) (w : World) : Prop := w.cell? ⟨fb, 0, none⟩ = some (.slice (some ⟨g, 0, none⟩) n n) ∧ w.cell? ⟨xb, 0, none⟩ = some (.int .u64 u) ∧ w.cell? ⟨tb, v, none⟩ = some (.bool o)
theorem res30 (T : Array Value) (b : Nat) (a c d : Value) (W : World) (h10 : T[10]? = some (.pointer (some ⟨b, 0, none⟩))) (h : W.heap[b]? = some (.cells #[a, c, d] 35 (0, 0))) :
    (results Try.f30 T).run Try.prog W = .ok (.agg #[a, c, d]) W := by
  have h0 : W.cell? ⟨b, 0, none⟩ = some a := (cell_of_row _ _ _ _ _ _ h).trans rfl
  have h1 : W.cell? ⟨b, 1, none⟩ = some c := (cell_of_row _ _ _ _ _ _ h).trans rfl
  have h2 : W.cell? ⟨b, 2, none⟩ = some d := (cell_of_row _ _ _ _ _ _ h).trans rfl
  simp [results, Try.f30, go_sem, h10, h0, h1, h2]
theorem z35e {w : World} {b : Nat} (h : w.heap[b]? = some (.cells z3 35 (0, 0))) : w.cell? ⟨b, 0, none⟩ = some (.bool false) ∧ w.cell? ⟨b, 1, none⟩ = some (.int .u32 0) ∧ w.cell? ⟨b, 2, none⟩ = some (.int .i64 0) ∧ w.frozen? ⟨b, 0, none⟩ = false ∧ w.frozen? ⟨b, 1, none⟩ = false ∧ w.frozen? ⟨b, 2, none⟩ = false :=
  ⟨(cell_of_row _ _ _ _ _ _ h).trans rfl, (cell_of_row _ _ _ _ _ _ h).trans rfl, (cell_of_row _ _ _ _ _ _ h).trans rfl, frozen_of_row _ _ _ _ _ h, frozen_of_row _ _ _ _ _ h, frozen_of_row _ _ _ _ _ h⟩
theorem i64w' (n : Nat) (h : n < 9000000000000000000) : IntKind.i64.wrap (n : Int) = n := by simp only [IntKind.wrap, IntKind.signed, IntKind.bits]; simp; omega
theorem u32w (n : Nat) (h : n < 4294967296) : IntKind.u32.wrap (n : Int) = n := by simp only [IntKind.wrap, IntKind.signed, IntKind.bits]; simp; omega
set_option maxHeartbeats 16000000 in
theorem rdist_any (n s ec sc : Nat) (kd : Int) (a sa : Option Addr) (L : List T3) (S : Nat → Nat → Int) (hsr : ∀ v, v < n → ∀ i, i < 8 → 0 ≤ S v i ∧ S v i < 18446744073709551616) (hs : s < n) (hn : n ≤ 5000) (hlen : L.length ≤ 140737488351232) (w : World) (hE : Row3 .u32 w a L) (hS : Row8 w sa n S) (hI : ∀ e ∈ L, e.1 < n ∧ e.2.1 < n) :
    Calls Try.prog 30 #[.int .u32 (n : Int), .int .u32 (s : Int), .int .i64 kd, .slice a L.length ec, .slice sa n sc] w fun e w' => ∃ o, e = .returned (.agg #[.bool (vR o), .int .u32 (vV o), .int .i64 (vK o)]) ∧ Lm (PDs kd S s n L) o ∧ Below w.heap.size w w' := by
  obtain ⟨ax, rfl, hAt⟩ := hS (by omega)
  have HAt : Hid (∀ W, Below w.heap.size w W → ∀ u, u < n → K8i ax u (S u) W) := fun W hW u hu => by
    have h : At8 W ax n S := ⟨Nat.lt_of_lt_of_le hAt.1 hW.size, fun v hv i hi => (hW.cell (p := ax.add (v * 8 + i)) (by rw [add_block]; exact hAt.1)).trans (hAt.2 v hv i hi)⟩
    exact h.k u hu
  have hcv : IntKind.i64.wrap (n : Int) = n := i64w' _ (by omega)
  have hcs : IntKind.i64.wrap (s : Int) = s := i64w' _ (by omega)
  have HSR := hide hsr
  have HI := hide hI
  have HER := hide hE
  have HE : Hid (∀ i, i < L.length → ∃ eb x y z, a = some eb ∧ L[i]? = some (x, y, z) ∧ eb.block < w.heap.size ∧ ∀ W, Below w.heap.size w W → W.cell? (eb.add (i * 3)) = some (.int .u32 ((x : Nat) : Int)) ∧ W.cell? ⟨(eb.add (i * 3)).block, (eb.add (i * 3)).off + 1, none⟩ = some (.int .u32 ((y : Nat) : Int)) ∧ W.cell? ⟨(eb.add (i * 3)).block, (eb.add (i * 3)).off + 2, none⟩ = some (.int .u32 ((z : Nat) : Int))) := fun i hi => by
    obtain ⟨eb, rfl, hx⟩ := hE (by omega)
    obtain ⟨e, he⟩ : ∃ e, L[i]? = some e := ⟨L[i], List.getElem?_eq_getElem hi⟩
    refine ⟨eb, e.1, e.2.1, e.2.2, rfl, he, hx.1, fun W hW => ?_⟩
    exact cells3 ((hx.on hW (Nat.le_refl _)).2 i e he)
  obtain ⟨w0, hw0⟩ : ∃ w0, w.alloc (.cells z3 35) = w0 := ⟨_, rfl⟩
  have hB0 : Below w.heap.size w w0 := by rw [← hw0]; exact b1 _ _ _
  have hz0 : w0.heap[w.heap.size]? = some (.cells z3 35 (0, 0)) := by rw [← hw0]; exact at0 _ _
  have HBg := hide (begin_any n hn w0)
  have HW0 := hide hw0
  have HZ0 := hide hz0
  have HB0 := hide hB0
  have HAx := hide hAt.1
  clear hE hS hI hw0 hz0 hB0 hsr hAt
  go_enter Try.func30, Try.ntmps30
  go_wp2_with (fail)
  rw [HW0.out]
  refine HBg.out.mono ?_
  rintro e1 w1 ⟨g, rfl, hg, hGI, hB1⟩
  obtain ⟨w2, hw2⟩ : ∃ w2, w1.alloc (.cells #[.slice (some ⟨g, 0, none⟩) n n] 85) = w2 := ⟨_, rfl⟩
  have hB2 : Below w1.heap.size w1 w2 := by rw [← hw2]; exact b1 _ _ _
  have hZ2 : Zd w2 w g w1.heap.size n (fun _ => 0) := by
    refine ⟨(hB2.block _ (Nat.lt_of_lt_of_le (lt_of_some HZ0.out) hB1.size)).trans ((hB1.block _ (lt_of_some HZ0.out)).trans HZ0.out), ?_, hGI.of (hB2.block _ hGI.lt), (HB0.out.trans (hB1.mono HB0.out.size)).trans (hB2.mono (Nat.le_trans HB0.out.size hB1.size))⟩
    rw [← hw2]; exact Boxed.new w1 _ _
  obtain ⟨fb, hfbe⟩ : ∃ fb, fb = w1.heap.size := ⟨_, rfl⟩
  have HNe0 : Hid (w.heap.size < g ∧ fb ≠ g ∧ w.heap.size < fb) := by
    have h1 := lt_of_some HZ0.out
    have h2 := hGI.lt
    have h3 := hB1.size
    exact ⟨by omega, by omega, by omega⟩
  rw [← hfbe] at hZ2
  have hsg := (HAt.out w2 hZ2.b s hs).2.1
  obtain ⟨gg, hgg⟩ : ∃ gg, S s 1 = gg := ⟨_, rfl⟩
  rw [hgg] at hsg
  have Hgg := hide hgg
  have HZ2 := hide hZ2
  have Hfbe := hide hfbe
  have HW2 := hide hw2
  rw [← hw2] at hsg
  clear hB1 hB2 hGI hw2 HBg HZ0 HB0 HW0 hfbe hg hZ2 hgg
  go_wp2_with (fail)
  rw [HW2.out, ← Hfbe.out]
  clear hsg HW2
  have HR0 : Hid (Rl (PA S s 0) n (fun _ => 0)) := (Rl.zero n).ext (fun v r _ => ⟨fun h => h.elim, fun h => by have := h.2.1; omega⟩)
  go_loopw [13] (fun t wr => ∃ (k : Nat) (G : Nat → Int), k ≤ n ∧ t = .int .i64 k ∧ Hid (Rl (PA S s k) n G) ∧ Hid (Zd wr w g fb n G)) (fun t _ => n - (intOf t).toNat)
  case atStart => exact ⟨0, _, Nat.zero_le _, rfl, HR0, HZ2⟩
  case round =>
    clear HR0 HZ2
    obtain ⟨k, G, hk, rfl, HR, HZ⟩ := hrel
    by_cases cc : k < n
    · have hcc : (k : Int) < (n : Int) := by omega
      have sk := (HAt.out wr HZ.out.b k cc).2.1
      obtain ⟨u, hu⟩ : ∃ u, S k 1 = u := ⟨_, rfl⟩
      rw [hu] at sk
      have HRn : Hid (∀ b, (u != gg || decide (1 < u)) = b → Rl (PA S s (k + 1)) n (nx G k 1 b)) := fun b hb => (HR.out.note k 1 b (by decide)).ext (fun t r ht => by
        have hrk : r1d S s k = b := by
          unfold r1d
          rw [hu, Hgg.out, ← hb]
          by_cases e : u = gg
          · rw [e]
          · have : (u != gg) = true := by simpa using e
            rw [this, Bool.true_or, Bool.true_or]
        unfold PA
        constructor
        · rintro (⟨q1, q2, q3⟩ | ⟨q1, q2, q3⟩)
          · exact ⟨q1, by omega, q3⟩
          · subst q2; exact ⟨q3, by omega, by rw [hrk]; exact q1⟩
        · rintro ⟨q1, q2, q3⟩
          by_cases e : t = k
          · subst e; exact .inr ⟨by rw [← hrk]; exact q3, rfl, q1⟩
          · exact .inl ⟨q1, by omega, q3⟩)
      have HKS : Hid (S6d fb g n ax k u wr.drew) := ⟨HZ.out.x.cell, sk⟩
      have HKch : Hid (∀ w4 G', Ch (fun k => k = g) wr.drew w4 → GI w4 g n G' → Zd w4 w g fb n G') := fun w4 G' h1 h2 => (Zd.ch (W := wr.drew) ⟨HZ.out.z, HZ.out.x, HZ.out.g.of rfl, belowD HZ.out.b⟩ h1 h2 HNe0.out.1 HNe0.out.2.1)
      have HN := hide (fun b => fnote_any g n k 1 b G cc hn wr.drew (HZ.out.g.of rfl))
      have HZl : Hid (fb < wr.heap.size ∧ (ax.add (k * 8)).block < wr.heap.size ∧ (ax.add (k * 8)).block ≠ g) := by
        have h1 := HZ.out.b.size
        have h2 := HNe0.out.1
        have h3 := HAx.out
        rw [add_block]
        exact ⟨HZ.out.x.lt, by omega, by omega⟩
      clear HR HZ hu hk sk
      have HKS4 : Hid (∀ W, Ch (fun k => k = g) wr.drew W → S6d fb g n ax k u W) := fun W hW => ⟨(hW.cell (p := ⟨fb, 0, none⟩) HZl.out.1 HNe0.out.2.1).trans HKS.out.1, (hW.cell (p := ⟨(ax.add (k * 8)).block, (ax.add (k * 8)).off + 1, none⟩) HZl.out.2.1 HZl.out.2.2).trans HKS.out.2⟩
      cases hne : (u != gg) with
      | true =>
        have HR1 := hide (HRn.out true (by rw [hne]; rfl))
        clear HRn
        go_wp2_with (fail)
        refine wp_region_held_drew (S := (S6d fb g n ax k u)) (by kernel_rfl) ?_ (fun hHeld => ?_)
        · exact HKS.out
        refine wpAnyH_take (i := 0) (oi := ({ dst := some 36, op := Go.Op.load 85 (Go.Operand.tmp 11), type := 85, pos := "ref.go:164", after := #[], guard := none } : Oper)) (v := ?_) rfl (by kernel_rfl) (by kernel_rfl) (by kernel_rfl) (fun _ _ _ h => h) (Or.inl ⟨by rfl, ?_⟩) (by assumption) ?_
        rotate_left 1
        · (intro w hSw; (try dsimp only at hSw); go_simp; (try with_reducible rfl))
        try simp only [Act.put, List.setIfInBounds_toArray, List.set_cons_zero, List.set_cons_succ]
        refine wpAnyH_take (i := 1) (oi := ({ dst := some 37, op := Go.Op.move (Go.Operand.tmp 13), type := 3, pos := "ref.go:164", after := #[], guard := none } : Oper)) (v := ?_) rfl (by kernel_rfl) (by kernel_rfl) (by kernel_rfl) (fun _ _ _ h => h) (Or.inl ⟨by rfl, ?_⟩) (by assumption) ?_
        rotate_left 1
        · (intro w hSw; (try dsimp only at hSw); go_simp; (try with_reducible rfl))
        try simp only [Act.put, List.setIfInBounds_toArray, List.set_cons_zero, List.set_cons_succ]
        refine wpAnyH_take (i := 2) (oi := ({ dst := some 38, op := Go.Op.move (Go.Operand.tmp 4), type := 23, pos := "ref.go:164", after := #[], guard := none } : Oper)) (v := ?_) rfl (by kernel_rfl) (by kernel_rfl) (by kernel_rfl) (fun _ _ _ h => h) (Or.inl ⟨by rfl, ?_⟩) (by assumption) ?_
        rotate_left 1
        · (intro w hSw; (try dsimp only at hSw); go_simp; (try with_reducible rfl))
        try simp only [Act.put, List.setIfInBounds_toArray, List.set_cons_zero, List.set_cons_succ]
        refine wpAnyH_take (i := 3) (oi := ({ dst := some 39, op := Go.Op.move (Go.Operand.tmp 13), type := 3, pos := "ref.go:164", after := #[], guard := none } : Oper)) (v := ?_) rfl (by kernel_rfl) (by kernel_rfl) (by kernel_rfl) (fun _ _ _ h => h) (Or.inl ⟨by rfl, ?_⟩) (by assumption) ?_
        rotate_left 1
        · (intro w hSw; (try dsimp only at hSw); go_simp; (try with_reducible rfl))
        try simp only [Act.put, List.setIfInBounds_toArray, List.set_cons_zero, List.set_cons_succ]
        refine wpAnyH_take (i := 4) (oi := ({ dst := some 40, op := Go.Op.indexAddr 23 (Go.Operand.tmp 38) (Go.Operand.tmp 39), type := 0, pos := "ref.go:164", after := #[{ on := 2, ground := Go.Ground.data }, { on := 3, ground := Go.Ground.data }], guard := none } : Oper)) (v := ?_) rfl (by kernel_rfl) (by kernel_rfl) (by kernel_rfl) (fun _ _ _ h => h) (Or.inl ⟨by rfl, ?_⟩) (by assumption) ?_
        rotate_left 1
        · (intro w hSw; (try dsimp only at hSw); go_simp; (try with_reducible rfl))
        try simp only [Act.put, List.setIfInBounds_toArray, List.set_cons_zero, List.set_cons_succ]
        refine wpAnyH_take (i := 5) (oi := ({ dst := some 41, op := Go.Op.indexAddr 63 (Go.Operand.tmp 40) (Go.Operand.const (Go.Value.int Go.IntKind.i64 1)), type := 0, pos := "ref.go:164", after := #[{ on := 4, ground := Go.Ground.data }], guard := none } : Oper)) (v := ?_) rfl (by kernel_rfl) (by kernel_rfl) (by kernel_rfl) (fun _ _ _ h => h) (Or.inl ⟨by rfl, ?_⟩) (by assumption) ?_
        rotate_left 1
        · (intro w hSw; (try dsimp only at hSw); go_simp; (try with_reducible rfl))
        try simp only [Act.put, List.setIfInBounds_toArray, List.set_cons_zero, List.set_cons_succ]
        refine wpAnyH_take (i := 6) (oi := ({ dst := some 42, op := Go.Op.load 28 (Go.Operand.tmp 41), type := 28, pos := "ref.go:164", after := #[{ on := 5, ground := Go.Ground.data }], guard := none } : Oper)) (v := ?_) rfl (by kernel_rfl) (by kernel_rfl) (by kernel_rfl) (fun _ _ _ h => h) (Or.inl ⟨by rfl, ?_⟩) (by assumption) ?_
        rotate_left 1
        · (intro w hSw; (try dsimp only at hSw); go_simp; (try with_reducible rfl))
        try simp only [Act.put, List.setIfInBounds_toArray, List.set_cons_zero, List.set_cons_succ]
        refine wpAnyH_take (i := 7) (oi := ({ dst := some 43, op := Go.Op.move (Go.Operand.tmp 12), type := 28, pos := "ref.go:164", after := #[], guard := none } : Oper)) (v := ?_) rfl (by kernel_rfl) (by kernel_rfl) (by kernel_rfl) (fun _ _ _ h => h) (Or.inl ⟨by rfl, ?_⟩) (by assumption) ?_
        rotate_left 1
        · (intro w hSw; (try dsimp only at hSw); go_simp; (try with_reducible rfl))
        try simp only [Act.put, List.setIfInBounds_toArray, List.set_cons_zero, List.set_cons_succ]
        refine wpAnyH_take (i := 8) (oi := ({ dst := some 44, op := Go.Op.binOp Go.BinOp.neq 28 (Go.Operand.tmp 42) (Go.Operand.tmp 43) 28, type := 4, pos := "ref.go:164", after := #[{ on := 6, ground := Go.Ground.data }, { on := 7, ground := Go.Ground.data }], guard := none } : Oper)) (v := ?_) rfl (by kernel_rfl) (by kernel_rfl) (by kernel_rfl) (fun _ _ _ h => h) (Or.inl ⟨by rfl, ?_⟩) (by assumption) ?_
        rotate_left 1
        · (intro w hSw; (try dsimp only at hSw); go_simp; (try with_reducible rfl))
        try simp only [Act.put, List.setIfInBounds_toArray, List.set_cons_zero, List.set_cons_succ]
        refine wpAnyH_take (i := 9) (oi := ({ dst := some 45, op := Go.Op.move (Go.Operand.tmp 44), type := 4, pos := "ref.go:164", after := #[{ on := 8, ground := Go.Ground.data }], guard := none } : Oper)) (v := ?_) rfl (by kernel_rfl) (by kernel_rfl) (by kernel_rfl) (fun _ _ _ h => h) (Or.inl ⟨by rfl, ?_⟩) (by assumption) ?_
        rotate_left 1
        · (intro w hSw; (try dsimp only at hSw); go_simp; (try with_reducible rfl))
        try simp only [Act.put, List.setIfInBounds_toArray, List.set_cons_zero, List.set_cons_succ]
        refine wpAnyH_take (i := 10) (oi := ({ dst := some 46, op := Go.Op.move (Go.Operand.tmp 4), type := 23, pos := "ref.go:164", after := #[{ on := 9, ground := Go.Ground.guard }], guard := some (9, false) } : Oper)) (v := undef) rfl (by kernel_rfl) (by kernel_rfl) (by kernel_rfl) (fun _ _ _ h => h) (Or.inr ⟨by rfl, rfl⟩) (by assumption) ?_
        try simp only [Act.put, List.setIfInBounds_toArray, List.set_cons_zero, List.set_cons_succ]
        refine wpAnyH_take (i := 11) (oi := ({ dst := some 47, op := Go.Op.move (Go.Operand.tmp 13), type := 3, pos := "ref.go:164", after := #[{ on := 9, ground := Go.Ground.guard }], guard := some (9, false) } : Oper)) (v := undef) rfl (by kernel_rfl) (by kernel_rfl) (by kernel_rfl) (fun _ _ _ h => h) (Or.inr ⟨by rfl, rfl⟩) (by assumption) ?_
        try simp only [Act.put, List.setIfInBounds_toArray, List.set_cons_zero, List.set_cons_succ]
        refine wpAnyH_take (i := 12) (oi := ({ dst := some 48, op := Go.Op.indexAddr 23 (Go.Operand.tmp 46) (Go.Operand.tmp 47), type := 0, pos := "ref.go:164", after := #[{ on := 10, ground := Go.Ground.data }, { on := 11, ground := Go.Ground.data }, { on := 9, ground := Go.Ground.guard }], guard := some (9, false) } : Oper)) (v := undef) rfl (by kernel_rfl) (by kernel_rfl) (by kernel_rfl) (fun _ _ _ h => h) (Or.inr ⟨by rfl, rfl⟩) (by assumption) ?_
        try simp only [Act.put, List.setIfInBounds_toArray, List.set_cons_zero, List.set_cons_succ]
        refine wpAnyH_take (i := 13) (oi := ({ dst := some 49, op := Go.Op.indexAddr 63 (Go.Operand.tmp 48) (Go.Operand.const (Go.Value.int Go.IntKind.i64 1)), type := 0, pos := "ref.go:164", after := #[{ on := 12, ground := Go.Ground.data }, { on := 9, ground := Go.Ground.guard }], guard := some (9, false) } : Oper)) (v := undef) rfl (by kernel_rfl) (by kernel_rfl) (by kernel_rfl) (fun _ _ _ h => h) (Or.inr ⟨by rfl, rfl⟩) (by assumption) ?_
        try simp only [Act.put, List.setIfInBounds_toArray, List.set_cons_zero, List.set_cons_succ]
        refine wpAnyH_take (i := 14) (oi := ({ dst := some 50, op := Go.Op.load 28 (Go.Operand.tmp 49), type := 28, pos := "ref.go:164", after := #[{ on := 13, ground := Go.Ground.data }, { on := 9, ground := Go.Ground.guard }], guard := some (9, false) } : Oper)) (v := undef) rfl (by kernel_rfl) (by kernel_rfl) (by kernel_rfl) (fun _ _ _ h => h) (Or.inr ⟨by rfl, rfl⟩) (by assumption) ?_
        try simp only [Act.put, List.setIfInBounds_toArray, List.set_cons_zero, List.set_cons_succ]
        refine wpAnyH_take (i := 15) (oi := ({ dst := some 51, op := Go.Op.binOp Go.BinOp.gtr 28 (Go.Operand.tmp 50) (Go.Operand.const (Go.Value.int Go.IntKind.u64 1)) 28, type := 4, pos := "ref.go:164", after := #[{ on := 14, ground := Go.Ground.data }, { on := 9, ground := Go.Ground.guard }], guard := some (9, false) } : Oper)) (v := undef) rfl (by kernel_rfl) (by kernel_rfl) (by kernel_rfl) (fun _ _ _ h => h) (Or.inr ⟨by rfl, rfl⟩) (by assumption) ?_
        try simp only [Act.put, List.setIfInBounds_toArray, List.set_cons_zero, List.set_cons_succ]
        refine wpAnyH_take (i := 16) (oi := ({ dst := some 52, op := Go.Op.pick (Go.Operand.tmp 45) (Go.Operand.const (Go.Value.bool true)) (Go.Operand.tmp 51), type := 4, pos := "ref.go:164", after := #[{ on := 9, ground := Go.Ground.data }, { on := 15, ground := Go.Ground.data }], guard := none } : Oper)) (v := ?_) rfl (by kernel_rfl) (by kernel_rfl) (by kernel_rfl) (fun _ _ _ h => h) (Or.inl ⟨by rfl, ?_⟩) (by assumption) ?_
        rotate_left 1
        · (intro w hSw; (try dsimp only at hSw); go_simp; (try with_reducible rfl))
        try simp only [Act.put, List.setIfInBounds_toArray, List.set_cons_zero, List.set_cons_succ]
        refine wpAnyH_ready (rs := [17]) (by kernel_rfl) (by simp) ?_
        refine AllReadyH.cons (o := ({ dst := some 53, op := Go.Op.call { callee := Go.Callee.value (Go.Operand.func 52), args := #[Go.Operand.tmp 36, Go.Operand.tmp 37, Go.Operand.const (Go.Value.int Go.IntKind.i64 1), Go.Operand.tmp 52], argTypes := #[85, 3, 3, 4] }, type := 0, pos := "ref.go:164", after := #[{ on := 0, ground := Go.Ground.data }, { on := 1, ground := Go.Ground.data }, { on := 16, ground := Go.Ground.data }, { on := 9, ground := Go.Ground.chain }], guard := none } : Oper)) rfl (fun K hK => ?_) AllReadyH.nil
        go_simp
        go_at_call 52
        refine (HN.out true).mono ?_
        rintro e4 w4 ⟨⟨v4, rfl⟩, hG4, hC4⟩
        have HK4 := hide (HKch.out w4 _ hC4 hG4)
        have HC4 := hide hC4
        clear hG4 hC4
        go_wp2_with (fail)
        refine hK.out _ _ ?_ (fun hHeld => ?_)
        · exact HKS4.out _ HC4.out
        clear hK K
        try simp only [Act.put, List.setIfInBounds_toArray, List.set_cons_zero, List.set_cons_succ]
        refine wpAnyH_done (by kernel_rfl) ?_ _
        clear HKS HKS4 HKch HN HZl
        go_wp2
        all_goals exact ⟨⟨k + 1, _, cc, by go_num, HR1, HK4⟩, by simp [intOf]; omega⟩
      | false =>
        have HR1 := hide (HRn.out (decide (1 < u)) (by rw [hne]; rfl))
        clear HRn
        go_wp2_with (fail)
        go_region_held3 (S6d fb g n ax k u) ((first | with_reducible exact HKS.out | with_reducible exact HKS4.out _ HC4.out | fail "no arm")) ((first | (go_at_call 52; refine (HN.out _).mono ?_; rintro e4 w4 ⟨⟨v4, rfl⟩, hG4, hC4⟩; have HK4 := hide (HKch.out w4 _ hC4 hG4); have HC4 := hide hC4; clear hG4 hC4) | fail "no arm"))
        clear HKS HKS4 HKch HN HZl
        go_wp2
        all_goals exact ⟨⟨k + 1, _, cc, by go_num, HR1, HK4⟩, by simp [intOf]; omega⟩
    · have hkn : n = k := by omega
      subst hkn
      have HR1 := HR
      have HZ1 := HZ
      clear HR HZ cc hk
      by_cases hg1 : gg = 1
      · have hgb : (gg == 1) = true := by simpa using hg1
        have HSp := hide (rsssp_any n s ec kd a L (by omega) hn hlen hs HI.out wr (HER.out.on HZ1.out.b (Nat.le_refl _)))
        go_wp2_with (fail)
        refine HSp.out.mono ?_
        rintro e5 w5 ⟨v5, ch, rfl, hch, hB5⟩
        have HZ5 := hide (HZ1.out.on hB5)
        have Hch := hide hch
        clear hch hB5 HSp HZ1
        have hcf := HZ5.out.x.cell
        have HN := hide (fnote_any g n s 2 (!ch) G hs hn w5 HZ5.out.g)
        go_wp2_with (fail)
        refine HN.out.mono ?_
        rintro e6 w6 ⟨⟨v6, rfl⟩, hG6, hC6⟩
        have HZ6 := hide (HZ5.out.ch hC6 hG6 HNe0.out.1 HNe0.out.2.1)
        have HR6 : Hid (Rl (PDs kd S s n L) n (nx G s 2 (!ch))) := (HR1.out.note s 2 (!ch) (by decide)).ext (fun t r ht => by
          unfold PDs PA
          rw [Hgg.out, if_pos hg1]
          have hiff : (!ch) = true ↔ ∃ r, r < n ∧ scs kd (Pd s kd L r) L = false := by
            rw [neg_iff kd (by omega) hn HI.out]
            rw [Bool.not_eq_true']
            exact Hch.out
          constructor
          · rintro (h | ⟨h1, h2, h3⟩)
            · exact .inl h
            · exact .inr ⟨h3, h2, hiff.1 h1⟩
          · rintro (h | ⟨h1, h2, h3⟩)
            · exact .inl h
            · exact .inr ⟨hiff.2 h3, h2, h1⟩)
        clear hG6 hC6 HN HZ5 hcf HR1
        have HV := hide (verdict_any g n (nx G s 2 (!ch)) _ hn HR6.out (fun v r h => by rcases h with ⟨_, h, _⟩ | h; exact h; rw [Hgg.out, if_pos hg1] at h; rw [h.2.1]; exact hs) w6 HZ6.out.g)
        have cX := HZ6.out.x.cell
        have HZz := hide HZ6.out.z
        have HZb := hide HZ6.out.b
        clear HR6 HZ6 Hch hg1
        go_wp2_with (fail)
        refine HV.out.mono ?_
        rintro e9 w9 ⟨o, rfl, hL, hB9⟩
        have hz9 : w9.heap[w.heap.size]? = some (.cells z3 35 (0, 0)) := (hB9.block _ (lt_of_some HZz.out)).trans HZz.out
        have hbs := HZb.out.size
        obtain ⟨g0, g1, g2, f0, f1, f2⟩ := z35e hz9
        have HF : Hid (∀ a b c, (((w9.setCell ⟨w.heap.size, 0, none⟩ a).setCell ⟨w.heap.size, 1, none⟩ b).setCell ⟨w.heap.size, 2, none⟩ c).heap[w.heap.size]? = some (.cells #[a, b, c] 35 (0, 0)) ∧ Below w.heap.size w (((w9.setCell ⟨w.heap.size, 0, none⟩ a).setCell ⟨w.heap.size, 1, none⟩ b).setCell ⟨w.heap.size, 2, none⟩ c)) := fun a b c => by
          rw [sets3 hz9 rfl]
          exact ⟨setRow_heap _ _ _ _ _ _ hz9, below_setRow (HZb.out.trans (hB9.mono hbs)) (by omega) _⟩
        have HL := hide hL
        clear hz9 hB9 hL HV HZz HZb cX
        go_wp2
        all_goals (refine bodyPost_ret (v := .agg #[.bool (vR o), .int .u32 (vV o), .int .i64 (vK o)]) ?_ rfl ?_)
        all_goals first | exact res30 _ _ _ _ _ _ rfl (HF.out _ _ _).1 | exact ⟨o, rfl, HL.out, (HF.out _ _ _).2⟩
      · have hgb : (gg == 1) = false := by simpa using hg1
        have hmk := make_bool wr n (by omega)
        have hT0 := GH.new wr n
        obtain ⟨w3, hw3⟩ : ∃ w3, wr.alloc (.cells (madeCells #[.bool false] n) 4) = w3 := ⟨_, rfl⟩
        rw [hw3] at hmk hT0
        have hB3 : Below wr.heap.size wr w3 := by rw [← hw3]; exact b1 _ _ _
        obtain ⟨tb, htb⟩ : ∃ tb, tb = wr.heap.size := ⟨_, rfl⟩
        rw [← htb] at hmk hT0
        have HNe : Hid (w.heap.size < g ∧ fb ≠ g ∧ tb ≠ g ∧ w.heap.size < tb ∧ fb ≠ tb ∧ g ≠ tb) := by
          have h1 := HNe0.out
          have h2 := HZ1.out.x.lt
          have h3 := HZ1.out.g.lt
          have h4 := lt_of_some HZ1.out.z
          exact ⟨h1.1, h1.2.1, by omega, by omega, by omega, by omega⟩
        have HK0 : Hid (Kd w3 w g fb tb n G (h4 kd S (L.take 0))) := ⟨HZ1.out.on hB3, by
          obtain ⟨X, x1, x2⟩ := hT0
          exact ⟨X, x1, fun v hv => by rw [x2 v hv]; rfl⟩⟩
        have HRB : Hid (Rl (PB kd S s n (L.take 0)) n G) := HR1.out.ext (fun v r _ => ⟨fun h => .inl h, fun h => by
          rcases h with h | ⟨_, _, h⟩
          · exact h
          · simp [o3] at h⟩)
        have HG1 := hide hg1
        clear HZ1 HR1 hw3 hB3 hT0 htb hg1
        go_wp2_with (fail)
        clear hmk
        go_loopw [17] (fun t wr => ∃ (i : Nat) (G : Nat → Int), i ≤ L.length ∧ t = .int .i64 i ∧ Hid (Rl (PB kd S s n (L.take i)) n G) ∧ Hid (Kd wr w g fb tb n G (h4 kd S (L.take i)))) (fun t _ => L.length - (intOf t).toNat)
        case atStart => exact ⟨0, _, Nat.zero_le _, rfl, HRB, HK0⟩
        case round =>
          clear HK0 HRB
          obtain ⟨i, G, hi, rfl, HR, HK⟩ := hrel
          by_cases ci : i < L.length
          · have hci : (i : Int) < (L.length : Int) := by omega
            obtain ⟨eb, x, y, z, rfl, hxyz, heb, hrd⟩ := HE.out i ci
            obtain ⟨hxn, hyn⟩ := HI.out _ (List.mem_of_getElem? hxyz)
            simp only at hxn hyn
            have hb0 := HK.out.1.b
            have hbs := hb0.size
            have hbA : Below w.heap.size w (wr.alloc (.cells (sv (S x)) 63)) := bA hb0 hbs _
            have hbB : Below w.heap.size w ((wr.alloc (.cells (sv (S x)) 63)).alloc (.cells (sv (S y)) 63)) := bA hbA (by simp only [World.size_alloc]; omega) _
            have d0 := (hrd wr hb0).1
            have d1 := (hrd _ hbA).2.1
            have kx := HAt.out wr hb0 x hxn
            have ky := HAt.out _ hbA y hyn
            have HKB : Hid (Kd ((wr.alloc (.cells (sv (S x)) 63)).alloc (.cells (sv (S y)) 63)) w g fb tb n G (h4 kd S (L.take i))) := (HK.out.on (b1 _ _ _)).on (b1 _ _ _)
            have HBB := hide hbB
            have HGl := hide HK.out.1.g.lt
            have hyw : IntKind.i64.wrap (y : Int) = y := i64w' _ (by omega)
            have hrx := HSR.out x hxn
            have hry := HSR.out y hyn
            obtain ⟨u, hu⟩ : ∃ u, S x = u := ⟨_, rfl⟩
            obtain ⟨v, hv⟩ : ∃ v, S y = v := ⟨_, rfl⟩
            rw [hu] at kx hrx HKB HBB d1 ky
            rw [hv] at ky hry HKB HBB
            obtain ⟨x0, x1, x2, x3, x4, x5, x6, x7⟩ := kx
            obtain ⟨y0, y1, y2, y3, y4, y5, y6, y7⟩ := ky
            obtain ⟨c, hc⟩ : ∃ c, cm (IntKind.i64.wrap (u 0)) (wk kd z) (IntKind.i64.wrap (v 0)) = c := ⟨_, rfl⟩
            have h3y : ∀ t, s3E kd S t (x, y, z) = (t == y && (!(u 0 == 9223372036854775807) && decide (c < 0))) := fun t => by
              by_cases e : t = y
              · subst e; unfold s3E D0; simp only [hu, hv, hc, beq_self_eq_true, Bool.true_and]
              · rw [s3_ne (e := (x, y, z)) e, show (t == y) = false by simpa using e]; rfl
            have h4y : ∀ t, s4E kd S t (x, y, z) = (t == y && (!(u 0 == 9223372036854775807) && (c == 0 && decide (u 2 < v 2)))) := fun t => by
              by_cases e : t = y
              · subst e; unfold s4E D0; simp only [hu, hv, hc, beq_self_eq_true, Bool.true_and]
              · rw [s4_ne (e := (x, y, z)) e, show (t == y) = false by simpa using e]; rfl
            have HRn : Hid (∀ b, (!(u 0 == 9223372036854775807) && decide (c < 0)) = b → Rl (PB kd S s n (L.take (i + 1))) n (nx G y 3 b)) := fun b hb => (HR.out.note y 3 b (by decide)).ext (fun t r ht => by
              rw [take_succ' hxyz]
              unfold PB
              rw [o3_app, h3y t, hb]
              simp only [Bool.or_eq_true, Bool.and_eq_true, beq_iff_eq]
              constructor
              · rintro ((h | ⟨q1, q2, q3⟩) | ⟨q1, q2, q3⟩)
                · exact .inl h
                · exact .inr ⟨q1, q2, .inl q3⟩
                · exact .inr ⟨q3, ht, .inr ⟨q2, q1⟩⟩
              · rintro (h | ⟨q1, q2, q3 | q3⟩)
                · exact .inl (.inl h)
                · exact .inl (.inr ⟨q1, q2, q3⟩)
                · exact .inr ⟨q3.2, q3.1, q1⟩)
            have hme : ∀ t, h4 kd S (L.take (i + 1)) t = (h4 kd S (L.take i) t || (t == y && (!(u 0 == 9223372036854775807) && (c == 0 && decide (u 2 < v 2))))) := fun t => by
              rw [take_succ' hxyz, h4_app, h4y t]
            have HMT : Hid ((!(u 0 == 9223372036854775807) && (c == 0 && decide (u 2 < v 2))) = true → ∀ t, t < n → (if t = y then true else h4 kd S (L.take i) t) = h4 kd S (L.take (i + 1)) t) := fun hc t _ => by
              rw [hme t, hc]
              by_cases e : t = y
              · subst e; simp
              · rw [if_neg e]; simp [e]
            have HMF : Hid ((!(u 0 == 9223372036854775807) && (c == 0 && decide (u 2 < v 2))) = false → ∀ t, t < n → h4 kd S (L.take i) t = h4 kd S (L.take (i + 1)) t) := fun hc t _ => by
              rw [hme t, hc]; simp
            have HRd := hide (fun W hW => (hrd W hW).2)
            have HWt := hide (rweight_any kd z)
            have HAg := hide (rcompare_any (IntKind.i64.wrap (u 0)) (wk kd z) (IntKind.i64.wrap (v 0)) (by rw [IntKind.wrap_i64]; have := hrx 0 (by decide); omega) (wk_b _ _) (by rw [IntKind.wrap_i64]; have := hry 0 (by decide); omega))
            rw [hc] at HAg
            obtain ⟨t, ht⟩ : ∃ t, wk kd z = t := ⟨_, rfl⟩
            rw [ht] at HWt HAg
            have Hbs := hide hbs
            clear hrx hry hc ht hme h3y h4y hrd hbA hbB hb0 hu hv HK HR hxyz hbs
            by_cases c0 : u 0 = 9223372036854775807
            · have hb : (u 0 == 9223372036854775807) = true := by simpa using c0
              have HR5 : Hid (Rl (PB kd S s n (L.take (i + 1))) n G) := by
                have h := HRn.out false (by rw [hb]; rfl)
                have e : nx G y 3 false = G := by unfold nx; rw [if_neg (by simp)]
                rw [e] at h
                exact h
              have HK5 : Hid (Kd ((wr.alloc (.cells (sv u) 63)).alloc (.cells (sv v) 63)) w g fb tb n G (h4 kd S (L.take (i + 1)))) := HKB.out.ext (HMF.out (by rw [hb]; rfl))
              clear HRn HMT HMF HKB HBB HRd HWt HAg c0 Hbs heb
              go_wp2
              all_goals exact ⟨⟨i + 1, _, ci, by go_num, HR5, HK5⟩, by simp [intOf]; omega⟩
            · have hb : (u 0 == 9223372036854775807) = false := by simpa using c0
              have HRm := hide (HRn.out (decide (c < 0)) (by rw [hb]; rfl))
              have HMT2 : Hid ((c == 0 && decide (u 2 < v 2)) = true → ∀ t, t < n → (if t = y then true else h4 kd S (L.take i) t) = h4 kd S (L.take (i + 1)) t) := fun h => HMT.out (by rw [hb, h]; rfl)
              have HMF2 : Hid ((c == 0 && decide (u 2 < v 2)) = false → ∀ t, t < n → h4 kd S (L.take i) t = h4 kd S (L.take (i + 1)) t) := fun h => HMF.out (by rw [hb, h]; rfl)
              clear HRn HMT HMF c0
              go_wp2_with (fail)
              clear x0 x1 x2 x3 x4 x5 x6 x7 y0 y1 y2 y3 y4 y5 y6 y7 d0 d1
              obtain ⟨w4, hw4⟩ : ∃ w4, ((wr.alloc (.cells (sv u) 63)).alloc (.cells (sv v) 63)) = w4 := ⟨_, rfl⟩
              have hbp : B8 w4 wr.heap.size u := by rw [← hw4]; exact keep _ (at0 _ _)
              have hbq : B8 w4 (wr.heap.size + 1) v := by rw [← hw4]; exact at1 _ _ _
              rw [hw4] at HKB HBB
              obtain ⟨p, hp⟩ : ∃ p, p = wr.heap.size := ⟨_, rfl⟩
              obtain ⟨q, hq⟩ : ∃ q, q = wr.heap.size + 1 := ⟨_, rfl⟩
              have HNp : Hid (p ≠ g ∧ q ≠ g ∧ eb.block ≠ g ∧ eb.block < w.heap.size) := by
                have h1 := HKB.out.1.g.lt
                have h2 := HNe.out.1
                exact ⟨by have := HGl.out; omega, by have := HGl.out; omega, by omega, heb⟩
              rw [hw4, ← hq, ← hp]
              rw [← hp] at hbp
              rw [← hq] at hbq
              have HP := hide hbp
              have HQ := hide hbq
              have HBW : Hid (∀ W, Ch (fun k => k = g) w4 W → Below w.heap.size w W) := fun W hW => HBB.out.trans (hW.below (fun k hk e => by have := HNe.out.1; omega) HBB.out.size)
              have H18 : Hid (∀ W, Ch (fun k => k = g) w4 W → S18d p q eb i z (u 0) (v 0) W) := fun W hW => ⟨(hW.cell (p := ⟨p, 0, none⟩) HP.out.lt HNp.out.1).trans (HP.out.c 0 (by decide)), (hW.cell (p := ⟨q, 0, none⟩) HQ.out.lt HNp.out.2.1).trans (HQ.out.c 0 (by decide)), (HRd.out W (HBW.out W hW)).2⟩
              have H19 : Hid (∀ W, Ch (fun k => k = g) w4 W → S19d fb g n eb i y W) := fun W hW => ⟨(hW.cell (p := ⟨fb, 0, none⟩) HKB.out.1.x.lt HNe.out.2.1).trans HKB.out.1.x.cell, (HRd.out W (HBW.out W hW)).1⟩
              have H20 : Hid (∀ W, Ch (fun k => k = g) w4 W → W.cell? ⟨p, 2, none⟩ = some (.int .u64 (u 2)) ∧ W.cell? ⟨q, 2, none⟩ = some (.int .u64 (v 2))) := fun W hW => ⟨(hW.cell (p := ⟨p, 2, none⟩) HP.out.lt HNp.out.1).trans (HP.out.c 2 (by decide)), (hW.cell (p := ⟨q, 2, none⟩) HQ.out.lt HNp.out.2.1).trans (HQ.out.c 2 (by decide))⟩
              have HCd : Hid (Ch (fun k => k = g) w4 w4.drew) := (Ch.refl _ _).drew
              have HCdd : Hid (Ch (fun k => k = g) w4 w4.drew.drew) := ((Ch.refl _ _).drew).drew
              have HN := hide (fun b => fnote_any g n y 3 b G hyn hn w4.drew.drew (HKB.out.1.g.of rfl))
              clear hbp hbq hw4 hp hq HP HQ HRd heb HBB
              go_region_held3 (S18d p q eb i z (u 0) (v 0)) ((first | with_reducible exact H18.out _ HCd.out | fail "no arm")) ((first | (go_at_call 80; refine (HWt.out _).mono ?_; rintro e5 w5 ⟨rfl, h5⟩; subst w5) | (go_at_call 79; refine (HAg.out _).mono ?_; rintro e6 w6 ⟨rfl, h6⟩; subst w6) | fail "no arm"))
              clear H18 HWt HAg HCd
              go_wp2_with (fail)
              go_region_held3 (S19d fb g n eb i y) ((first | with_reducible exact H19.out _ HCdd.out | with_reducible exact H19.out _ HC5.out | fail "no arm")) ((first | (go_at_call 52; refine (HN.out _).mono ?_; rintro e5 w5 ⟨⟨v5, rfl⟩, hG5, hC5⟩; have HC5 : Hid (Ch (fun k => k = g) w4 w5) := HCdd.out.trans hC5; have HG5 := hide hG5; clear hG5 hC5) | fail "no arm"))
              have HK5 := hide (HKB.out.ch HC5.out HG5.out HNe.out.1 HNe.out.2.1 HNe.out.2.2.1)
              obtain ⟨p2, q2⟩ := H20.out _ HC5.out
              have dd := (H19.out _ HC5.out).2
              have ch := HK5.out.2.cell y hyn
              have fh := HK5.out.2.fz y
              clear H19 H20 HC5 HG5 HCdd HN HKB HBW
              by_cases c2 : c = 0
              · have hcb : (c == 0) = true := by simpa using c2
                by_cases c3 : u 2 < v 2
                · have HK6 := hide (HK5.out.set y HNe.out.2.2.2.1 HNe.out.2.2.2.2.1 HNe.out.2.2.2.2.2 (HMT2.out (by rw [hcb]; simpa using c3)))
                  clear HK5 HMT2 HMF2 c2
                  go_wp2
                  all_goals exact ⟨⟨i + 1, _, ci, by go_num, HRm, HK6⟩, by simp [intOf]; omega⟩
                · have HK6 := hide (HK5.out.ext (HMF2.out (by rw [hcb]; simpa using c3)))
                  clear HK5 HMT2 HMF2 c2 ch fh dd
                  go_wp2
                  all_goals exact ⟨⟨i + 1, _, ci, by go_num, HRm, HK6⟩, by simp [intOf]; omega⟩
              · have hcb : (c == 0) = false := by simpa using c2
                have HK6 := hide (HK5.out.ext (HMF2.out (by rw [hcb]; rfl)))
                clear HK5 HMT2 HMF2 c2 ch fh dd p2 q2
                go_wp2
                all_goals exact ⟨⟨i + 1, _, ci, by go_num, HRm, HK6⟩, by simp [intOf]; omega⟩
          · have hie : i = L.length := by omega
            subst hie
            rw [List.take_length] at HR HK
            have HR1 : Hid (Rl (PC kd S s n L 0) n G) := HR.out.ext (fun v r hv => ⟨fun h => .inl h, fun h => by
              rcases h with h | ⟨_, h, _⟩ | ⟨_, h, _⟩
              · exact h
              · omega
              · omega⟩)
            have HK1 := HK
            clear HR HK ci hi
            go_wp2_with (fail)
            go_loopw [21] (fun t wr => ∃ (j : Nat) (G : Nat → Int), j ≤ n ∧ t = .int .i64 j ∧ Hid (Rl (PC kd S s n L j) n G) ∧ Hid (Kd wr w g fb tb n G (h4 kd S L))) (fun t _ => n - (intOf t).toNat)
            case atStart => exact ⟨0, G, Nat.zero_le _, rfl, HR1, HK1⟩
            case round =>
              clear HR1 HK1 G
              obtain ⟨j, G, hj, rfl, HR, HK⟩ := hrel
              by_cases cc : j < n
              · have hcc : (j : Int) < (n : Int) := by omega
                have hb0 := HK.out.1.b
                have kj := HAt.out wr hb0 j cc
                obtain ⟨u, hu⟩ : ∃ u, S j = u := ⟨_, rfl⟩
                obtain ⟨o, ho⟩ : ∃ o, h4 kd S L j = o := ⟨_, rfl⟩
                rw [hu] at kj
                obtain ⟨x0, x1, x2, x3, x4, x5, x6, x7⟩ := kj
                have hju : IntKind.u32.wrap (j : Int) = j := u32w _ (by omega)
                have HRs : Hid (j = s → ∀ b, (u 0 != 0 || u 2 != 0) = b → Rl (PC kd S s n L (j + 1)) n (nx G j 2 b)) := fun hjs b hb => (HR.out.note j 2 b (by decide)).ext (fun t r ht => by
                  have e2 : b2 S s j = b := by
                    unfold b2
                    rw [hu, ← hb, show (j == s) = true by simpa using hjs, Bool.true_and]
                    by_cases e : u 0 = 9223372036854775807
                    · rw [e]; rfl
                    · rw [show (u 0 == 9223372036854775807) = false by simpa using e, Bool.false_and, Bool.or_false]; rfl
                  have e4 : b4 S s (h4 kd S L) j = false := by
                    unfold b4
                    rw [show (j == s) = true by simpa using hjs]; rfl
                  unfold PC
                  constructor
                  · rintro ((h | ⟨q1, q2, q3⟩ | ⟨q1, q2, q3⟩) | ⟨q1, q2, q3⟩)
                    · exact .inl h
                    · exact .inr (.inl ⟨q1, by omega, q3⟩)
                    · exact .inr (.inr ⟨q1, by omega, q3⟩)
                    · subst q2; exact .inr (.inl ⟨q3, by omega, by rw [e2]; exact q1⟩)
                  · rintro (h | ⟨q1, q2, q3⟩ | ⟨q1, q2, q3⟩)
                    · exact .inl (.inl h)
                    · by_cases e : t = j
                      · subst e; exact .inr ⟨by rw [← e2]; exact q3, rfl, q1⟩
                      · exact .inl (.inr (.inl ⟨q1, by omega, q3⟩))
                    · by_cases e : t = j
                      · subst e; rw [e4] at q3; cases q3
                      · exact .inl (.inr (.inr ⟨q1, by omega, q3⟩)))
                have HRo : Hid (j ≠ s → ∀ b b', (u 0 == 9223372036854775807 && u 2 != 0) = b → (u 0 != 9223372036854775807 && !o) = b' → Rl (PC kd S s n L (j + 1)) n (nx (nx G j 2 b) j 4 b')) := fun hjs b b' hb hb' => ((HR.out.note j 2 b (by decide)).note j 4 b' (by decide)).ext (fun t r ht => by
                  have e2 : b2 S s j = b := by
                    unfold b2
                    rw [hu, ← hb, show (j == s) = false by simpa using hjs, Bool.false_and, Bool.false_or]; rfl
                  have e4 : b4 S s (h4 kd S L) j = b' := by
                    unfold b4
                    rw [hu, ho, ← hb', show (j == s) = false by simpa using hjs]; rfl
                  unfold PC
                  constructor
                  · rintro (((h | ⟨q1, q2, q3⟩ | ⟨q1, q2, q3⟩) | ⟨q1, q2, q3⟩) | ⟨q1, q2, q3⟩)
                    · exact .inl h
                    · exact .inr (.inl ⟨q1, by omega, q3⟩)
                    · exact .inr (.inr ⟨q1, by omega, q3⟩)
                    · subst q2; exact .inr (.inl ⟨q3, by omega, by rw [e2]; exact q1⟩)
                    · subst q2; exact .inr (.inr ⟨q3, by omega, by rw [e4]; exact q1⟩)
                  · rintro (h | ⟨q1, q2, q3⟩ | ⟨q1, q2, q3⟩)
                    · exact .inl (.inl (.inl h))
                    · by_cases e : t = j
                      · subst e; exact .inl (.inr ⟨by rw [← e2]; exact q3, rfl, q1⟩)
                      · exact .inl (.inl (.inr (.inl ⟨q1, by omega, q3⟩)))
                    · by_cases e : t = j
                      · subst e; exact .inr ⟨by rw [← e4]; exact q3, rfl, q1⟩
                      · exact .inl (.inl (.inr (.inr ⟨q1, by omega, q3⟩))))
                obtain ⟨wA, hwA⟩ : ∃ wA, wr.alloc (.cells (sv u) 63) = wA := ⟨_, rfl⟩
                have HKA : Hid (Kd wA w g fb tb n G (h4 kd S L)) := by
                  show Kd _ _ _ _ _ _ _ _
                  rw [← hwA]; exact HK.out.on (b1 _ _ _)
                have hbx : B8 wA wr.heap.size u := by rw [← hwA]; exact at0 _ _
                have hGl := HK.out.1.g.lt
                obtain ⟨xb, hxb⟩ : ∃ xb, xb = wr.heap.size := ⟨_, rfl⟩
                rw [← hxb] at hbx
                have HNx : Hid (xb ≠ g) := by show xb ≠ g; omega
                have HX := hide hbx
                have hto := HKA.out.2.cell j cc
                rw [ho] at hto
                have H29 : Hid (∀ W, Ch (fun k => k = g) wA W → S29d fb tb xb g n j (u 0) o W) := fun W hW => ⟨(hW.cell (p := ⟨fb, 0, none⟩) HKA.out.1.x.lt HNe.out.2.1).trans HKA.out.1.x.cell, (hW.cell (p := ⟨xb, 0, none⟩) HX.out.lt HNx.out).trans (HX.out.c 0 (by decide)), (hW.cell (p := ⟨tb, j, none⟩) HKA.out.2.lt HNe.out.2.2.1).trans hto⟩
                have HN := hide (fun b => fnote_any g n j 2 b G cc hn wA HKA.out.1.g)
                have cf : wA.cell? ⟨fb, 0, none⟩ = some (.slice (some ⟨g, 0, none⟩) n n) := HKA.out.1.x.cell
                have cx0 := hbx.c 0 (by decide)
                have cx2 := hbx.c 2 (by decide)
                rw [← hwA] at cf
                have Hxb := hide hxb
                have HwA := hide hwA
                rw [← hwA] at cx0 cx2
                rw [hxb] at cx0 cx2
                clear hb0 hu ho HR HK hbx hGl hxb hto hwA
                by_cases hjs : j = s
                · have hb : ((j : Int) == (s : Int)) = true := by simp; omega
                  cases ha : (u 0 != 0) with
                  | true =>
                    have HRf := hide (HRs.out hjs true (by rw [ha]; rfl))
                    clear HRs HRo hjs H29
                    go_wp2_with (fail)
                    rw [HwA.out]
                    refine (HN.out true).mono ?_
                    rintro e5 w5 ⟨⟨v5, rfl⟩, hG5, hC5⟩
                    have HK6 := hide (HKA.out.ch hC5 hG5 HNe.out.1 HNe.out.2.1 HNe.out.2.2.1)
                    clear hG5 hC5 HKA HN HX cf cx0 cx2 HwA Hxb
                    go_wp2
                    all_goals exact ⟨⟨j + 1, _, cc, by go_num, HRf, HK6⟩, by simp [intOf]; omega⟩
                  | false =>
                    have HRf := hide (HRs.out hjs (u 2 != 0) (by rw [ha]; rfl))
                    clear HRs HRo hjs H29
                    go_wp2_with (fail)
                    rw [HwA.out]
                    refine (HN.out _).mono ?_
                    rintro e5 w5 ⟨⟨v5, rfl⟩, hG5, hC5⟩
                    have HK6 := hide (HKA.out.ch hC5 hG5 HNe.out.1 HNe.out.2.1 HNe.out.2.2.1)
                    clear hG5 hC5 HKA HN HX cf cx0 cx2 HwA Hxb
                    go_wp2
                    all_goals exact ⟨⟨j + 1, _, cc, by go_num, HRf, HK6⟩, by simp [intOf]; omega⟩
                · have hb : ((j : Int) == (s : Int)) = false := by simp; omega
                  by_cases hc : u 0 = 9223372036854775807
                  · have hc1 : (u 0 == 9223372036854775807) = true := by simpa using hc
                    have hc2 : (u 0 != 9223372036854775807) = false := by simpa using hc
                    have HRf := hide (HRo.out hjs (u 2 != 0) false (by rw [hc1]; rfl) (by rw [hc2]; rfl))
                    clear HRs HRo hjs hc
                    go_wp2_with (fail)
                    rw [HwA.out]
                    refine (HN.out _).mono ?_
                    rintro e5 w5 ⟨⟨v5, rfl⟩, hG5, hC5⟩
                    have HC5 : Hid (Ch (fun k => k = g) wA w5) := hC5
                    have HN4 := hide (fun (W : World) b => fnote_any g n j 4 b (nx G j 2 (u 2 != 0)) cc hn w5.drew (hG5.of rfl))
                    have HG5 := hide hG5
                    clear hG5 hC5 HN HX cf cx0 cx2 HwA
                    go_wp2_with (fail)
                    rw [← Hxb.out]
                    clear Hxb
                    refine wp_region_held_drew (S := (S29d fb tb xb g n j (u 0) o)) (by kernel_rfl) ?_ (fun hHeld => ?_)
                    · exact H29.out _ HC5.out.drew
                    refine wpAnyH_take (i := 0) (oi := ({ dst := some 175, op := Go.Op.load 85 (Go.Operand.tmp 11), type := 85, pos := "ref.go:191", after := #[], guard := none } : Oper)) (v := ?_) rfl (by kernel_rfl) (by kernel_rfl) (by kernel_rfl) (fun _ _ _ h => h) (Or.inl ⟨by rfl, ?_⟩) (by assumption) ?_
                    rotate_left 1
                    · (intro w hSw; (try dsimp only at hSw); go_simp; (try with_reducible rfl))
                    try simp only [Act.put, List.setIfInBounds_toArray, List.set_cons_zero, List.set_cons_succ]
                    refine wpAnyH_take (i := 1) (oi := ({ dst := some 176, op := Go.Op.move (Go.Operand.tmp 21), type := 3, pos := "ref.go:191", after := #[], guard := none } : Oper)) (v := ?_) rfl (by kernel_rfl) (by kernel_rfl) (by kernel_rfl) (fun _ _ _ h => h) (Or.inl ⟨by rfl, ?_⟩) (by assumption) ?_
                    rotate_left 1
                    · (intro w hSw; (try dsimp only at hSw); go_simp; (try with_reducible rfl))
                    try simp only [Act.put, List.setIfInBounds_toArray, List.set_cons_zero, List.set_cons_succ]
                    refine wpAnyH_take (i := 2) (oi := ({ dst := some 177, op := Go.Op.indexAddr 63 (Go.Operand.tmp 22) (Go.Operand.const (Go.Value.int Go.IntKind.i64 0)), type := 0, pos := "ref.go:191", after := #[], guard := none } : Oper)) (v := ?_) rfl (by kernel_rfl) (by kernel_rfl) (by kernel_rfl) (fun _ _ _ h => h) (Or.inl ⟨by rfl, ?_⟩) (by assumption) ?_
                    rotate_left 1
                    · (intro w hSw; (try dsimp only at hSw); go_simp; (try with_reducible rfl))
                    try simp only [Act.put, List.setIfInBounds_toArray, List.set_cons_zero, List.set_cons_succ]
                    refine wpAnyH_take (i := 3) (oi := ({ dst := some 178, op := Go.Op.load 28 (Go.Operand.tmp 177), type := 28, pos := "ref.go:191", after := #[{ on := 2, ground := Go.Ground.data }], guard := none } : Oper)) (v := ?_) rfl (by kernel_rfl) (by kernel_rfl) (by kernel_rfl) (fun _ _ _ h => h) (Or.inl ⟨by rfl, ?_⟩) (by assumption) ?_
                    rotate_left 1
                    · (intro w hSw; (try dsimp only at hSw); go_simp; (try with_reducible rfl))
                    try simp only [Act.put, List.setIfInBounds_toArray, List.set_cons_zero, List.set_cons_succ]
                    refine wpAnyH_take (i := 4) (oi := ({ dst := some 179, op := Go.Op.binOp Go.BinOp.neq 28 (Go.Operand.tmp 178) (Go.Operand.const (Go.Value.int Go.IntKind.u64 9223372036854775807)) 28, type := 4, pos := "ref.go:191", after := #[{ on := 3, ground := Go.Ground.data }], guard := none } : Oper)) (v := ?_) rfl (by kernel_rfl) (by kernel_rfl) (by kernel_rfl) (fun _ _ _ h => h) (Or.inl ⟨by rfl, ?_⟩) (by assumption) ?_
                    rotate_left 1
                    · (intro w hSw; (try dsimp only at hSw); go_simp; (try with_reducible rfl))
                    try simp only [Act.put, List.setIfInBounds_toArray, List.set_cons_zero, List.set_cons_succ]
                    refine wpAnyH_take (i := 5) (oi := ({ dst := some 180, op := Go.Op.move (Go.Operand.tmp 179), type := 4, pos := "ref.go:191", after := #[{ on := 4, ground := Go.Ground.data }], guard := none } : Oper)) (v := ?_) rfl (by kernel_rfl) (by kernel_rfl) (by kernel_rfl) (fun _ _ _ h => h) (Or.inl ⟨by rfl, ?_⟩) (by assumption) ?_
                    rotate_left 1
                    · (intro w hSw; (try dsimp only at hSw); go_simp; (try with_reducible rfl))
                    try simp only [Act.put, List.setIfInBounds_toArray, List.set_cons_zero, List.set_cons_succ]
                    refine wpAnyH_take (i := 6) (oi := ({ dst := some 181, op := Go.Op.move (Go.Operand.tmp 16), type := 92, pos := "ref.go:191", after := #[{ on := 5, ground := Go.Ground.guard }], guard := some (5, true) } : Oper)) (v := undef) rfl (by kernel_rfl) (by kernel_rfl) (by kernel_rfl) (fun _ _ _ h => h) (Or.inr ⟨by rfl, rfl⟩) (by assumption) ?_
                    try simp only [Act.put, List.setIfInBounds_toArray, List.set_cons_zero, List.set_cons_succ]
                    refine wpAnyH_take (i := 7) (oi := ({ dst := some 182, op := Go.Op.move (Go.Operand.tmp 21), type := 3, pos := "ref.go:191", after := #[{ on := 5, ground := Go.Ground.guard }], guard := some (5, true) } : Oper)) (v := undef) rfl (by kernel_rfl) (by kernel_rfl) (by kernel_rfl) (fun _ _ _ h => h) (Or.inr ⟨by rfl, rfl⟩) (by assumption) ?_
                    try simp only [Act.put, List.setIfInBounds_toArray, List.set_cons_zero, List.set_cons_succ]
                    refine wpAnyH_take (i := 8) (oi := ({ dst := some 183, op := Go.Op.indexAddr 92 (Go.Operand.tmp 181) (Go.Operand.tmp 182), type := 0, pos := "ref.go:191", after := #[{ on := 6, ground := Go.Ground.data }, { on := 7, ground := Go.Ground.data }, { on := 5, ground := Go.Ground.guard }], guard := some (5, true) } : Oper)) (v := undef) rfl (by kernel_rfl) (by kernel_rfl) (by kernel_rfl) (fun _ _ _ h => h) (Or.inr ⟨by rfl, rfl⟩) (by assumption) ?_
                    try simp only [Act.put, List.setIfInBounds_toArray, List.set_cons_zero, List.set_cons_succ]
                    refine wpAnyH_take (i := 9) (oi := ({ dst := some 184, op := Go.Op.load 4 (Go.Operand.tmp 183), type := 4, pos := "ref.go:191", after := #[{ on := 8, ground := Go.Ground.data }, { on := 5, ground := Go.Ground.guard }], guard := some (5, true) } : Oper)) (v := undef) rfl (by kernel_rfl) (by kernel_rfl) (by kernel_rfl) (fun _ _ _ h => h) (Or.inr ⟨by rfl, rfl⟩) (by assumption) ?_
                    try simp only [Act.put, List.setIfInBounds_toArray, List.set_cons_zero, List.set_cons_succ]
                    refine wpAnyH_take (i := 10) (oi := ({ dst := some 185, op := Go.Op.unOp Go.UnOp.not 4 (Go.Operand.tmp 184), type := 4, pos := "ref.go:191", after := #[{ on := 9, ground := Go.Ground.data }, { on := 5, ground := Go.Ground.guard }], guard := some (5, true) } : Oper)) (v := undef) rfl (by kernel_rfl) (by kernel_rfl) (by kernel_rfl) (fun _ _ _ h => h) (Or.inr ⟨by rfl, rfl⟩) (by assumption) ?_
                    try simp only [Act.put, List.setIfInBounds_toArray, List.set_cons_zero, List.set_cons_succ]
                    refine wpAnyH_take (i := 11) (oi := ({ dst := some 186, op := Go.Op.pick (Go.Operand.tmp 180) (Go.Operand.tmp 185) (Go.Operand.const (Go.Value.bool false)), type := 4, pos := "ref.go:191", after := #[{ on := 5, ground := Go.Ground.data }, { on := 10, ground := Go.Ground.data }], guard := none } : Oper)) (v := ?_) rfl (by kernel_rfl) (by kernel_rfl) (by kernel_rfl) (fun _ _ _ h => h) (Or.inl ⟨by rfl, ?_⟩) (by assumption) ?_
                    rotate_left 1
                    · (intro w hSw; (try dsimp only at hSw); go_simp; (try with_reducible rfl))
                    try simp only [Act.put, List.setIfInBounds_toArray, List.set_cons_zero, List.set_cons_succ]
                    refine wpAnyH_ready (rs := [12]) (by kernel_rfl) (by simp) ?_
                    refine AllReadyH.cons (o := ({ dst := some 187, op := Go.Op.call { callee := Go.Callee.value (Go.Operand.func 52), args := #[Go.Operand.tmp 175, Go.Operand.tmp 176, Go.Operand.const (Go.Value.int Go.IntKind.i64 4), Go.Operand.tmp 186], argTypes := #[85, 3, 3, 4] }, type := 0, pos := "ref.go:191", after := #[{ on := 0, ground := Go.Ground.data }, { on := 1, ground := Go.Ground.data }, { on := 11, ground := Go.Ground.data }, { on := 5, ground := Go.Ground.chain }], guard := none } : Oper)) rfl (fun K hK => ?_) AllReadyH.nil
                    go_simp
                    go_at_call 52
                    refine (HN4.out w5 false).mono ?_
                    rintro e6 w6 ⟨⟨v6, rfl⟩, hG6, hC6⟩
                    have HC6 : Hid (Ch (fun k => k = g) wA w6) := HC5.out.drew.trans hC6
                    have HG6 := hide hG6
                    clear hG6 hC6
                    go_wp2_with (fail)
                    refine hK.out _ _ ?_ (fun hHeld => ?_)
                    · exact H29.out _ HC6.out
                    clear hK K
                    try simp only [Act.put, List.setIfInBounds_toArray, List.set_cons_zero, List.set_cons_succ]
                    refine wpAnyH_done (by kernel_rfl) ?_ _
                    have HK6 := hide (HKA.out.ch HC6.out HG6.out HNe.out.1 HNe.out.2.1 HNe.out.2.2.1)
                    clear HKA HC5 HC6 HG5 HG6 H29 HN4
                    go_wp2
                    all_goals exact ⟨⟨j + 1, _, cc, by go_num, HRf, HK6⟩, by simp [intOf]; omega⟩
                  · have hc1 : (u 0 == 9223372036854775807) = false := by simpa using hc
                    have hc2 : (u 0 != 9223372036854775807) = true := by simpa using hc
                    have HRf := hide (HRo.out hjs false (!o) (by rw [hc1]; rfl) (by rw [hc2]; rfl))
                    clear HRs HRo hjs hc
                    go_wp2_with (fail)
                    rw [HwA.out]
                    refine (HN.out _).mono ?_
                    rintro e5 w5 ⟨⟨v5, rfl⟩, hG5, hC5⟩
                    have HC5 : Hid (Ch (fun k => k = g) wA w5) := hC5
                    have HN4 := hide (fun (W : World) b => fnote_any g n j 4 b (nx G j 2 false) cc hn w5.drew (hG5.of rfl))
                    have HG5 := hide hG5
                    clear hG5 hC5 HN HX cf cx0 cx2 HwA
                    go_wp2_with (fail)
                    rw [← Hxb.out]
                    clear Hxb
                    go_region_held3 (S29d fb tb xb g n j (u 0) o) ((first | with_reducible exact H29.out _ HC5.out.drew | with_reducible exact H29.out _ HC6.out | fail "no arm")) ((first | (go_at_call 52; refine (HN4.out w5 _).mono ?_; rintro e6 w6 ⟨⟨v6, rfl⟩, hG6, hC6⟩; have HC6 : Hid (Ch (fun k => k = g) wA w6) := HC5.out.drew.trans hC6; have HG6 := hide hG6; clear hG6 hC6) | fail "no arm"))
                    have HK6 := hide (HKA.out.ch HC6.out HG6.out HNe.out.1 HNe.out.2.1 HNe.out.2.2.1)
                    clear HKA HC5 HC6 HG5 HG6 H29 HN4
                    go_wp2
                    all_goals exact ⟨⟨j + 1, _, cc, by go_num, HRf, HK6⟩, by simp [intOf]; omega⟩
              · have hjn : n = j := by omega
                subst hjn
                have HR2 : Hid (Rl (PDs kd S s n L) n G) := HR.out.ext (fun v r hv => by
                  unfold PDs PC PB PA PW
                  rw [Hgg.out, if_neg HG1.out]
                  constructor
                  · rintro ((h | h) | h | h)
                    · exact .inl h
                    · exact .inr (.inl h)
                    · exact .inr (.inr (.inl h))
                    · exact .inr (.inr (.inr h))
                  · rintro (h | h | h | h)
                    · exact .inl (.inl h)
                    · exact .inl (.inr h)
                    · exact .inr (.inl h)
                    · exact .inr (.inr h))
                have HV := hide (verdict_any g n G _ hn HR2.out (fun v r h => by rcases h with ⟨_, h, _⟩ | h; exact h; rw [Hgg.out, if_neg HG1.out] at h; rcases h with ⟨_, h, _⟩ | ⟨_, h, _⟩ | ⟨_, h, _⟩ <;> exact h) wr HK.out.1.g)
                have cX := HK.out.1.x.cell
                have HZz := hide HK.out.1.z
                have HZb := hide HK.out.1.b
                clear HR HR2 HK cc hj
                go_wp2_with (fail)
                refine HV.out.mono ?_
                rintro e9 w9 ⟨o, rfl, hL, hB9⟩
                have hz9 : w9.heap[w.heap.size]? = some (.cells z3 35 (0, 0)) := (hB9.block _ (lt_of_some HZz.out)).trans HZz.out
                have hbs := HZb.out.size
                obtain ⟨g0, g1, g2, f0, f1, f2⟩ := z35e hz9
                have HF : Hid (∀ a b c, (((w9.setCell ⟨w.heap.size, 0, none⟩ a).setCell ⟨w.heap.size, 1, none⟩ b).setCell ⟨w.heap.size, 2, none⟩ c).heap[w.heap.size]? = some (.cells #[a, b, c] 35 (0, 0)) ∧ Below w.heap.size w (((w9.setCell ⟨w.heap.size, 0, none⟩ a).setCell ⟨w.heap.size, 1, none⟩ b).setCell ⟨w.heap.size, 2, none⟩ c)) := fun a b c => by
                  rw [sets3 hz9 rfl]
                  exact ⟨setRow_heap _ _ _ _ _ _ hz9, below_setRow (HZb.out.trans (hB9.mono hbs)) (by omega) _⟩
                have HL := hide hL
                clear hz9 hB9 hL HV HZz HZb cX
                go_wp2
                all_goals (refine bodyPost_ret (v := .agg #[.bool (vR o), .int .u32 (vV o), .int .i64 (vK o)]) ?_ rfl ?_)
                all_goals first | exact res30 _ _ _ _ _ _ rfl (HF.out _ _ _).1 | exact ⟨o, rfl, HL.out, (HF.out _ _ _).2⟩
end Au
end Go.Proofs.Ytcepfmeoeepjdaa
