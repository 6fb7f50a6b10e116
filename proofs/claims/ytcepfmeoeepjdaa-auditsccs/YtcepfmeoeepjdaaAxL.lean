import Derived.Test.YtcepfmeoeepjdaaAxK
import Derived.Test.YtcepfmeoeepjdaaAuT
namespace Go.Proofs.Ytcepfmeoeepjdaa
namespace Au
open Go.RowKit
set_option linter.unusedVariables false
set_option maxRecDepth 8000
/-- What the document's Sccs holds besides. -/
def Zs (W w : World) (g fb n : Nat) (G : Nat → Int) : Prop := W.heap[w.heap.size]? = some (.cells z3 35 (0, 0)) ∧ Boxed W fb 85 (.slice (some ⟨g, 0, none⟩) n n) ∧ GI W g n G ∧ Below w.heap.size w W
theorem Zs.on {W W' w : World} {g fb n : Nat} {G : Nat → Int} (h : Zs W w g fb n G) (hb : Below W.heap.size W W') : Zs W' w g fb n G := by
  obtain ⟨a, b, c, d⟩ := h
  exact ⟨(hb.block _ (lt_of_some a)).trans a, (hb.block _ b.lt).trans b, c.of (hb.block _ c.lt), d.trans (hb.mono d.size)⟩
theorem Zs.ch {W W' w : World} {g fb n : Nat} {G G' : Nat → Int} (h : Zs W w g fb n G) (hc : Ch (fun k => k = g) W W') (hG : GI W' g n G') (h1 : w.heap.size < g) (h2 : fb ≠ g) : Zs W' w g fb n G' := by
  obtain ⟨a, b, c, d⟩ := h
  exact ⟨(hc.block _ (lt_of_some a) (by show w.heap.size ≠ g; omega)).trans a, (hc.block _ b.lt h2).trans b, hG, d.trans (hc.below (fun k hk e => by omega) d.size)⟩
theorem res32 (T : Array Value) (b : Nat) (a c d : Value) (W : World) (h10 : T[6]? = some (.pointer (some ⟨b, 0, none⟩))) (h : W.heap[b]? = some (.cells #[a, c, d] 35 (0, 0))) :
    (results Try.f32 T).run Try.prog W = .ok (.agg #[a, c, d]) W := by
  have h0 : W.cell? ⟨b, 0, none⟩ = some a := (cell_of_row _ _ _ _ _ _ h).trans rfl
  have h1 : W.cell? ⟨b, 1, none⟩ = some c := (cell_of_row _ _ _ _ _ _ h).trans rfl
  have h2 : W.cell? ⟨b, 2, none⟩ = some d := (cell_of_row _ _ _ _ _ _ h).trans rfl
  simp [results, Try.f32, go_sem, h10, h0, h1, h2]
abbrev S6 (fb g n : Nat) (ax : Addr) (l : Nat) (t : Int) (w : World) : Prop := w.cell? ⟨fb, 0, none⟩ = some (.slice (some ⟨g, 0, none⟩) n n) ∧ w.cell? (ax.add (l * 8)) = some (.int .u64 t)
abbrev S6a (fb g n : Nat) (w : World) : Prop := w.cell? ⟨fb, 0, none⟩ = some (.slice (some ⟨g, 0, none⟩) n n)
abbrev S12d (fb g n tb ub v : Nat) (h k : Bool) (w : World) : Prop := w.cell? ⟨fb, 0, none⟩ = some (.slice (some ⟨g, 0, none⟩) n n) ∧ w.cell? ⟨tb, v, none⟩ = some (.bool h) ∧ w.cell? ⟨ub, v, none⟩ = some (.bool k)
abbrev S23e (fb g n gl i : Nat) (p : Addr) (x t : Int) (w : World) : Prop := w.cell? ⟨fb, 0, none⟩ = some (.slice (some ⟨g, 0, none⟩) n n) ∧ w.cell? ⟨gl, i, none⟩ = some (.int .u64 x) ∧ w.cell? p = some (.int .u64 t)
theorem kx_mem {S : Nat → Nat → Int} {n : Nat} {L : List T3} {X : List Int} {t : Nat} (hg : Gl S n) (hX : KX S n L X t) (v : Nat) (hv : v < n) : S v 0 ∈ X ↔ kn S L t (S v 0).toNat = true := by
  obtain ⟨a, b, c⟩ := hg v hv
  rw [hX]
  constructor
  · rintro ⟨u, hu, e, hk⟩
    rw [show (S v 0).toNat = u by omega]; exact hk
  · intro hk
    exact ⟨(S v 0).toNat, hg.lt hv, by omega, hk⟩
set_option maxHeartbeats 8000000 in
theorem rsccs_any (n ec sc : Nat) (a sa : Option Addr) (L : List T3) (S : Nat → Nat → Int) (hsr : ∀ v, v < n → 0 ≤ S v 0 ∧ S v 0 < 18446744073709551616) (hn0 : 0 < n) (hn : n ≤ 5000) (hl12 : L.length * 12 ≤ 140737488351232) (w : World) (hE : Row3 .u32 w a L) (hS : Row8 w sa n S) (hI : ∀ e ∈ L, e.1 < n ∧ e.2.1 < n) :
    Calls Try.prog 32 #[.int .u32 (n : Int), .slice a L.length ec, .slice sa n sc] w fun e w' => ∃ o, e = .returned (.agg #[.bool (vR o), .int .u32 (vV o), .int .i64 (vK o)]) ∧ AS S n L o ∧ Below w.heap.size w w' := by
  obtain ⟨ax, rfl, hAt⟩ := hS hn0
  have HAt : Hid (∀ W, Below w.heap.size w W → ∀ u, u < n → W.cell? (ax.add (u * 8)) = some (.int .u64 (S u 0))) := fun W hW u hu => by
    have h := (hAt.k u hu).1
    exact (hW.cell (p := ax.add (u * 8)) (by rw [add_block]; exact hAt.1)).trans h
  have HAx : Hid (ax.block < w.heap.size) := hAt.1
  have hcv : IntKind.i64.wrap (n : Int) = n := i64w _ (by omega)
  have hcu : IntKind.u64.wrap (n : Int) = n := wu _ (by omega) (by omega)
  have HSR := hide hsr
  have HI := hide hI
  have HWi : Hid (∀ bk W, Below w.heap.size w W → Calls Try.prog 84 #[.int .u32 (n : Int), .slice a L.length ec, .slice (some ax) n sc, .bool bk] W fun e w' => ∃ H, e = .returned (.slice (some ⟨W.heap.size, 0, none⟩) n n) ∧ GH w' W.heap.size n H ∧ (∀ v, v < n → (H v = true ↔ Cl S n L bk v)) ∧ Below W.heap.size W w') := fun bk W hW => rwithin_any n ec sc a (some ax) bk L S hn0 hn (by omega) W (hE.on hW (Nat.le_refl _)) (hS.on hW (Nat.le_refl _)) hI
  have HKn : Hid (Gl S n → ∀ W, Below w.heap.size w W → Calls Try.prog 85 #[.slice a L.length ec, .slice (some ax) n sc] W fun e w' => Kp9 S n L W e w') := fun hg W hW => rknots_any n ec sc a (some ax) L S hg hn0 hn hl12 W (hE.on hW (Nat.le_refl _)) (hS.on hW (Nat.le_refl _)) hI
  obtain ⟨w0, hw0⟩ : ∃ w0, w.alloc (.cells z3 35) = w0 := ⟨_, rfl⟩
  have hB0 : Below w.heap.size w w0 := by rw [← hw0]; exact b1 _ _ _
  have hz0 : w0.heap[w.heap.size]? = some (.cells z3 35 (0, 0)) := by rw [← hw0]; exact at0 _ _
  have HBg := hide (begin_any n hn w0)
  have HW0 := hide hw0
  have HZ0 := hide hz0
  have HB0 := hide hB0
  clear hE hS hI hw0 hz0 hB0 hsr hAt
  go_enter Try.func32, Try.ntmps32
  go_wp2_with (fail)
  rw [HW0.out]
  refine HBg.out.mono ?_
  rintro e1 w1 ⟨g, rfl, hg, hGI, hB1⟩
  obtain ⟨w2, hw2⟩ : ∃ w2, w1.alloc (.cells #[.slice (some ⟨g, 0, none⟩) n n] 85) = w2 := ⟨_, rfl⟩
  have hB2 : Below w1.heap.size w1 w2 := by rw [← hw2]; exact b1 _ _ _
  have HZ2 : Hid (Zs w2 w g w1.heap.size n (fun _ => 0)) := by
    refine ⟨(hB2.block _ (Nat.lt_of_lt_of_le (lt_of_some HZ0.out) hB1.size)).trans ((hB1.block _ (lt_of_some HZ0.out)).trans HZ0.out), ?_, hGI.of (hB2.block _ hGI.lt), (HB0.out.trans (hB1.mono HB0.out.size)).trans (hB2.mono (Nat.le_trans HB0.out.size hB1.size))⟩
    rw [← hw2]; exact Boxed.new w1 _ _
  have HNe : Hid (w.heap.size < g ∧ g < w1.heap.size) := ⟨by have := lt_of_some HZ0.out; omega, hGI.lt⟩
  obtain ⟨fb, hfbe⟩ : ∃ fb, fb = w1.heap.size := ⟨_, rfl⟩
  have HW2 := hide hw2
  rw [← hfbe] at HZ2 HNe
  clear hB1 hB2 hGI hw2 HBg HZ0 HB0 HW0
  go_wp2_with (fail)
  rw [HW2.out, ← hfbe]
  clear hfbe HW2
  go_loopw [8] (fun v wr => ∃ (k : Nat) (G : Nat → Int), k ≤ n ∧ v = .int .i64 k ∧ Hid (Rl (fun v r => r = 1 ∧ v < k ∧ br1 S v = true) n G) ∧ Hid (Zs wr w g fb n G)) (fun v _ => n - (intOf v).toNat)
  case atStart => exact ⟨0, _, Nat.zero_le _, rfl, (Rl.zero n).ext (fun v r _ => ⟨fun h => h.elim, fun h => by omega⟩), HZ2⟩
  case round =>
    clear HZ2
    obtain ⟨k, G, hk, rfl, HR, HZ⟩ := hrel
    by_cases cc : k < n
    · have hcc : (k : Int) < (n : Int) := by omega
      have hku : IntKind.u64.wrap (k : Int) = k := wu _ (by omega) (by omega)
      have HN : Hid (∀ W G (r : Nat) β, GI W g n G → Calls Try.prog 52 #[.agg #[.slice (some ⟨g, 0, none⟩) n n], .int .i64 (k : Int), .int .i64 (r : Int), .bool β] W fun e w' => (∃ x, e = .returned x) ∧ GI w' g n (nx G k r β) ∧ Ch (fun j => j = g) W w') := fun W G r β hG => fnote_any g n k r β G cc hn W hG
      have HG0 := hide HZ.out.2.2.1
      have HC0 : Hid (Ch (fun j => j = g) wr wr) := Ch.refl _ _
      have hax := HAx.out
      have hne := HNe.out
      have q0 := HAt.out wr HZ.out.2.2.2 k cc
      obtain ⟨l, hl⟩ : ∃ l : Nat, S k 0 = l := ⟨(S k 0).toNat, by have := HSR.out k cc; omega⟩
      rw [hl] at q0
      have hlu : (l : Int) < 18446744073709551616 := by have := HSR.out k cc; omega
      have HBr : Hid (br1 S k = (decide ((k : Int) < (l : Int)) || S l 0 != (l : Int))) := by
        show _ = _
        unfold br1; rw [hl]; simp
      have HRn : Hid (∀ β, β = br1 S k → Rl (fun v r => r = 1 ∧ v < k + 1 ∧ br1 S v = true) n (nx G k 1 β)) := fun β hβ => (HR.out.note k 1 β (by omega)).ext (fun v r hv => by
        subst hβ
        constructor
        · rintro (⟨x1, x2, x3⟩ | ⟨x1, rfl, rfl⟩)
          · exact ⟨x1, by omega, x3⟩
          · exact ⟨rfl, by omega, x1⟩
        · rintro ⟨x1, x2, x3⟩
          by_cases e : v = k
          · subst e; exact .inr ⟨x3, rfl, x1⟩
          · exact .inl ⟨x1, by omega, x3⟩)
      clear hl HR hk
      by_cases hlk : k < l
      · have hd : decide ((k : Int) < (l : Int)) = true := by simp; omega
        have hlt : (k : Int) < (l : Int) := by omega
        have HK : Hid (∀ W, Ch (fun j => j = g) wr W → S6a fb g n W) := fun W hW => (hW.cell (p := ⟨fb, 0, none⟩) HZ.out.2.1.lt (by show fb ≠ g; omega)).trans HZ.out.2.1.cell
        go_wp2_with (fail)
        refine wp_region_held_drew (S := (S6a fb g n)) (by kernel_rfl) ?_ (fun hHeld => ?_)
        · exact HK.out _ (Ch.drew HC0.out)
        refine wpAnyH_take (i := 0) (oi := ({ dst := some 30, op := Go.Op.load 85 (Go.Operand.tmp 7), type := 85, pos := "ref.go:333", after := #[], guard := none } : Oper)) (v := ?_) rfl (by kernel_rfl) (by kernel_rfl) (by kernel_rfl) (fun _ _ _ h => h) (Or.inl ⟨by rfl, ?_⟩) (by assumption) ?_
        rotate_left 1
        · (intro w hSw; (try dsimp only at hSw); go_simp; (try with_reducible rfl))
        try simp only [Act.put, List.setIfInBounds_toArray, List.set_cons_zero, List.set_cons_succ]
        refine wpAnyH_take (i := 1) (oi := ({ dst := some 31, op := Go.Op.move (Go.Operand.tmp 8), type := 3, pos := "ref.go:333", after := #[], guard := none } : Oper)) (v := ?_) rfl (by kernel_rfl) (by kernel_rfl) (by kernel_rfl) (fun _ _ _ h => h) (Or.inl ⟨by rfl, ?_⟩) (by assumption) ?_
        rotate_left 1
        · (intro w hSw; (try dsimp only at hSw); go_simp; (try with_reducible rfl))
        try simp only [Act.put, List.setIfInBounds_toArray, List.set_cons_zero, List.set_cons_succ]
        refine wpAnyH_take (i := 2) (oi := ({ dst := some 32, op := Go.Op.move (Go.Operand.tmp 9), type := 28, pos := "ref.go:333", after := #[], guard := none } : Oper)) (v := ?_) rfl (by kernel_rfl) (by kernel_rfl) (by kernel_rfl) (fun _ _ _ h => h) (Or.inl ⟨by rfl, ?_⟩) (by assumption) ?_
        rotate_left 1
        · (intro w hSw; (try dsimp only at hSw); go_simp; (try with_reducible rfl))
        try simp only [Act.put, List.setIfInBounds_toArray, List.set_cons_zero, List.set_cons_succ]
        refine wpAnyH_take (i := 3) (oi := ({ dst := some 33, op := Go.Op.move (Go.Operand.tmp 8), type := 3, pos := "ref.go:333", after := #[], guard := none } : Oper)) (v := ?_) rfl (by kernel_rfl) (by kernel_rfl) (by kernel_rfl) (fun _ _ _ h => h) (Or.inl ⟨by rfl, ?_⟩) (by assumption) ?_
        rotate_left 1
        · (intro w hSw; (try dsimp only at hSw); go_simp; (try with_reducible rfl))
        try simp only [Act.put, List.setIfInBounds_toArray, List.set_cons_zero, List.set_cons_succ]
        refine wpAnyH_take (i := 4) (oi := ({ dst := some 34, op := Go.Op.convert 3 28 (Go.Operand.tmp 33), type := 28, pos := "ref.go:333", after := #[{ on := 3, ground := Go.Ground.data }], guard := none } : Oper)) (v := ?_) rfl (by kernel_rfl) (by kernel_rfl) (by kernel_rfl) (fun _ _ _ h => h) (Or.inl ⟨by rfl, ?_⟩) (by assumption) ?_
        rotate_left 1
        · (intro w hSw; (try dsimp only at hSw); go_simp; (try with_reducible rfl))
        try simp only [Act.put, List.setIfInBounds_toArray, List.set_cons_zero, List.set_cons_succ]
        refine wpAnyH_take (i := 5) (oi := ({ dst := some 35, op := Go.Op.binOp Go.BinOp.gtr 28 (Go.Operand.tmp 32) (Go.Operand.tmp 34) 28, type := 4, pos := "ref.go:333", after := #[{ on := 2, ground := Go.Ground.data }, { on := 4, ground := Go.Ground.data }], guard := none } : Oper)) (v := ?_) rfl (by kernel_rfl) (by kernel_rfl) (by kernel_rfl) (fun _ _ _ h => h) (Or.inl ⟨by rfl, ?_⟩) (by assumption) ?_
        rotate_left 1
        · (intro w hSw; (try dsimp only at hSw); go_simp; (try with_reducible rfl))
        try simp only [Act.put, List.setIfInBounds_toArray, List.set_cons_zero, List.set_cons_succ]
        refine wpAnyH_take (i := 6) (oi := ({ dst := some 36, op := Go.Op.move (Go.Operand.tmp 35), type := 4, pos := "ref.go:333", after := #[{ on := 5, ground := Go.Ground.data }], guard := none } : Oper)) (v := ?_) rfl (by kernel_rfl) (by kernel_rfl) (by kernel_rfl) (fun _ _ _ h => h) (Or.inl ⟨by rfl, ?_⟩) (by assumption) ?_
        rotate_left 1
        · (intro w hSw; (try dsimp only at hSw); go_simp; (try with_reducible rfl))
        try simp only [Act.put, List.setIfInBounds_toArray, List.set_cons_zero, List.set_cons_succ]
        refine wpAnyH_take (i := 7) (oi := ({ dst := some 37, op := Go.Op.move (Go.Operand.tmp 9), type := 28, pos := "ref.go:333", after := #[{ on := 6, ground := Go.Ground.guard }], guard := some (6, false) } : Oper)) (v := undef) rfl (by kernel_rfl) (by kernel_rfl) (by kernel_rfl) (fun _ _ _ h => h) (Or.inr ⟨by rfl, rfl⟩) (by assumption) ?_
        try simp only [Act.put, List.setIfInBounds_toArray, List.set_cons_zero, List.set_cons_succ]
        refine wpAnyH_take (i := 8) (oi := ({ dst := some 38, op := Go.Op.move (Go.Operand.tmp 0), type := 22, pos := "ref.go:333", after := #[{ on := 6, ground := Go.Ground.guard }], guard := some (6, false) } : Oper)) (v := undef) rfl (by kernel_rfl) (by kernel_rfl) (by kernel_rfl) (fun _ _ _ h => h) (Or.inr ⟨by rfl, rfl⟩) (by assumption) ?_
        try simp only [Act.put, List.setIfInBounds_toArray, List.set_cons_zero, List.set_cons_succ]
        refine wpAnyH_take (i := 9) (oi := ({ dst := some 39, op := Go.Op.convert 22 28 (Go.Operand.tmp 38), type := 28, pos := "ref.go:333", after := #[{ on := 8, ground := Go.Ground.data }, { on := 6, ground := Go.Ground.guard }], guard := some (6, false) } : Oper)) (v := undef) rfl (by kernel_rfl) (by kernel_rfl) (by kernel_rfl) (fun _ _ _ h => h) (Or.inr ⟨by rfl, rfl⟩) (by assumption) ?_
        try simp only [Act.put, List.setIfInBounds_toArray, List.set_cons_zero, List.set_cons_succ]
        refine wpAnyH_take (i := 10) (oi := ({ dst := some 40, op := Go.Op.binOp Go.BinOp.geq 28 (Go.Operand.tmp 37) (Go.Operand.tmp 39) 28, type := 4, pos := "ref.go:333", after := #[{ on := 7, ground := Go.Ground.data }, { on := 9, ground := Go.Ground.data }, { on := 6, ground := Go.Ground.guard }], guard := some (6, false) } : Oper)) (v := undef) rfl (by kernel_rfl) (by kernel_rfl) (by kernel_rfl) (fun _ _ _ h => h) (Or.inr ⟨by rfl, rfl⟩) (by assumption) ?_
        try simp only [Act.put, List.setIfInBounds_toArray, List.set_cons_zero, List.set_cons_succ]
        refine wpAnyH_take (i := 11) (oi := ({ dst := some 41, op := Go.Op.pick (Go.Operand.tmp 36) (Go.Operand.const (Go.Value.bool true)) (Go.Operand.tmp 40), type := 4, pos := "ref.go:333", after := #[{ on := 6, ground := Go.Ground.data }, { on := 10, ground := Go.Ground.data }], guard := none } : Oper)) (v := ?_) rfl (by kernel_rfl) (by kernel_rfl) (by kernel_rfl) (fun _ _ _ h => h) (Or.inl ⟨by rfl, ?_⟩) (by assumption) ?_
        rotate_left 1
        · (intro w hSw; (try dsimp only at hSw); go_simp; (try with_reducible rfl))
        try simp only [Act.put, List.setIfInBounds_toArray, List.set_cons_zero, List.set_cons_succ]
        refine wpAnyH_take (i := 12) (oi := ({ dst := some 42, op := Go.Op.move (Go.Operand.tmp 41), type := 4, pos := "ref.go:333", after := #[{ on := 11, ground := Go.Ground.data }, { on := 6, ground := Go.Ground.chain }], guard := none } : Oper)) (v := ?_) rfl (by kernel_rfl) (by kernel_rfl) (by kernel_rfl) (fun _ _ _ h => h) (Or.inl ⟨by rfl, ?_⟩) (by assumption) ?_
        rotate_left 1
        · (intro w hSw; (try dsimp only at hSw); go_simp; (try with_reducible rfl))
        try simp only [Act.put, List.setIfInBounds_toArray, List.set_cons_zero, List.set_cons_succ]
        refine wpAnyH_take (i := 13) (oi := ({ dst := some 43, op := Go.Op.move (Go.Operand.tmp 2), type := 23, pos := "ref.go:333", after := #[{ on := 12, ground := Go.Ground.guard }], guard := some (12, false) } : Oper)) (v := undef) rfl (by kernel_rfl) (by kernel_rfl) (by kernel_rfl) (fun _ _ _ h => h) (Or.inr ⟨by rfl, rfl⟩) (by assumption) ?_
        try simp only [Act.put, List.setIfInBounds_toArray, List.set_cons_zero, List.set_cons_succ]
        refine wpAnyH_take (i := 14) (oi := ({ dst := some 44, op := Go.Op.move (Go.Operand.tmp 9), type := 28, pos := "ref.go:333", after := #[{ on := 12, ground := Go.Ground.guard }], guard := some (12, false) } : Oper)) (v := undef) rfl (by kernel_rfl) (by kernel_rfl) (by kernel_rfl) (fun _ _ _ h => h) (Or.inr ⟨by rfl, rfl⟩) (by assumption) ?_
        try simp only [Act.put, List.setIfInBounds_toArray, List.set_cons_zero, List.set_cons_succ]
        refine wpAnyH_take (i := 15) (oi := ({ dst := some 45, op := Go.Op.indexAddr 23 (Go.Operand.tmp 43) (Go.Operand.tmp 44), type := 0, pos := "ref.go:333", after := #[{ on := 13, ground := Go.Ground.data }, { on := 14, ground := Go.Ground.data }, { on := 12, ground := Go.Ground.guard }], guard := some (12, false) } : Oper)) (v := undef) rfl (by kernel_rfl) (by kernel_rfl) (by kernel_rfl) (fun _ _ _ h => h) (Or.inr ⟨by rfl, rfl⟩) (by assumption) ?_
        try simp only [Act.put, List.setIfInBounds_toArray, List.set_cons_zero, List.set_cons_succ]
        refine wpAnyH_take (i := 16) (oi := ({ dst := some 46, op := Go.Op.indexAddr 63 (Go.Operand.tmp 45) (Go.Operand.const (Go.Value.int Go.IntKind.i64 0)), type := 0, pos := "ref.go:333", after := #[{ on := 15, ground := Go.Ground.data }, { on := 12, ground := Go.Ground.guard }], guard := some (12, false) } : Oper)) (v := undef) rfl (by kernel_rfl) (by kernel_rfl) (by kernel_rfl) (fun _ _ _ h => h) (Or.inr ⟨by rfl, rfl⟩) (by assumption) ?_
        try simp only [Act.put, List.setIfInBounds_toArray, List.set_cons_zero, List.set_cons_succ]
        refine wpAnyH_take (i := 17) (oi := ({ dst := some 47, op := Go.Op.load 28 (Go.Operand.tmp 46), type := 28, pos := "ref.go:333", after := #[{ on := 16, ground := Go.Ground.data }, { on := 12, ground := Go.Ground.guard }], guard := some (12, false) } : Oper)) (v := undef) rfl (by kernel_rfl) (by kernel_rfl) (by kernel_rfl) (fun _ _ _ h => h) (Or.inr ⟨by rfl, rfl⟩) (by assumption) ?_
        try simp only [Act.put, List.setIfInBounds_toArray, List.set_cons_zero, List.set_cons_succ]
        refine wpAnyH_take (i := 18) (oi := ({ dst := some 48, op := Go.Op.move (Go.Operand.tmp 9), type := 28, pos := "ref.go:333", after := #[{ on := 12, ground := Go.Ground.guard }], guard := some (12, false) } : Oper)) (v := undef) rfl (by kernel_rfl) (by kernel_rfl) (by kernel_rfl) (fun _ _ _ h => h) (Or.inr ⟨by rfl, rfl⟩) (by assumption) ?_
        try simp only [Act.put, List.setIfInBounds_toArray, List.set_cons_zero, List.set_cons_succ]
        refine wpAnyH_take (i := 19) (oi := ({ dst := some 49, op := Go.Op.binOp Go.BinOp.neq 28 (Go.Operand.tmp 47) (Go.Operand.tmp 48) 28, type := 4, pos := "ref.go:333", after := #[{ on := 17, ground := Go.Ground.data }, { on := 18, ground := Go.Ground.data }, { on := 12, ground := Go.Ground.guard }], guard := some (12, false) } : Oper)) (v := undef) rfl (by kernel_rfl) (by kernel_rfl) (by kernel_rfl) (fun _ _ _ h => h) (Or.inr ⟨by rfl, rfl⟩) (by assumption) ?_
        try simp only [Act.put, List.setIfInBounds_toArray, List.set_cons_zero, List.set_cons_succ]
        refine wpAnyH_take (i := 20) (oi := ({ dst := some 50, op := Go.Op.pick (Go.Operand.tmp 42) (Go.Operand.const (Go.Value.bool true)) (Go.Operand.tmp 49), type := 4, pos := "ref.go:333", after := #[{ on := 12, ground := Go.Ground.data }, { on := 19, ground := Go.Ground.data }], guard := none } : Oper)) (v := ?_) rfl (by kernel_rfl) (by kernel_rfl) (by kernel_rfl) (fun _ _ _ h => h) (Or.inl ⟨by rfl, ?_⟩) (by assumption) ?_
        rotate_left 1
        · (intro w hSw; (try dsimp only at hSw); go_simp; (try with_reducible rfl))
        try simp only [Act.put, List.setIfInBounds_toArray, List.set_cons_zero, List.set_cons_succ]
        refine wpAnyH_ready (rs := [21]) (by kernel_rfl) (by simp) ?_
        refine AllReadyH.cons (o := ({ dst := some 51, op := Go.Op.call { callee := Go.Callee.value (Go.Operand.func 52), args := #[Go.Operand.tmp 30, Go.Operand.tmp 31, Go.Operand.const (Go.Value.int Go.IntKind.i64 1), Go.Operand.tmp 50], argTypes := #[85, 3, 3, 4] }, type := 0, pos := "ref.go:333", after := #[{ on := 0, ground := Go.Ground.data }, { on := 1, ground := Go.Ground.data }, { on := 20, ground := Go.Ground.data }, { on := 12, ground := Go.Ground.chain }], guard := none } : Oper)) rfl (fun K hK => ?_) AllReadyH.nil
        go_simp
        go_at_call 52
        refine (HN.out wr.drew _ 1 _ (HG0.out.of rfl)).mono ?_
        rintro e3 w3 ⟨⟨x3, rfl⟩, hG3, hC3⟩
        have HGw3 := hide hG3
        have HCw3 : Hid (Ch (fun j => j = g) wr w3) := HC0.out.drew.trans hC3
        clear hG3 hC3
        go_wp2_with (fail)
        refine hK.out _ _ ?_ (fun hHeld => ?_)
        · exact HK.out _ HCw3.out
        clear hK K
        try simp only [Act.put, List.setIfInBounds_toArray, List.set_cons_zero, List.set_cons_succ]
        refine wpAnyH_done (by kernel_rfl) ?_ _
        have HEnd := hide (HZ.out.ch HCw3.out HGw3.out HNe.out.1 (by have := HNe.out; omega))
        have HRn1 := hide (HRn.out _ (show true = br1 S k by rw [HBr.out, hd]; rfl))
        clear HN HG0 HC0 HK HRn HGw3 HCw3 q0
        go_wp2
        all_goals exact ⟨⟨k + 1, _, cc, by go_num, HRn1, HEnd⟩, by simp [intOf]; omega⟩
      · have hd : decide ((k : Int) < (l : Int)) = false := by simp; omega
        have hlt : ¬ (k : Int) < (l : Int) := by omega
        have hln : ¬ (n : Int) ≤ (l : Int) := by omega
        have hgd : decide (n ≤ l) = false := by simp; omega
        have hgn : ¬ n ≤ l := by omega
        have hln2 : (l : Int) < (n : Int) := by omega
        have HK : Hid (∀ W, Ch (fun j => j = g) wr W → S6 fb g n ax l (S l 0) W) := fun W hW => by
          have hbs := HZ.out.2.2.2.size
          exact ⟨(hW.cell (p := ⟨fb, 0, none⟩) HZ.out.2.1.lt (by show fb ≠ g; omega)).trans HZ.out.2.1.cell, (hW.cell (p := ax.add (l * 8)) (by rw [add_block]; omega) (by rw [add_block]; omega)).trans (HAt.out wr HZ.out.2.2.2 l (by omega))⟩
        go_wp2_with (fail)
        go_region_held3 (S6 fb g n ax l (S l 0)) ((first | with_reducible exact HK.out _ (Ch.drew HC0.out) | with_reducible exact HK.out _ HCw3.out)) ((first | (go_at_call 52; refine (HN.out wr.drew _ 1 _ (HG0.out.of rfl)).mono ?_; rintro e3 w3 ⟨⟨x3, rfl⟩, hG3, hC3⟩; have HGw3 := hide hG3; have HCw3 : Hid (Ch (fun j => j = g) wr w3) := HC0.out.drew.trans hC3; clear hG3 hC3)))
        have HEnd := hide (HZ.out.ch HCw3.out HGw3.out HNe.out.1 (by have := HNe.out; omega))
        have HRn1 := hide (HRn.out _ (show (S l 0 != (l : Int)) = br1 S k by rw [HBr.out, hd]; rfl))
        clear HN HG0 HC0 HK HRn HGw3 HCw3 q0
        go_wp2
        all_goals exact ⟨⟨k + 1, _, cc, by go_num, HRn1, HEnd⟩, by simp [intOf]; omega⟩
    · have hkn : n = k := by omega
      subst hkn
      have hB := HZ.out.2.2.2
      have HC1 := hide (HWi.out false wr hB)
      clear hk hB
      go_wp2_with (fail)
      refine HC1.out.mono ?_
      rintro e5 w5 ⟨H, rfl, hH5, hHc, hB5⟩
      have HZ5 := hide (HZ.out.on hB5)
      have HH5 := hide hH5
      have HHc := hide hHc
      have HC2 := hide (HWi.out true w5 HZ5.out.2.2.2)
      obtain ⟨tb, htb⟩ : ∃ tb, tb = wr.heap.size := ⟨_, rfl⟩
      rw [← htb] at HH5 ⊢
      clear hH5 hHc hB5 HC1 HZ htb
      go_wp2_with (fail)
      refine HC2.out.mono ?_
      rintro e6 w6 ⟨K, rfl, hH6, hKc, hB6⟩
      have HZ6 := hide (HZ5.out.on hB6)
      have HK6 := hide hH6
      have HKc := hide hKc
      have HH6 := hide (HH5.out.on hB6)
      obtain ⟨ub, hub⟩ : ∃ ub, ub = w5.heap.size := ⟨_, rfl⟩
      rw [← hub] at HK6 ⊢
      have HNt : Hid (tb ≠ g ∧ ub ≠ g) := by
        refine ⟨fun e => ?_, fun e => ?_⟩
        · subst e
          obtain ⟨Q, q, _⟩ := HH6.out
          obtain ⟨Q', q', _⟩ := HZ6.out.2.2.1
          rw [q] at q'; simp at q'
        · subst e
          obtain ⟨Q, q, _⟩ := HK6.out
          obtain ⟨Q', q', _⟩ := HZ6.out.2.2.1
          rw [q] at q'; simp at q'
      clear hH6 hKc hB6 HC2 HZ5 HH5 hub HWi
      go_wp2_with (fail)
      go_loopw [12] (fun v wr => ∃ (k : Nat) (G : Nat → Int), k ≤ n ∧ v = .int .i64 k ∧ Hid (Rl (fun v r => (r = 1 ∧ v < n ∧ br1 S v = true) ∨ (r = 2 ∧ v < k ∧ (!H v || !K v) = true)) n G) ∧ Hid (Zs wr w g fb n G) ∧ Hid (GH wr tb n H) ∧ Hid (GH wr ub n K)) (fun v _ => n - (intOf v).toNat)
      case atStart => exact ⟨0, _, Nat.zero_le _, rfl, HR.out.ext (fun v r _ => ⟨Or.inl, fun h => h.elim (fun h => h) (fun h => by omega)⟩), HZ6, HH6, HK6⟩
      case round =>
        clear HR HZ6 HH6 HK6
        obtain ⟨k, G, hk, rfl, HR, HZ, HH, HKk⟩ := hrel
        by_cases cc : k < n
        · have hcc : (k : Int) < (n : Int) := by omega
          have hku : IntKind.u64.wrap (k : Int) = k := wu _ (by omega) (by omega)
          have HN : Hid (∀ W G (r : Nat) β, GI W g n G → Calls Try.prog 52 #[.agg #[.slice (some ⟨g, 0, none⟩) n n], .int .i64 (k : Int), .int .i64 (r : Int), .bool β] W fun e w' => (∃ x, e = .returned x) ∧ GI w' g n (nx G k r β) ∧ Ch (fun j => j = g) W w') := fun W G r β hG => fnote_any g n k r β G cc hn W hG
          have HG0 := hide HZ.out.2.2.1
          have HC0 : Hid (Ch (fun j => j = g) wr wr) := Ch.refl _ _
          have hax := HAx.out
          have hne := HNe.out
          have hnt := HNt.out
          have HK : Hid (∀ W, Ch (fun j => j = g) wr W → S12d fb g n tb ub k (H k) (K k) W) := fun W hW => ⟨(hW.cell (p := ⟨fb, 0, none⟩) HZ.out.2.1.lt (by show fb ≠ g; omega)).trans HZ.out.2.1.cell, (hW.cell (p := ⟨tb, k, none⟩) HH.out.lt hnt.1).trans (HH.out.cell k cc), (hW.cell (p := ⟨ub, k, none⟩) HKk.out.lt hnt.2).trans (HKk.out.cell k cc)⟩
          have HRn : Hid (∀ β, β = (!H k || !K k) → Rl (fun v r => (r = 1 ∧ v < n ∧ br1 S v = true) ∨ (r = 2 ∧ v < k + 1 ∧ (!H v || !K v) = true)) n (nx G k 2 β)) := fun β hβ => (HR.out.note k 2 β (by omega)).ext (fun v r hv => by
            subst hβ
            constructor
            · rintro ((x1 | ⟨x1, x2, x3⟩) | ⟨x1, rfl, rfl⟩)
              · exact .inl x1
              · exact .inr ⟨x1, by omega, x3⟩
              · exact .inr ⟨rfl, by omega, x1⟩
            · rintro (x1 | ⟨x1, x2, x3⟩)
              · exact .inl (.inl x1)
              · by_cases e : v = k
                · subst e; exact .inr ⟨x3, rfl, x1⟩
                · exact .inl (.inr ⟨x1, by omega, x3⟩))
          have HFin : Hid (∀ W G', Ch (fun j => j = g) wr W → GI W g n G' → Zs W w g fb n G' ∧ GH W tb n H ∧ GH W ub n K) := fun W G' hW hG => ⟨HZ.out.ch hW hG HNe.out.1 (by have := HNe.out; omega), HH.out.of (hW.block _ HH.out.lt hnt.1), HKk.out.of (hW.block _ HKk.out.lt hnt.2)⟩
          clear HR hk
          cases hh : H k with
          | false =>
            rw [hh] at HK
            go_wp2_with (fail)
            refine wp_region_held_drew (S := (S12d fb g n tb ub k false (K k))) (by kernel_rfl) ?_ (fun hHeld => ?_)
            · exact HK.out _ (Ch.drew HC0.out)
            refine wpAnyH_take (i := 0) (oi := ({ dst := some 66, op := Go.Op.load 85 (Go.Operand.tmp 7), type := 85, pos := "ref.go:338", after := #[], guard := none } : Oper)) (v := ?_) rfl (by kernel_rfl) (by kernel_rfl) (by kernel_rfl) (fun _ _ _ h => h) (Or.inl ⟨by rfl, ?_⟩) (by assumption) ?_
            rotate_left 1
            · (intro w hSw; (try dsimp only at hSw); go_simp; (try with_reducible rfl))
            try simp only [Act.put, List.setIfInBounds_toArray, List.set_cons_zero, List.set_cons_succ]
            refine wpAnyH_take (i := 1) (oi := ({ dst := some 67, op := Go.Op.move (Go.Operand.tmp 12), type := 3, pos := "ref.go:338", after := #[], guard := none } : Oper)) (v := ?_) rfl (by kernel_rfl) (by kernel_rfl) (by kernel_rfl) (fun _ _ _ h => h) (Or.inl ⟨by rfl, ?_⟩) (by assumption) ?_
            rotate_left 1
            · (intro w hSw; (try dsimp only at hSw); go_simp; (try with_reducible rfl))
            try simp only [Act.put, List.setIfInBounds_toArray, List.set_cons_zero, List.set_cons_succ]
            refine wpAnyH_take (i := 2) (oi := ({ dst := some 68, op := Go.Op.move (Go.Operand.tmp 10), type := 92, pos := "ref.go:338", after := #[], guard := none } : Oper)) (v := ?_) rfl (by kernel_rfl) (by kernel_rfl) (by kernel_rfl) (fun _ _ _ h => h) (Or.inl ⟨by rfl, ?_⟩) (by assumption) ?_
            rotate_left 1
            · (intro w hSw; (try dsimp only at hSw); go_simp; (try with_reducible rfl))
            try simp only [Act.put, List.setIfInBounds_toArray, List.set_cons_zero, List.set_cons_succ]
            refine wpAnyH_take (i := 3) (oi := ({ dst := some 69, op := Go.Op.move (Go.Operand.tmp 12), type := 3, pos := "ref.go:338", after := #[], guard := none } : Oper)) (v := ?_) rfl (by kernel_rfl) (by kernel_rfl) (by kernel_rfl) (fun _ _ _ h => h) (Or.inl ⟨by rfl, ?_⟩) (by assumption) ?_
            rotate_left 1
            · (intro w hSw; (try dsimp only at hSw); go_simp; (try with_reducible rfl))
            try simp only [Act.put, List.setIfInBounds_toArray, List.set_cons_zero, List.set_cons_succ]
            refine wpAnyH_take (i := 4) (oi := ({ dst := some 70, op := Go.Op.indexAddr 92 (Go.Operand.tmp 68) (Go.Operand.tmp 69), type := 0, pos := "ref.go:338", after := #[{ on := 2, ground := Go.Ground.data }, { on := 3, ground := Go.Ground.data }], guard := none } : Oper)) (v := ?_) rfl (by kernel_rfl) (by kernel_rfl) (by kernel_rfl) (fun _ _ _ h => h) (Or.inl ⟨by rfl, ?_⟩) (by assumption) ?_
            rotate_left 1
            · (intro w hSw; (try dsimp only at hSw); go_simp; (try with_reducible rfl))
            try simp only [Act.put, List.setIfInBounds_toArray, List.set_cons_zero, List.set_cons_succ]
            refine wpAnyH_take (i := 5) (oi := ({ dst := some 71, op := Go.Op.load 4 (Go.Operand.tmp 70), type := 4, pos := "ref.go:338", after := #[{ on := 4, ground := Go.Ground.data }], guard := none } : Oper)) (v := ?_) rfl (by kernel_rfl) (by kernel_rfl) (by kernel_rfl) (fun _ _ _ h => h) (Or.inl ⟨by rfl, ?_⟩) (by assumption) ?_
            rotate_left 1
            · (intro w hSw; (try dsimp only at hSw); go_simp; (try with_reducible rfl))
            try simp only [Act.put, List.setIfInBounds_toArray, List.set_cons_zero, List.set_cons_succ]
            refine wpAnyH_take (i := 6) (oi := ({ dst := some 72, op := Go.Op.unOp Go.UnOp.not 4 (Go.Operand.tmp 71), type := 4, pos := "ref.go:338", after := #[{ on := 5, ground := Go.Ground.data }], guard := none } : Oper)) (v := ?_) rfl (by kernel_rfl) (by kernel_rfl) (by kernel_rfl) (fun _ _ _ h => h) (Or.inl ⟨by rfl, ?_⟩) (by assumption) ?_
            rotate_left 1
            · (intro w hSw; (try dsimp only at hSw); go_simp; (try with_reducible rfl))
            try simp only [Act.put, List.setIfInBounds_toArray, List.set_cons_zero, List.set_cons_succ]
            refine wpAnyH_take (i := 7) (oi := ({ dst := some 73, op := Go.Op.move (Go.Operand.tmp 72), type := 4, pos := "ref.go:338", after := #[{ on := 6, ground := Go.Ground.data }], guard := none } : Oper)) (v := ?_) rfl (by kernel_rfl) (by kernel_rfl) (by kernel_rfl) (fun _ _ _ h => h) (Or.inl ⟨by rfl, ?_⟩) (by assumption) ?_
            rotate_left 1
            · (intro w hSw; (try dsimp only at hSw); go_simp; (try with_reducible rfl))
            try simp only [Act.put, List.setIfInBounds_toArray, List.set_cons_zero, List.set_cons_succ]
            refine wpAnyH_take (i := 8) (oi := ({ dst := some 74, op := Go.Op.move (Go.Operand.tmp 11), type := 92, pos := "ref.go:338", after := #[{ on := 7, ground := Go.Ground.guard }], guard := some (7, false) } : Oper)) (v := undef) rfl (by kernel_rfl) (by kernel_rfl) (by kernel_rfl) (fun _ _ _ h => h) (Or.inr ⟨by rfl, rfl⟩) (by assumption) ?_
            try simp only [Act.put, List.setIfInBounds_toArray, List.set_cons_zero, List.set_cons_succ]
            refine wpAnyH_take (i := 9) (oi := ({ dst := some 75, op := Go.Op.move (Go.Operand.tmp 12), type := 3, pos := "ref.go:338", after := #[{ on := 7, ground := Go.Ground.guard }], guard := some (7, false) } : Oper)) (v := undef) rfl (by kernel_rfl) (by kernel_rfl) (by kernel_rfl) (fun _ _ _ h => h) (Or.inr ⟨by rfl, rfl⟩) (by assumption) ?_
            try simp only [Act.put, List.setIfInBounds_toArray, List.set_cons_zero, List.set_cons_succ]
            refine wpAnyH_take (i := 10) (oi := ({ dst := some 76, op := Go.Op.indexAddr 92 (Go.Operand.tmp 74) (Go.Operand.tmp 75), type := 0, pos := "ref.go:338", after := #[{ on := 8, ground := Go.Ground.data }, { on := 9, ground := Go.Ground.data }, { on := 7, ground := Go.Ground.guard }], guard := some (7, false) } : Oper)) (v := undef) rfl (by kernel_rfl) (by kernel_rfl) (by kernel_rfl) (fun _ _ _ h => h) (Or.inr ⟨by rfl, rfl⟩) (by assumption) ?_
            try simp only [Act.put, List.setIfInBounds_toArray, List.set_cons_zero, List.set_cons_succ]
            refine wpAnyH_take (i := 11) (oi := ({ dst := some 77, op := Go.Op.load 4 (Go.Operand.tmp 76), type := 4, pos := "ref.go:338", after := #[{ on := 10, ground := Go.Ground.data }, { on := 7, ground := Go.Ground.guard }], guard := some (7, false) } : Oper)) (v := undef) rfl (by kernel_rfl) (by kernel_rfl) (by kernel_rfl) (fun _ _ _ h => h) (Or.inr ⟨by rfl, rfl⟩) (by assumption) ?_
            try simp only [Act.put, List.setIfInBounds_toArray, List.set_cons_zero, List.set_cons_succ]
            refine wpAnyH_take (i := 12) (oi := ({ dst := some 78, op := Go.Op.unOp Go.UnOp.not 4 (Go.Operand.tmp 77), type := 4, pos := "ref.go:338", after := #[{ on := 11, ground := Go.Ground.data }, { on := 7, ground := Go.Ground.guard }], guard := some (7, false) } : Oper)) (v := undef) rfl (by kernel_rfl) (by kernel_rfl) (by kernel_rfl) (fun _ _ _ h => h) (Or.inr ⟨by rfl, rfl⟩) (by assumption) ?_
            try simp only [Act.put, List.setIfInBounds_toArray, List.set_cons_zero, List.set_cons_succ]
            refine wpAnyH_take (i := 13) (oi := ({ dst := some 79, op := Go.Op.pick (Go.Operand.tmp 73) (Go.Operand.const (Go.Value.bool true)) (Go.Operand.tmp 78), type := 4, pos := "ref.go:338", after := #[{ on := 7, ground := Go.Ground.data }, { on := 12, ground := Go.Ground.data }], guard := none } : Oper)) (v := ?_) rfl (by kernel_rfl) (by kernel_rfl) (by kernel_rfl) (fun _ _ _ h => h) (Or.inl ⟨by rfl, ?_⟩) (by assumption) ?_
            rotate_left 1
            · (intro w hSw; (try dsimp only at hSw); go_simp; (try with_reducible rfl))
            try simp only [Act.put, List.setIfInBounds_toArray, List.set_cons_zero, List.set_cons_succ]
            refine wpAnyH_ready (rs := [14]) (by kernel_rfl) (by simp) ?_
            refine AllReadyH.cons (o := ({ dst := some 80, op := Go.Op.call { callee := Go.Callee.value (Go.Operand.func 52), args := #[Go.Operand.tmp 66, Go.Operand.tmp 67, Go.Operand.const (Go.Value.int Go.IntKind.i64 2), Go.Operand.tmp 79], argTypes := #[85, 3, 3, 4] }, type := 0, pos := "ref.go:338", after := #[{ on := 0, ground := Go.Ground.data }, { on := 1, ground := Go.Ground.data }, { on := 13, ground := Go.Ground.data }, { on := 7, ground := Go.Ground.chain }], guard := none } : Oper)) rfl (fun K hK => ?_) AllReadyH.nil
            go_simp
            go_at_call 52
            refine (HN.out wr.drew _ 2 _ (HG0.out.of rfl)).mono ?_
            rintro e3 w3 ⟨⟨x3, rfl⟩, hG3, hC3⟩
            have HGw3 := hide hG3
            have HCw3 : Hid (Ch (fun j => j = g) wr w3) := HC0.out.drew.trans hC3
            clear hG3 hC3
            go_wp2_with (fail)
            refine hK.out _ _ ?_ (fun hHeld => ?_)
            · exact HK.out _ HCw3.out
            clear hK K
            try simp only [Act.put, List.setIfInBounds_toArray, List.set_cons_zero, List.set_cons_succ]
            refine wpAnyH_done (by kernel_rfl) ?_ _
            have HEnd := hide (HFin.out _ _ HCw3.out HGw3.out)
            have HRn1 := hide (HRn.out _ (show true = (!H k || !K k) by rw [hh]; rfl))
            clear HN HG0 HC0 HK HRn HGw3 HCw3 HFin
            go_wp2
            all_goals exact ⟨⟨k + 1, _, cc, by go_num, HRn1, HEnd.out.1, HEnd.out.2.1, HEnd.out.2.2⟩, by simp [intOf]; omega⟩
          | true =>
            rw [hh] at HK
            go_wp2_with (fail)
            go_region_held3 (S12d fb g n tb ub k true (K k)) ((first | with_reducible exact HK.out _ (Ch.drew HC0.out) | with_reducible exact HK.out _ HCw3.out)) ((first | (go_at_call 52; refine (HN.out wr.drew _ 2 _ (HG0.out.of rfl)).mono ?_; rintro e3 w3 ⟨⟨x3, rfl⟩, hG3, hC3⟩; have HGw3 := hide hG3; have HCw3 : Hid (Ch (fun j => j = g) wr w3) := HC0.out.drew.trans hC3; clear hG3 hC3)))
            have HEnd := hide (HFin.out _ _ HCw3.out HGw3.out)
            have HRn1 := hide (HRn.out _ (show (!K k) = (!H k || !K k) by rw [hh]; rfl))
            clear HN HG0 HC0 HK HRn HGw3 HCw3 HFin
            go_wp2
            all_goals exact ⟨⟨k + 1, _, cc, by go_num, HRn1, HEnd.out.1, HEnd.out.2.1, HEnd.out.2.2⟩, by simp [intOf]; omega⟩
        · have hkn : n = k := by omega
          subst hkn
          have HR2 : Hid (Rl (P12 S n H K) n G) := HR.out
          have HV := hide (verdict_any g n G _ hn HR2.out (fun v r h => h.elim (fun h => h.2.1) (fun h => h.2.1)) wr HZ.out.2.2.1)
          have cX := HZ.out.2.1.cell
          clear HR hk
          go_wp2_with (fail)
          refine HV.out.mono ?_
          rintro e4 w4 ⟨o, rfl, hL, hB4⟩
          obtain ⟨w5, hw5⟩ : ∃ w5, w4.alloc (.cells #[.bool (vR o), .int .u32 (vV o), .int .i64 (vK o)] 35) = w5 := ⟨_, rfl⟩
          have hB5 : Below w4.heap.size w4 w5 := by rw [← hw5]; exact b1 _ _ _
          have hv5 : w5.heap[w4.heap.size]? = some (.cells #[.bool (vR o), .int .u32 (vV o), .int .i64 (vK o)] 35 (0, 0)) := by rw [← hw5]; exact at0 _ _
          have HZ5 := hide ((HZ.out.on hB4).on hB5)
          have HL := hide hL
          obtain ⟨z0, z1, z2, f0, f1, f2⟩ := z35 HZ5.out.1
          obtain ⟨m0, m1, m2⟩ := c35 hv5
          rw [← hw5] at z0 z1 z2 f0 f1 f2 m0 m1 m2
          have HW5 := hide hw5
          cases o with
          | some p =>
            have HF : Hid (∀ a b c, (((w5.setCell ⟨w.heap.size, 0, none⟩ a).setCell ⟨w.heap.size, 1, none⟩ b).setCell ⟨w.heap.size, 2, none⟩ c).heap[w.heap.size]? = some (.cells #[a, b, c] 35 (0, 0)) ∧ Below w.heap.size w (((w5.setCell ⟨w.heap.size, 0, none⟩ a).setCell ⟨w.heap.size, 1, none⟩ b).setCell ⟨w.heap.size, 2, none⟩ c)) := fun a b c => by
              rw [sets3 HZ5.out.1 rfl]
              exact ⟨setRow_heap _ _ _ _ _ _ HZ5.out.1, below_setRow HZ5.out.2.2.2 (Nat.le_refl _) _⟩
            have HA : Hid (AS S n L (some p)) := ⟨H, K, HHc.out, HKc.out, .inl ⟨by simp, HL.out⟩⟩
            rw [← hw5] at HF
            clear hB4 hB5 hv5 hw5 hL HV HR2 HZ cX HKn
            simp only [vR, vV, vK] at *
            go_wp2
            all_goals (refine bodyPost_ret (v := .agg #[.bool false, .int .u32 (p.1 : Int), .int .i64 (p.2 : Int)]) ?_ rfl ?_)
            all_goals first | exact res32 _ _ _ _ _ _ rfl (HF.out _ _ _).1 | exact ⟨some p, rfl, HA.out, (HF.out _ _ _).2⟩
          | none =>
            have HGl := hide (gl_of (fun v hv => (HSR.out v hv).1) HL.out)
            have HKa := hide (HKn.out HGl.out w5 HZ5.out.2.2.2)
            clear hB4 hB5 hv5 hw5 hL HV HZ cX HKn z0 z1 z2 f0 f1 f2
            simp only [vR, vV, vK] at *
            go_wp2_with (fail)
            rw [HW5.out]
            refine HKa.out.mono ?_
            rintro e6 w6 ⟨v6, X, t, rfl, hX6, hSt, hKX, hXn, hB6⟩
            have HZ6 := hide (HZ5.out.on hB6)
            have HX6 := hide hX6
            have HSt := hide hSt
            have HKX := hide hKX
            have HXg : Hid (∀ gg, v6.ownBlock = some gg → gg ≠ g) := fun gg hh => by
              have h1 := (hX6.lt hh).1
              have h2 := HZ5.out.2.2.1.lt
              omega
            clear hX6 hSt hKX hB6 HZ5 HKa m0 m1 m2 HW5
            go_wp2_with (fail)
            go_loopw [15] (fun v wr => ∃ (k : Nat) (G : Nat → Int), k ≤ n ∧ v = .int .i64 k ∧ Hid (Rl (fun v r => P12 S n H K v r ∨ (r = 3 ∧ v < k ∧ S v 0 ∈ X)) n G) ∧ Hid (Zs wr w g fb n G) ∧ Hid (Lw wr w5.heap.size v6 X)) (fun v _ => n - (intOf v).toNat)
            case atStart => exact ⟨0, _, Nat.zero_le _, rfl, HR2.out.ext (fun v r _ => ⟨Or.inl, fun h => h.elim (fun h => h) (fun h => by omega)⟩), HZ6, HX6⟩
            case round =>
              clear HR2 HZ6 HX6
              obtain ⟨k, G, hk, rfl, HR, HZ, HX⟩ := hrel
              by_cases cc : k < n
              · have hcc : (k : Int) < (n : Int) := by omega
                have HR0 : Hid (Rl (fun v r => (P12 S n H K v r ∨ (r = 3 ∧ v < k ∧ S v 0 ∈ X)) ∨ (r = 3 ∧ v = k ∧ S k 0 ∈ X.take 0)) n G) := HR.out.ext (fun v r _ => ⟨Or.inl, fun h => h.elim (fun h => h) (fun h => by simp at h)⟩)
                clear HR
                go_wp2_with (fail)
                go_loopw [16] (fun v wr => ∃ (i : Nat) (G : Nat → Int), i ≤ X.length ∧ v = .int .i64 i ∧ Hid (Rl (fun v r => (P12 S n H K v r ∨ (r = 3 ∧ v < k ∧ S v 0 ∈ X)) ∨ (r = 3 ∧ v = k ∧ S k 0 ∈ X.take i)) n G) ∧ Hid (Zs wr w g fb n G) ∧ Hid (Lw wr w5.heap.size v6 X)) (fun v _ => X.length - (intOf v).toNat)
                case atStart => exact ⟨0, _, Nat.zero_le _, rfl, HR0, HZ, HX⟩
                case round =>
                  clear HR0 HZ HX
                  obtain ⟨i, G, hi, rfl, HR, HZ, HX⟩ := hrel
                  obtain ⟨a6, k6, hv6e⟩ := HX.out.len
                  by_cases ci : i < X.length
                  · have hci : (i : Int) < (X.length : Int) := by omega
                    obtain ⟨x, hx⟩ : ∃ x, X[i]? = some x := ⟨X[i], List.getElem?_eq_getElem ci⟩
                    obtain ⟨g6, k6', hv6', hc6⟩ := HX.out.cell i x hx
                    have hg6 : g6 ≠ g := HXg.out g6 (by rw [hv6']; rfl)
                    have hg6l : g6 < wr.heap.size := (HX.out.lt (by rw [hv6']; rfl)).2
                    have hax := HAx.out
                    have hne := HNe.out
                    have HN : Hid (∀ W G (r : Nat) β, GI W g n G → Calls Try.prog 52 #[.agg #[.slice (some ⟨g, 0, none⟩) n n], .int .i64 (k : Int), .int .i64 (r : Int), .bool β] W fun e w' => (∃ x, e = .returned x) ∧ GI w' g n (nx G k r β) ∧ Ch (fun j => j = g) W w') := fun W G r β hG => fnote_any g n k r β G cc hn W hG
                    have HG0 := hide HZ.out.2.2.1
                    have HC0 : Hid (Ch (fun j => j = g) wr wr) := Ch.refl _ _
                    have HK : Hid (∀ W, Ch (fun j => j = g) wr W → S23e fb g n g6 i (ax.add (k * 8)) x (S k 0) W) := fun W hW => by
                      have hbs := HZ.out.2.2.2.size
                      exact ⟨(hW.cell (p := ⟨fb, 0, none⟩) HZ.out.2.1.lt (by show fb ≠ g; omega)).trans HZ.out.2.1.cell, (hW.cell (p := ⟨g6, i, none⟩) hg6l hg6).trans hc6, (hW.cell (p := ax.add (k * 8)) (by rw [add_block]; omega) (by rw [add_block]; omega)).trans (HAt.out wr HZ.out.2.2.2 k cc)⟩
                    have htk : X.take (i + 1) = X.take i ++ [x] := by rw [List.take_add_one, hx]; rfl
                    have HRn : Hid (Rl (fun v r => (P12 S n H K v r ∨ (r = 3 ∧ v < k ∧ S v 0 ∈ X)) ∨ (r = 3 ∧ v = k ∧ S k 0 ∈ X.take (i + 1))) n (nx G k 3 (x == S k 0))) := (HR.out.note k 3 (x == S k 0) (by omega)).ext (fun v r hv => by
                      rw [htk]
                      simp only [List.mem_append, List.mem_singleton]
                      constructor
                      · rintro ((x1 | ⟨x1, x2, x3⟩) | ⟨x1, x2, x3⟩)
                        · exact .inl x1
                        · exact .inr ⟨x1, x2, .inl x3⟩
                        · exact .inr ⟨x3, x2, .inr (by simp at x1; exact x1.symm)⟩
                      · rintro (x1 | ⟨x1, x2, x3 | x3⟩)
                        · exact .inl (.inl x1)
                        · exact .inl (.inr ⟨x1, x2, x3⟩)
                        · exact .inr ⟨by simp; exact x3.symm, x2, x1⟩)
                    have HFin : Hid (∀ W G', Ch (fun j => j = g) wr W → GI W g n G' → Zs W w g fb n G' ∧ Lw W w5.heap.size v6 X) := fun W G' hW hG => ⟨HZ.out.ch hW hG HNe.out.1 (by have := HNe.out; omega), HX.out.of (fun gg hh => hW.block _ (HX.out.lt hh).2 (HXg.out gg hh))⟩
                    clear hv6e hx htk HR hi hc6
                    subst hv6'
                    go_wp2_with (fail)
                    go_region_held3 (S23e fb g n g6 i (ax.add (k * 8)) x (S k 0)) ((first | with_reducible exact HK.out _ (Ch.drew HC0.out) | with_reducible exact HK.out _ HCw3.out)) ((first | (go_at_call 52; refine (HN.out wr.drew _ 3 _ (HG0.out.of rfl)).mono ?_; rintro e3 w3 ⟨⟨x3, rfl⟩, hG3, hC3⟩; have HGw3 := hide hG3; have HCw3 : Hid (Ch (fun j => j = g) wr w3) := HC0.out.drew.trans hC3; clear hG3 hC3)))
                    have HEnd := hide (HFin.out _ _ HCw3.out HGw3.out)
                    clear HN HG0 HC0 HK HGw3 HCw3 HFin
                    go_wp2
                    all_goals exact ⟨⟨i + 1, _, ci, by go_num, HRn, HEnd.out.1, HEnd.out.2⟩, by simp [intOf]; omega⟩
                  · have hci : ¬ (i : Int) < (X.length : Int) := by omega
                    have hie : X.length = i := by omega
                    have HR1 : Hid (Rl (fun v r => P12 S n H K v r ∨ (r = 3 ∧ v < k + 1 ∧ S v 0 ∈ X)) n G) := HR.out.ext (fun v r hv => by
                      rw [← hie, List.take_length]
                      constructor
                      · rintro ((x1 | ⟨x1, x2, x3⟩) | ⟨x1, x2, x3⟩)
                        · exact .inl x1
                        · exact .inr ⟨x1, by omega, x3⟩
                        · subst x2; exact .inr ⟨x1, by omega, x3⟩
                      · rintro (x1 | ⟨x1, x2, x3⟩)
                        · exact .inl (.inl x1)
                        · by_cases e : v = k
                          · subst e; exact .inr ⟨x1, rfl, x3⟩
                          · exact .inl (.inr ⟨x1, by omega, x3⟩))
                    clear HR hie
                    subst hv6e
                    go_wp2
                    all_goals exact ⟨⟨k + 1, _, cc, by go_num, HR1, HZ, HX⟩, by simp [intOf]; omega⟩
              · have hcc : ¬ (k : Int) < (n : Int) := by omega
                have hkn : n = k := by omega
                subst hkn
                have HV2 := hide (verdict_any g n G (fun v r => P12 S n H K v r ∨ (r = 3 ∧ v < n ∧ kn S L t (S v 0).toNat = true)) hn (HR.out.ext (fun v r hv => by
                  constructor
                  · rintro (x1 | ⟨x1, x2, x3⟩)
                    · exact .inl x1
                    · exact .inr ⟨x1, x2, (kx_mem HGl.out HKX.out v hv).1 x3⟩
                  · rintro (x1 | ⟨x1, x2, x3⟩)
                    · exact .inl x1
                    · exact .inr ⟨x1, x2, (kx_mem HGl.out HKX.out v hv).2 x3⟩)) (fun v r h => h.elim (fun h => h.elim (fun h => h.2.1) (fun h => h.2.1)) (fun h => h.2.1)) wr HZ.out.2.2.1)
                have cX := HZ.out.2.1.cell
                go_wp2_with (fail)
                refine HV2.out.mono ?_
                rintro e7 w7 ⟨o7, rfl, hL7, hB7⟩
                have hZ7 := HZ.out.on hB7
                obtain ⟨z0, z1, z2, f0, f1, f2⟩ := z35 hZ7.1
                have HF : Hid (∀ a b c, (((w7.setCell ⟨w.heap.size, 0, none⟩ a).setCell ⟨w.heap.size, 1, none⟩ b).setCell ⟨w.heap.size, 2, none⟩ c).heap[w.heap.size]? = some (.cells #[a, b, c] 35 (0, 0)) ∧ Below w.heap.size w (((w7.setCell ⟨w.heap.size, 0, none⟩ a).setCell ⟨w.heap.size, 1, none⟩ b).setCell ⟨w.heap.size, 2, none⟩ c)) := fun a b c => by
                  rw [sets3 hZ7.1 rfl]
                  exact ⟨setRow_heap _ _ _ _ _ _ hZ7.1, below_setRow hZ7.2.2.2 (Nat.le_refl _) _⟩
                have HA : Hid (AS S n L o7) := ⟨H, K, HHc.out, HKc.out, .inr ⟨HL.out, t, HSt.out, hL7⟩⟩
                clear hZ7 hL7 hB7 HV2 HZ HR HX cX
                go_wp2
                all_goals (refine bodyPost_ret (v := .agg #[.bool (vR o7), .int .u32 (vV o7), .int .i64 (vK o7)]) ?_ rfl ?_)
                all_goals first | exact res32 _ _ _ _ _ _ rfl (HF.out _ _ _).1 | exact ⟨o7, rfl, HA.out, (HF.out _ _ _).2⟩
end Au
end Go.Proofs.Ytcepfmeoeepjdaa
