import Derived.Test.YtcepfmeoeepjdaaDsF
import Derived.Test.YtcepfmeoeepjdaaDsS
namespace Go.Proofs.Ytcepfmeoeepjdaa
namespace Au
open Go.RowKit
set_option linter.unusedVariables false
set_option maxRecDepth 8000
/-- Rule 1 of ways. -/
def r1d (S : Nat → Nat → Int) (s v : Nat) : Bool := S v 1 != S s 1 || decide (1 < S s 1)
abbrev S75 (sb nb sg sn sc v : Nat) (u g : Int) (w : World) : Prop := w.cell? ⟨sb, 0, none⟩ = some (.slice (some ⟨sg, 0, none⟩) sn sc) ∧ w.cell? ⟨nb, 0, none⟩ = some (.int .u64 g) ∧ w.cell? ⟨sg, v * 8 + 1, none⟩ = some (.int .u64 u)
set_option maxHeartbeats 4000000 in
theorem rule75 (sb nb sg sn sc v : Nat) (g : Int) (S : Nat → Nat → Int) (hv : v < sn) (w : World) (hsb : Boxed w sb 23 (.slice (some ⟨sg, 0, none⟩) sn sc)) (hnb : Boxed w nb 28 (.int .u64 g)) (hS : SR w sg sn S) :
    Calls Try.prog 75 #[.int .u32 (v : Int), .pointer (some ⟨sb, 0, none⟩), .pointer (some ⟨nb, 0, none⟩)] w fun e w' => e = .returned (.bool (S v 1 != g || decide (1 < g))) ∧ w' = w.drew := by
  have c1 := hS.c v hv 1 (by decide)
  obtain ⟨u, hu⟩ : ∃ u, S v 1 = u := ⟨_, rfl⟩
  rw [hu] at c1 ⊢
  have HS : Hid (S75 sb nb sg sn sc v u g w.drew) := ⟨hsb.cell, hnb.cell, c1⟩
  clear hu c1 hsb hnb hS
  cases h0 : (u != g) with
  | false =>
    rw [Bool.false_or]
    go_enter Try.func75, Try.ntmps75
    go_wp2_with (fail)
    go_region_held3 (S75 sb nb sg sn sc v u g) ((with_reducible exact HS.out)) ((fail))
    clear HS
    go_wp2
    all_goals go_ret
    all_goals exact ⟨rfl, rfl⟩
  | true =>
    rw [Bool.true_or]
    go_enter Try.func75, Try.ntmps75
    go_wp2_with (fail)
    refine wp_region_held_drew (S := (S75 sb nb sg sn sc v u g)) (by kernel_rfl) ?_ (fun hHeld => ?_)
    · exact HS.out
    refine wpAnyH_take (i := 0) (oi := ({ dst := some 5, op := Go.Op.load 23 (Go.Operand.tmp 1), type := 23, pos := "distances.go:27", after := #[], guard := none } : Oper)) (v := ?_) rfl (by kernel_rfl) (by kernel_rfl) (by kernel_rfl) (fun _ _ _ h => h) (Or.inl ⟨by rfl, ?_⟩) (by assumption) ?_
    rotate_left 1
    · (intro w hSw; (try dsimp only at hSw); go_simp; (try with_reducible rfl))
    try simp only [Act.put, List.setIfInBounds_toArray, List.set_cons_zero, List.set_cons_succ]
    refine wpAnyH_take (i := 1) (oi := ({ dst := some 6, op := Go.Op.move (Go.Operand.tmp 0), type := 22, pos := "distances.go:27", after := #[], guard := none } : Oper)) (v := ?_) rfl (by kernel_rfl) (by kernel_rfl) (by kernel_rfl) (fun _ _ _ h => h) (Or.inl ⟨by rfl, ?_⟩) (by assumption) ?_
    rotate_left 1
    · (intro w hSw; (try dsimp only at hSw); go_simp; (try with_reducible rfl))
    try simp only [Act.put, List.setIfInBounds_toArray, List.set_cons_zero, List.set_cons_succ]
    refine wpAnyH_take (i := 2) (oi := ({ dst := some 7, op := Go.Op.indexAddr 23 (Go.Operand.tmp 5) (Go.Operand.tmp 6), type := 0, pos := "distances.go:27", after := #[{ on := 0, ground := Go.Ground.data }, { on := 1, ground := Go.Ground.data }], guard := none } : Oper)) (v := ?_) rfl (by kernel_rfl) (by kernel_rfl) (by kernel_rfl) (fun _ _ _ h => h) (Or.inl ⟨by rfl, ?_⟩) (by assumption) ?_
    rotate_left 1
    · (intro w hSw; (try dsimp only at hSw); go_simp; (try with_reducible rfl))
    try simp only [Act.put, List.setIfInBounds_toArray, List.set_cons_zero, List.set_cons_succ]
    refine wpAnyH_take (i := 3) (oi := ({ dst := some 8, op := Go.Op.indexAddr 63 (Go.Operand.tmp 7) (Go.Operand.const (Go.Value.int Go.IntKind.i64 1)), type := 0, pos := "distances.go:27", after := #[{ on := 2, ground := Go.Ground.data }], guard := none } : Oper)) (v := ?_) rfl (by kernel_rfl) (by kernel_rfl) (by kernel_rfl) (fun _ _ _ h => h) (Or.inl ⟨by rfl, ?_⟩) (by assumption) ?_
    rotate_left 1
    · (intro w hSw; (try dsimp only at hSw); go_simp; (try with_reducible rfl))
    try simp only [Act.put, List.setIfInBounds_toArray, List.set_cons_zero, List.set_cons_succ]
    refine wpAnyH_take (i := 4) (oi := ({ dst := some 9, op := Go.Op.load 28 (Go.Operand.tmp 8), type := 28, pos := "distances.go:27", after := #[{ on := 3, ground := Go.Ground.data }], guard := none } : Oper)) (v := ?_) rfl (by kernel_rfl) (by kernel_rfl) (by kernel_rfl) (fun _ _ _ h => h) (Or.inl ⟨by rfl, ?_⟩) (by assumption) ?_
    rotate_left 1
    · (intro w hSw; (try dsimp only at hSw); go_simp; (try with_reducible rfl))
    try simp only [Act.put, List.setIfInBounds_toArray, List.set_cons_zero, List.set_cons_succ]
    refine wpAnyH_take (i := 5) (oi := ({ dst := some 10, op := Go.Op.load 28 (Go.Operand.tmp 2), type := 28, pos := "distances.go:27", after := #[], guard := none } : Oper)) (v := ?_) rfl (by kernel_rfl) (by kernel_rfl) (by kernel_rfl) (fun _ _ _ h => h) (Or.inl ⟨by rfl, ?_⟩) (by assumption) ?_
    rotate_left 1
    · (intro w hSw; (try dsimp only at hSw); go_simp; (try with_reducible rfl))
    try simp only [Act.put, List.setIfInBounds_toArray, List.set_cons_zero, List.set_cons_succ]
    refine wpAnyH_take (i := 6) (oi := ({ dst := some 11, op := Go.Op.binOp Go.BinOp.neq 28 (Go.Operand.tmp 9) (Go.Operand.tmp 10) 28, type := 4, pos := "distances.go:27", after := #[{ on := 4, ground := Go.Ground.data }, { on := 5, ground := Go.Ground.data }], guard := none } : Oper)) (v := ?_) rfl (by kernel_rfl) (by kernel_rfl) (by kernel_rfl) (fun _ _ _ h => h) (Or.inl ⟨by rfl, ?_⟩) (by assumption) ?_
    rotate_left 1
    · (intro w hSw; (try dsimp only at hSw); go_simp; (try with_reducible rfl))
    try simp only [Act.put, List.setIfInBounds_toArray, List.set_cons_zero, List.set_cons_succ]
    refine wpAnyH_take (i := 7) (oi := ({ dst := some 12, op := Go.Op.move (Go.Operand.tmp 11), type := 4, pos := "distances.go:27", after := #[{ on := 6, ground := Go.Ground.data }], guard := none } : Oper)) (v := ?_) rfl (by kernel_rfl) (by kernel_rfl) (by kernel_rfl) (fun _ _ _ h => h) (Or.inl ⟨by rfl, ?_⟩) (by assumption) ?_
    rotate_left 1
    · (intro w hSw; (try dsimp only at hSw); go_simp; (try with_reducible rfl))
    try simp only [Act.put, List.setIfInBounds_toArray, List.set_cons_zero, List.set_cons_succ]
    refine wpAnyH_take (i := 8) (oi := ({ dst := some 13, op := Go.Op.load 28 (Go.Operand.tmp 2), type := 28, pos := "distances.go:27", after := #[{ on := 7, ground := Go.Ground.guard }], guard := some (7, false) } : Oper)) (v := undef) rfl (by kernel_rfl) (by kernel_rfl) (by kernel_rfl) (fun _ _ _ h => h) (Or.inr ⟨by rfl, rfl⟩) (by assumption) ?_
    try simp only [Act.put, List.setIfInBounds_toArray, List.set_cons_zero, List.set_cons_succ]
    refine wpAnyH_take (i := 9) (oi := ({ dst := some 14, op := Go.Op.binOp Go.BinOp.gtr 28 (Go.Operand.tmp 13) (Go.Operand.const (Go.Value.int Go.IntKind.u64 1)) 28, type := 4, pos := "distances.go:27", after := #[{ on := 8, ground := Go.Ground.data }, { on := 7, ground := Go.Ground.guard }], guard := some (7, false) } : Oper)) (v := undef) rfl (by kernel_rfl) (by kernel_rfl) (by kernel_rfl) (fun _ _ _ h => h) (Or.inr ⟨by rfl, rfl⟩) (by assumption) ?_
    try simp only [Act.put, List.setIfInBounds_toArray, List.set_cons_zero, List.set_cons_succ]
    refine wpAnyH_take (i := 10) (oi := ({ dst := some 15, op := Go.Op.pick (Go.Operand.tmp 12) (Go.Operand.const (Go.Value.bool true)) (Go.Operand.tmp 14), type := 4, pos := "distances.go:27", after := #[{ on := 7, ground := Go.Ground.data }, { on := 9, ground := Go.Ground.data }], guard := none } : Oper)) (v := ?_) rfl (by kernel_rfl) (by kernel_rfl) (by kernel_rfl) (fun _ _ _ h => h) (Or.inl ⟨by rfl, ?_⟩) (by assumption) ?_
    rotate_left 1
    · (intro w hSw; (try dsimp only at hSw); go_simp; (try with_reducible rfl))
    try simp only [Act.put, List.setIfInBounds_toArray, List.set_cons_zero, List.set_cons_succ]
    refine wpAnyH_take (i := 11) (oi := ({ dst := some 4, op := Go.Op.assign (Go.Operand.tmp 15), type := 4, pos := "distances.go:27", after := #[{ on := 10, ground := Go.Ground.data }, { on := 7, ground := Go.Ground.chain }, { on := 0, ground := Go.Ground.phase }, { on := 1, ground := Go.Ground.phase }, { on := 2, ground := Go.Ground.phase }, { on := 3, ground := Go.Ground.phase }, { on := 4, ground := Go.Ground.phase }, { on := 5, ground := Go.Ground.phase }, { on := 6, ground := Go.Ground.phase }, { on := 7, ground := Go.Ground.phase }, { on := 8, ground := Go.Ground.phase }, { on := 9, ground := Go.Ground.phase }, { on := 10, ground := Go.Ground.phase }], guard := none } : Oper)) (v := ?_) rfl (by kernel_rfl) (by kernel_rfl) (by kernel_rfl) (fun _ _ _ h => h) (Or.inl ⟨by rfl, ?_⟩) (by assumption) ?_
    rotate_left 1
    · (intro w hSw; (try dsimp only at hSw); go_simp; (try with_reducible rfl))
    try simp only [Act.put, List.setIfInBounds_toArray, List.set_cons_zero, List.set_cons_succ]
    refine wpAnyH_done (by kernel_rfl) ?_ _
    clear HS
    go_wp2
    all_goals go_ret
    all_goals exact ⟨rfl, rfl⟩
theorem enters75 (A : Array Value) (W : World) : (callFunc 75 A).run Try.prog W = .ok (.enter 75 A) W := enters_of Try.func75 (by kernel_rfl) rfl A W
theorem enters74 (A : Array Value) (W : World) : (callFunc 74 A).run Try.prog W = .ok (.enter 74 A) W := enters_of Try.func74 (by kernel_rfl) rfl A W
/-- What an audit of distances asks. -/
def PDs (kd : Int) (S : Nat → Nat → Int) (s n : Nat) (L : List T3) (a b : Nat) : Prop := (b = 1 ∧ a < n ∧ r1d S s a = true) ∨ (if S s 1 = 1 then (b = 2 ∧ a = s ∧ ∃ r, r < n ∧ scs kd (Pd s kd L r) L = false) else PW kd S s n L a b)
def Rm (W : World) (rb n m : Nat) : Prop := ∃ U, GU W rb m U ∧ ∀ x, n ≤ x → x < m → U x = 99
theorem Rm.of {W W' : World} {rb n m : Nat} (h : Rm W rb n m) (e : W'.heap[rb]? = W.heap[rb]?) : Rm W' rb n m := by
  obtain ⟨U, a, b⟩ := h
  exact ⟨U, a.of e, b⟩
def RDs (n m rb s : Nat) (kd : Int) (L : List T3) (f : Int) (S : Nat → Nat → Int) (E : Int) (o : Vd) (W : World) : Prop := E = fa n kd L f ∧ (E = 0 → Lm (PDs kd S s n L) o) ∧ Rm W rb n m
set_option maxHeartbeats 8000000 in
theorem look74 (n m rb cb sb sg sn sc qb Bt Bf g s : Nat) (kd : Int) (L : List T3) (f : Int) (S : Nat → Nat → Int) (U0 : Nat → Int) (hk : kd ≠ 3) (hs0 : s < n) (hs : n ≤ sn) (hsr : ∀ v, v < n → ∀ i, i < 8 → 0 ≤ S v i ∧ S v i < 18446744073709551616) (hm : n ≤ m) (hn : n ≤ 5000) (hlen : L.length ≤ 140737488351232) (w : World)
    (hQ : Iq w qb n kd (fe Bt Bf) (.slice (some ⟨sg, 0, none⟩) sn sc) none) (hG : GU w rb m U0) (hU0 : ∀ x, n ≤ x → x < m → U0 x = 99) (hF : Fd w g Bt Bf L f) (hcb : Boxed w cb 22 (.int .u32 (s : Int))) (hsb : Boxed w sb 23 (.slice (some ⟨sg, 0, none⟩) sn sc)) (hS : SR w sg sn S)
    (r1 : rb ≠ g) (r2 : rb ≠ Bt) (r3 : rb ≠ Bf) (r4 : sb ≠ rb) (r5 : sg ≠ rb) (r6 : rb ≠ qb) (q1 : qb ≠ g) (q2 : qb ≠ Bt) (q3 : qb ≠ Bf) (q4 : sb ≠ qb) (q5 : sg ≠ qb) :
    Calls Try.prog 74 #[.pointer (some ⟨qb, 0, none⟩), .slice (some ⟨rb, 0, none⟩) n n, .pointer (some ⟨cb, 0, none⟩), .pointer (some ⟨sb, 0, none⟩)] w fun e w' =>
      ∃ E o, e = .returned (.int .i64 E) ∧ Iq w' qb n kd (fe Bt Bf) (.slice (some ⟨sg, 0, none⟩) sn sc) o ∧ RDs n m rb s kd L f S E o w' ∧ Ch (fun k => k = rb ∨ k = qb) w w' := by
  have hGl := hG.lt
  have hQl := hQ.lt
  obtain ⟨w2, hw2⟩ : ∃ w2, (w.alloc (.cells #[.pointer (some ⟨qb, 0, none⟩), .int .u32 (s : Int), .slice (some ⟨rb, 0, none⟩) n n] 103)).alloc (.cells #[.int .u64 (S s 1)] 28) = w2 := ⟨_, rfl⟩
  have hB : Below w.heap.size w w2 := by rw [← hw2]; exact bA (b1 _ _ _) (by simp) _
  have hd : D3 w2 w.heap.size qb s rb n := by rw [← hw2]; exact keep _ (at0 _ _)
  have hnb : Boxed w2 (w.heap.size + 1) 28 (.int .u64 (S s 1)) := by
    rw [← hw2]
    have h := Boxed.new (w.alloc (.cells #[.pointer (some ⟨qb, 0, none⟩), .int .u32 (s : Int), .slice (some ⟨rb, 0, none⟩) n n] 103)) 28 (.int .u64 (S s 1))
    rw [World.size_alloc] at h
    exact h
  have hS2 : SR w2 sg sn S := hS.of (hB.block _ hS.lt)
  have hsb2 : Boxed w2 sb 23 (.slice (some ⟨sg, 0, none⟩) sn sc) := (hB.block _ hsb.lt).trans hsb
  have hQ2 : Iq w2 qb n kd (fe Bt Bf) (.slice (some ⟨sg, 0, none⟩) sn sc) none := (hB.block _ hQl).trans hQ
  have hG2 : GU w2 rb m U0 := hG.on hB
  have hF2 := hF.on (X := fun _ => False) (Ch.of hB) (fun h => h) (fun h => h) (fun h => h)
  have hBA : Below w.heap.size w (w.alloc (.cells #[.pointer (some ⟨qb, 0, none⟩), .int .u32 (s : Int), .slice (some ⟨rb, 0, none⟩) n n] 103)) := b1 _ _ _
  have hc1 := (hS.of (hBA.block _ hS.lt)).c s (by omega) 1 (by decide)
  have hcs := hcb.cell
  have hcsA : (w.alloc (.cells #[.pointer (some ⟨qb, 0, none⟩), .int .u32 (s : Int), .slice (some ⟨rb, 0, none⟩) n n] 103)).cell? ⟨cb, 0, none⟩ = some (.int .u32 (s : Int)) := (World.cell?_of_block (hBA.block _ hcb.lt)).trans hcb.cell
  have hss : (w.alloc (.cells #[.pointer (some ⟨qb, 0, none⟩), .int .u32 (s : Int), .slice (some ⟨rb, 0, none⟩) n n] 103)).cell? ⟨sb, 0, none⟩ = some (.slice (some ⟨sg, 0, none⟩) sn sc) := (World.cell?_of_block (hBA.block _ hsb.lt)).trans hsb.cell
  have hsl : s < sn := by omega
  obtain ⟨z0, z1, z2⟩ := hd.c
  have zn := hnb.cell
  obtain ⟨db, hdb⟩ : ∃ db, db = w.heap.size := ⟨_, rfl⟩
  obtain ⟨nb, hnbe⟩ : ∃ nb, nb = w.heap.size + 1 := ⟨_, rfl⟩
  rw [← hdb] at hd
  rw [← hnbe] at hnb
  obtain ⟨gg, hgg⟩ : ∃ gg, S s 1 = gg := ⟨_, rfl⟩
  have hR := rule_any qb n 1 75 kd (fe Bt Bf) (.slice (some ⟨sg, 0, none⟩) sn sc) none #[.pointer (some ⟨sb, 0, none⟩), .pointer (some ⟨nb, 0, none⟩)] (r1d S s) (fun _ _ => False) (fun k => False) (fun W => SR W sg sn S ∧ Boxed W sb 23 (.slice (some ⟨sg, 0, none⟩) sn sc) ∧ Boxed W nb 28 (.int .u64 (S s 1)) ∧ D3 W db qb s rb n ∧ GU W rb m U0 ∧ Fd W g Bt Bf L f) (by omega) w2 enters75 hQ2 ⟨hS2, hsb2, hnb, hd, hG2, hF2⟩ (fun h => h)
    (fun W W' h hc => ⟨h.1.of (hc.block _ h.1.lt (by omega)), (hc.block _ h.2.1.lt (by omega)).trans h.2.1, (hc.block _ h.2.2.1.lt (by omega)).trans h.2.2.1, h.2.2.2.1.of (hc.block _ h.2.2.2.1.lt (by omega)), h.2.2.2.2.1.of (hc.block _ h.2.2.2.2.1.lt (by omega)), h.2.2.2.2.2.on hc (by omega) (by omega) (by omega)⟩)
    (fun _ _ h => h)
    (fun v W hv h hI => by
      refine (rule75 sb nb sg sn sc v (S s 1) S (by omega) W h.2.1 h.2.2.1 h.1).mono ?_
      rintro e W' ⟨rfl, rfl⟩
      exact ⟨rfl, ⟨h.1.of rfl, h.2.1, h.2.2.1, h.2.2.2.1, h.2.2.2.2.1.of rfl, h.2.2.2.2.2.of rfl rfl rfl⟩, (Ch.refl _ W).drew⟩)
  have HR := hide hR
  have HCw : Hid (Ch (fun k => k = rb ∨ k = qb) w w2) := Ch.of hB
  have HU0 := hide hU0
  have HW2 := hide hw2
  have Hdb := hide hdb
  have Hnb := hide hnbe
  have HSr := hide hsr
  rw [← hw2] at z0
  rw [hgg] at hc1 z0
  have Hgg := hide hgg
  clear hQ hG hU0 hF hcb hsb hS hB hd hnb hS2 hsb2 hQ2 hG2 hF2 hGl hQl hw2 hdb hnbe hgg hsr hR z1 z2 zn hBA
  go_enter Try.func74, Try.ntmps74
  go_wp2_with (fail)
  rw [← Hgg.out]
  rw [HW2.out, ← Hnb.out, ← Hdb.out]
  clear z0 hc1 hcs hss hcsA
  refine HR.out.mono ?_
  rintro e3 w3 ⟨⟨v3, rfl⟩, o3, hL3, hQ3, hJ3, hC3⟩
  obtain ⟨hS3, hsb3, hnb3, hd3, hG3, hF3⟩ := hJ3
  have HC3 : Hid (Ch (fun k => k = rb ∨ k = qb) w w3) := HCw.out.trans (hC3.mono (fun k _ h => h.elim (fun h => absurd h (fun h => h)) Or.inr))
  have hnc := hnb3.cell
  rw [Hgg.out] at hnc
  obtain ⟨z0, z1, z2⟩ := hd3.c
  by_cases hg1 : gg = 1
  · have hgb : (gg == 1) = true := by simpa using hg1
    have HX := hide (cycles_any n m rb qb s Bt Bf g kd L f (.slice (some ⟨sg, 0, none⟩) sn sc) o3 _ U0 hk hs0 hm hn hlen w3 hQ3 hL3 hG3 HU0.out hF3 r1 r2 r3 r6 q1 q2 q3)
    have HP : Hid (∀ o, Lm (fun a b => (False ∨ (b = 1 ∧ a < n ∧ r1d S s a = true)) ∨ (b = 2 ∧ a = s ∧ ∃ r, r < n ∧ scs kd (Pd s kd L r) L = false)) o → Lm (PDs kd S s n L) o) := fun o h => h.ext (fun a b => by
      unfold PDs
      rw [Hgg.out, if_pos hg1]
      constructor
      · rintro ((h | h) | h)
        · exact h.elim
        · exact .inl h
        · exact .inr h
      · rintro (h | h)
        · exact .inl (.inr h)
        · exact .inr h)
    clear hL3 hQ3 hS3 hsb3 hnb3 hd3 hG3 hF3 hC3 hg1 HR HCw HU0
    go_wp2_with (fail)
    refine HX.out.mono ?_
    rintro e4 w4 ⟨E, o4, rfl, hI4, ⟨x1, x2, D, U, x3, x4, x5⟩, hC4⟩
    have HEnd : Hid (Iq w4 qb n kd (fe Bt Bf) (.slice (some ⟨sg, 0, none⟩) sn sc) o4 ∧ RDs n m rb s kd L f S E o4 w4 ∧ Ch (fun k => k = rb ∨ k = qb) w w4) := ⟨hI4, ⟨x1, fun h => HP.out _ (x2 h), U, x3, x5⟩, HC3.out.trans hC4⟩
    clear hI4 x1 x2 x3 x4 x5 hC4 HX HP HC3 hnc z0 z1 z2
    go_wp2
    all_goals go_ret
    all_goals exact ⟨E, o4, rfl, HEnd.out⟩
  · have hgb : (gg == 1) = false := by simpa using hg1
    have HX := hide (ways_any n m rb qb s sg sn sc Bt Bf g kd L f o3 _ S U0 hk hs0 hs HSr.out hm hn hlen w3 hQ3 hL3 hG3 HU0.out hF3 hS3 r1 r2 r3 r6 q1 q2 q3 r5 q5)
    have HP : Hid (∀ o, Lm (fun a b => (False ∨ (b = 1 ∧ a < n ∧ r1d S s a = true)) ∨ PW kd S s n L a b) o → Lm (PDs kd S s n L) o) := fun o h => h.ext (fun a b => by
      unfold PDs
      rw [Hgg.out, if_neg hg1]
      constructor
      · rintro ((h | h) | h)
        · exact h.elim
        · exact .inl h
        · exact .inr h
      · rintro (h | h)
        · exact .inl (.inr h)
        · exact .inr h)
    clear hL3 hQ3 hS3 hsb3 hnb3 hd3 hG3 hF3 hC3 hg1 HR HCw HU0
    go_wp2_with (fail)
    refine HX.out.mono ?_
    rintro e4 w4 ⟨E, o4, rfl, hI4, ⟨x1, x2, D, U, x3, x4, x5⟩, hC4⟩
    have HEnd : Hid (Iq w4 qb n kd (fe Bt Bf) (.slice (some ⟨sg, 0, none⟩) sn sc) o4 ∧ RDs n m rb s kd L f S E o4 w4 ∧ Ch (fun k => k = rb ∨ k = qb) w w4) := ⟨hI4, ⟨x1, fun h => HP.out _ (x2 h), U, x3, x5⟩, HC3.out.trans hC4⟩
    clear hI4 x1 x2 x3 x4 x5 hC4 HX HP HC3 hnc z0 z1 z2
    go_wp2
    all_goals go_ret
    all_goals exact ⟨E, o4, rfl, HEnd.out⟩
end Au
end Go.Proofs.Ytcepfmeoeepjdaa
