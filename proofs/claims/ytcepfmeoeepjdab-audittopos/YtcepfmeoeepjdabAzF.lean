import Derived.Test.YtcepfmeoeepjdabAzE
namespace Go.Proofs.Ytcepfmeoeepjdab
namespace Au
open Go.RowKit
set_option linter.unusedVariables false
set_option maxRecDepth 8000
abbrev S31 (sb nb sg n sn sc v : Nat) (l : Int) (w : World) : Prop := w.cell? ⟨sb, 0, none⟩ = some (.slice (some ⟨sg, 0, none⟩) sn sc) ∧ w.cell? ⟨nb, 0, none⟩ = some (.int .u32 (n : Int)) ∧ w.cell? ⟨sg, v * 8, none⟩ = some (.int .u64 l)
set_option maxHeartbeats 4000000 in
theorem rule31 (n rb qb sb nb zb mb sg sn sc v : Nat) (S : Nat → Nat → Int) (hv : v < n) (hs : n ≤ sn) (hn : n ≤ 5000) (w : World) (hV : Eu w n rb qb sb nb zb mb sg sn sc S) :
    Calls Try.prog 31 #[.int .u32 (v : Int), .pointer (some ⟨sb, 0, none⟩), .pointer (some ⟨nb, 0, none⟩)] w fun e w' => e = .returned (.bool (un9 S n v)) ∧ w' = w.drew := by
  have hnu : IntKind.u64.wrap (n : Int) = n := wu _ (by omega) (by omega)
  have c0 := hV.bS.c v (by omega) 0 (by decide)
  rw [Nat.add_zero] at c0
  obtain ⟨l, hl⟩ : ∃ l, S v 0 = l := ⟨_, rfl⟩
  rw [hl] at c0
  have HS : Hid (S31 sb nb sg n sn sc v l w.drew) := ⟨hV.bs.cell, hV.bn.cell, c0⟩
  have hb : un9 S n v = (decide ((n : Int) ≤ l) && l != NN) := by unfold un9; rw [hl]
  have hvs : v < sn := by omega
  rw [hb]
  clear hV hl hb c0
  by_cases h0 : (n : Int) ≤ l
  · have hd : decide ((n : Int) ≤ l) = true := by simpa using h0
    rw [hd, Bool.true_and]
    go_enter Try.func31, Try.ntmps31
    go_wp2_with (fail)
    go_region_held3 (S31 sb nb sg n sn sc v l) ((with_reducible exact HS.out)) ((fail))
    clear HS
    go_wp2
    all_goals go_ret
    all_goals exact ⟨rfl, rfl⟩
  · have hd : decide ((n : Int) ≤ l) = false := by simpa using h0
    rw [hd, Bool.false_and]
    go_enter Try.func31, Try.ntmps31
    go_wp2_with (fail)
    refine wp_region_held_drew (S := (S31 sb nb sg n sn sc v l)) (by kernel_rfl) ?_ (fun hHeld => ?_)
    · exact HS.out
    refine wpAnyH_take (i := 0) (oi := ({ dst := some 5, op := Go.Op.load 23 (Go.Operand.tmp 1), type := 23, pos := "knots.go:113", after := #[], guard := none } : Oper)) (v := ?_) rfl (by kernel_rfl) (by kernel_rfl) (by kernel_rfl) (fun _ _ _ h => h) (Or.inl ⟨by rfl, ?_⟩) (by assumption) ?_
    rotate_left 1
    · (intro w hSw; (try dsimp only at hSw); go_simp; (try with_reducible rfl))
    try simp only [Act.put, List.setIfInBounds_toArray, List.set_cons_zero, List.set_cons_succ]
    refine wpAnyH_take (i := 1) (oi := ({ dst := some 6, op := Go.Op.move (Go.Operand.tmp 0), type := 22, pos := "knots.go:113", after := #[], guard := none } : Oper)) (v := ?_) rfl (by kernel_rfl) (by kernel_rfl) (by kernel_rfl) (fun _ _ _ h => h) (Or.inl ⟨by rfl, ?_⟩) (by assumption) ?_
    rotate_left 1
    · (intro w hSw; (try dsimp only at hSw); go_simp; (try with_reducible rfl))
    try simp only [Act.put, List.setIfInBounds_toArray, List.set_cons_zero, List.set_cons_succ]
    refine wpAnyH_take (i := 2) (oi := ({ dst := some 7, op := Go.Op.indexAddr 23 (Go.Operand.tmp 5) (Go.Operand.tmp 6), type := 0, pos := "knots.go:113", after := #[{ on := 0, ground := Go.Ground.data }, { on := 1, ground := Go.Ground.data }], guard := none } : Oper)) (v := ?_) rfl (by kernel_rfl) (by kernel_rfl) (by kernel_rfl) (fun _ _ _ h => h) (Or.inl ⟨by rfl, ?_⟩) (by assumption) ?_
    rotate_left 1
    · (intro w hSw; (try dsimp only at hSw); go_simp; (try with_reducible rfl))
    try simp only [Act.put, List.setIfInBounds_toArray, List.set_cons_zero, List.set_cons_succ]
    refine wpAnyH_take (i := 3) (oi := ({ dst := some 8, op := Go.Op.indexAddr 57 (Go.Operand.tmp 7) (Go.Operand.const (Go.Value.int Go.IntKind.i64 0)), type := 0, pos := "knots.go:113", after := #[{ on := 2, ground := Go.Ground.data }], guard := none } : Oper)) (v := ?_) rfl (by kernel_rfl) (by kernel_rfl) (by kernel_rfl) (fun _ _ _ h => h) (Or.inl ⟨by rfl, ?_⟩) (by assumption) ?_
    rotate_left 1
    · (intro w hSw; (try dsimp only at hSw); go_simp; (try with_reducible rfl))
    try simp only [Act.put, List.setIfInBounds_toArray, List.set_cons_zero, List.set_cons_succ]
    refine wpAnyH_take (i := 4) (oi := ({ dst := some 9, op := Go.Op.load 28 (Go.Operand.tmp 8), type := 28, pos := "knots.go:113", after := #[{ on := 3, ground := Go.Ground.data }], guard := none } : Oper)) (v := ?_) rfl (by kernel_rfl) (by kernel_rfl) (by kernel_rfl) (fun _ _ _ h => h) (Or.inl ⟨by rfl, ?_⟩) (by assumption) ?_
    rotate_left 1
    · (intro w hSw; (try dsimp only at hSw); go_simp; (try with_reducible rfl))
    try simp only [Act.put, List.setIfInBounds_toArray, List.set_cons_zero, List.set_cons_succ]
    refine wpAnyH_take (i := 5) (oi := ({ dst := some 10, op := Go.Op.load 22 (Go.Operand.tmp 2), type := 22, pos := "knots.go:113", after := #[], guard := none } : Oper)) (v := ?_) rfl (by kernel_rfl) (by kernel_rfl) (by kernel_rfl) (fun _ _ _ h => h) (Or.inl ⟨by rfl, ?_⟩) (by assumption) ?_
    rotate_left 1
    · (intro w hSw; (try dsimp only at hSw); go_simp; (try with_reducible rfl))
    try simp only [Act.put, List.setIfInBounds_toArray, List.set_cons_zero, List.set_cons_succ]
    refine wpAnyH_take (i := 6) (oi := ({ dst := some 11, op := Go.Op.convert 22 28 (Go.Operand.tmp 10), type := 28, pos := "knots.go:113", after := #[{ on := 5, ground := Go.Ground.data }], guard := none } : Oper)) (v := ?_) rfl (by kernel_rfl) (by kernel_rfl) (by kernel_rfl) (fun _ _ _ h => h) (Or.inl ⟨by rfl, ?_⟩) (by assumption) ?_
    rotate_left 1
    · (intro w hSw; (try dsimp only at hSw); go_simp; (try with_reducible rfl))
    try simp only [Act.put, List.setIfInBounds_toArray, List.set_cons_zero, List.set_cons_succ]
    refine wpAnyH_take (i := 7) (oi := ({ dst := some 12, op := Go.Op.binOp Go.BinOp.geq 28 (Go.Operand.tmp 9) (Go.Operand.tmp 11) 28, type := 4, pos := "knots.go:113", after := #[{ on := 4, ground := Go.Ground.data }, { on := 6, ground := Go.Ground.data }], guard := none } : Oper)) (v := ?_) rfl (by kernel_rfl) (by kernel_rfl) (by kernel_rfl) (fun _ _ _ h => h) (Or.inl ⟨by rfl, ?_⟩) (by assumption) ?_
    rotate_left 1
    · (intro w hSw; (try dsimp only at hSw); go_simp; (try with_reducible rfl))
    try simp only [Act.put, List.setIfInBounds_toArray, List.set_cons_zero, List.set_cons_succ]
    refine wpAnyH_take (i := 8) (oi := ({ dst := some 13, op := Go.Op.move (Go.Operand.tmp 12), type := 4, pos := "knots.go:113", after := #[{ on := 7, ground := Go.Ground.data }], guard := none } : Oper)) (v := ?_) rfl (by kernel_rfl) (by kernel_rfl) (by kernel_rfl) (fun _ _ _ h => h) (Or.inl ⟨by rfl, ?_⟩) (by assumption) ?_
    rotate_left 1
    · (intro w hSw; (try dsimp only at hSw); go_simp; (try with_reducible rfl))
    try simp only [Act.put, List.setIfInBounds_toArray, List.set_cons_zero, List.set_cons_succ]
    refine wpAnyH_take (i := 9) (oi := ({ dst := some 14, op := Go.Op.load 23 (Go.Operand.tmp 1), type := 23, pos := "knots.go:113", after := #[{ on := 8, ground := Go.Ground.guard }], guard := some (8, true) } : Oper)) (v := undef) rfl (by kernel_rfl) (by kernel_rfl) (by kernel_rfl) (fun _ _ _ h => h) (Or.inr ⟨by rfl, rfl⟩) (by assumption) ?_
    try simp only [Act.put, List.setIfInBounds_toArray, List.set_cons_zero, List.set_cons_succ]
    refine wpAnyH_take (i := 10) (oi := ({ dst := some 15, op := Go.Op.move (Go.Operand.tmp 0), type := 22, pos := "knots.go:113", after := #[{ on := 8, ground := Go.Ground.guard }], guard := some (8, true) } : Oper)) (v := undef) rfl (by kernel_rfl) (by kernel_rfl) (by kernel_rfl) (fun _ _ _ h => h) (Or.inr ⟨by rfl, rfl⟩) (by assumption) ?_
    try simp only [Act.put, List.setIfInBounds_toArray, List.set_cons_zero, List.set_cons_succ]
    refine wpAnyH_take (i := 11) (oi := ({ dst := some 16, op := Go.Op.indexAddr 23 (Go.Operand.tmp 14) (Go.Operand.tmp 15), type := 0, pos := "knots.go:113", after := #[{ on := 9, ground := Go.Ground.data }, { on := 10, ground := Go.Ground.data }, { on := 8, ground := Go.Ground.guard }], guard := some (8, true) } : Oper)) (v := undef) rfl (by kernel_rfl) (by kernel_rfl) (by kernel_rfl) (fun _ _ _ h => h) (Or.inr ⟨by rfl, rfl⟩) (by assumption) ?_
    try simp only [Act.put, List.setIfInBounds_toArray, List.set_cons_zero, List.set_cons_succ]
    refine wpAnyH_take (i := 12) (oi := ({ dst := some 17, op := Go.Op.indexAddr 57 (Go.Operand.tmp 16) (Go.Operand.const (Go.Value.int Go.IntKind.i64 0)), type := 0, pos := "knots.go:113", after := #[{ on := 11, ground := Go.Ground.data }, { on := 8, ground := Go.Ground.guard }], guard := some (8, true) } : Oper)) (v := undef) rfl (by kernel_rfl) (by kernel_rfl) (by kernel_rfl) (fun _ _ _ h => h) (Or.inr ⟨by rfl, rfl⟩) (by assumption) ?_
    try simp only [Act.put, List.setIfInBounds_toArray, List.set_cons_zero, List.set_cons_succ]
    refine wpAnyH_take (i := 13) (oi := ({ dst := some 18, op := Go.Op.load 28 (Go.Operand.tmp 17), type := 28, pos := "knots.go:113", after := #[{ on := 12, ground := Go.Ground.data }, { on := 8, ground := Go.Ground.guard }], guard := some (8, true) } : Oper)) (v := undef) rfl (by kernel_rfl) (by kernel_rfl) (by kernel_rfl) (fun _ _ _ h => h) (Or.inr ⟨by rfl, rfl⟩) (by assumption) ?_
    try simp only [Act.put, List.setIfInBounds_toArray, List.set_cons_zero, List.set_cons_succ]
    refine wpAnyH_take (i := 14) (oi := ({ dst := some 19, op := Go.Op.binOp Go.BinOp.neq 28 (Go.Operand.tmp 18) (Go.Operand.const (Go.Value.int Go.IntKind.u64 18446744073709551615)) 28, type := 4, pos := "knots.go:113", after := #[{ on := 13, ground := Go.Ground.data }, { on := 8, ground := Go.Ground.guard }], guard := some (8, true) } : Oper)) (v := undef) rfl (by kernel_rfl) (by kernel_rfl) (by kernel_rfl) (fun _ _ _ h => h) (Or.inr ⟨by rfl, rfl⟩) (by assumption) ?_
    try simp only [Act.put, List.setIfInBounds_toArray, List.set_cons_zero, List.set_cons_succ]
    refine wpAnyH_take (i := 15) (oi := ({ dst := some 20, op := Go.Op.pick (Go.Operand.tmp 13) (Go.Operand.tmp 19) (Go.Operand.const (Go.Value.bool false)), type := 4, pos := "knots.go:113", after := #[{ on := 8, ground := Go.Ground.data }, { on := 14, ground := Go.Ground.data }], guard := none } : Oper)) (v := ?_) rfl (by kernel_rfl) (by kernel_rfl) (by kernel_rfl) (fun _ _ _ h => h) (Or.inl ⟨by rfl, ?_⟩) (by assumption) ?_
    rotate_left 1
    · (intro w hSw; (try dsimp only at hSw); go_simp; (try with_reducible rfl))
    try simp only [Act.put, List.setIfInBounds_toArray, List.set_cons_zero, List.set_cons_succ]
    refine wpAnyH_take (i := 16) (oi := ({ dst := some 4, op := Go.Op.assign (Go.Operand.tmp 20), type := 4, pos := "knots.go:113", after := #[{ on := 15, ground := Go.Ground.data }, { on := 8, ground := Go.Ground.chain }, { on := 0, ground := Go.Ground.phase }, { on := 1, ground := Go.Ground.phase }, { on := 2, ground := Go.Ground.phase }, { on := 3, ground := Go.Ground.phase }, { on := 4, ground := Go.Ground.phase }, { on := 5, ground := Go.Ground.phase }, { on := 6, ground := Go.Ground.phase }, { on := 7, ground := Go.Ground.phase }, { on := 8, ground := Go.Ground.phase }, { on := 9, ground := Go.Ground.phase }, { on := 10, ground := Go.Ground.phase }, { on := 11, ground := Go.Ground.phase }, { on := 12, ground := Go.Ground.phase }, { on := 13, ground := Go.Ground.phase }, { on := 14, ground := Go.Ground.phase }, { on := 15, ground := Go.Ground.phase }], guard := none } : Oper)) (v := ?_) rfl (by kernel_rfl) (by kernel_rfl) (by kernel_rfl) (fun _ _ _ h => h) (Or.inl ⟨by rfl, ?_⟩) (by assumption) ?_
    rotate_left 1
    · (intro w hSw; (try dsimp only at hSw); go_simp; (try with_reducible rfl))
    try simp only [Act.put, List.setIfInBounds_toArray, List.set_cons_zero, List.set_cons_succ]
    refine wpAnyH_done (by kernel_rfl) ?_ _
    clear HS
    go_wp2
    all_goals go_ret
    all_goals exact ⟨rfl, rfl⟩
abbrev S32 (sb mb sg rb n sn sc v : Nat) (l q : Int) (w : World) : Prop := w.cell? ⟨sb, 0, none⟩ = some (.slice (some ⟨sg, 0, none⟩) sn sc) ∧ w.cell? ⟨mb, 0, none⟩ = some (.slice (some ⟨rb, 0, none⟩) n n) ∧ w.cell? ⟨sg, v * 8, none⟩ = some (.int .u64 l) ∧ w.cell? ⟨rb, v, none⟩ = some (.int .u64 q)
set_option maxHeartbeats 4000000 in
theorem rule32 (n m rb qb sb nb zb mb sg sn sc v : Nat) (S : Nat → Nat → Int) (M : Nat → Bool) (hv : v < n) (hs : n ≤ sn) (hm : n ≤ m) (hn : n ≤ 5000) (w : World) (hV : Eu w n rb qb sb nb zb mb sg sn sc S) (hP : Mr w rb n m M) :
    Calls Try.prog 32 #[.int .u32 (v : Int), .pointer (some ⟨sb, 0, none⟩), .pointer (some ⟨mb, 0, none⟩)] w fun e w' => e = .returned (.bool (decide (0 < S v 0) && !M v)) ∧ w' = w := by
  have c0 := hV.bS.c v (by omega) 0 (by decide)
  rw [Nat.add_zero] at c0
  obtain ⟨l, hl⟩ : ∃ l, S v 0 = l := ⟨_, rfl⟩
  rw [hl] at c0 ⊢
  have cm := hP.cell hm v hv
  obtain ⟨q, hq⟩ : ∃ q, w01 M v = q := ⟨_, rfl⟩
  have hqm : (q == 0) = !M v := by rw [← hq]; unfold w01; cases M v <;> rfl
  rw [hq] at cm
  rw [← hqm]
  obtain ⟨s1, s2⟩ : w.cell? ⟨sb, 0, none⟩ = some (.slice (some ⟨sg, 0, none⟩) sn sc) ∧ w.cell? ⟨mb, 0, none⟩ = some (.slice (some ⟨rb, 0, none⟩) n n) := ⟨hV.bs.cell, hV.bm.cell⟩
  have hvs : v < sn := by omega
  clear hV hl hq hqm hP
  by_cases h0 : 0 < l
  · have hd : decide (0 < l) = true := by simpa using h0
    rw [hd, Bool.true_and]
    clear h0
    go_enter Try.func32, Try.ntmps32
    go_wp2
    all_goals go_ret
    all_goals exact ⟨rfl, rfl⟩
  · have hd : decide (0 < l) = false := by simpa using h0
    rw [hd, Bool.false_and]
    clear h0
    go_enter Try.func32, Try.ntmps32
    go_wp2
    all_goals go_ret
    all_goals exact ⟨rfl, rfl⟩
theorem enters25 (A : Array Value) (W : World) : (callFunc 25 A).run Try.prog W = .ok (.enter 25 A) W := enters_of Try.func25 (by kernel_rfl) rfl A W
theorem enters27 (A : Array Value) (W : World) : (callFunc 27 A).run Try.prog W = .ok (.enter 27 A) W := enters_of Try.func27 (by kernel_rfl) rfl A W
theorem enters31 (A : Array Value) (W : World) : (callFunc 31 A).run Try.prog W = .ok (.enter 31 A) W := enters_of Try.func31 (by kernel_rfl) rfl A W
theorem enters32 (A : Array Value) (W : World) : (callFunc 32 A).run Try.prog W = .ok (.enter 32 A) W := enters_of Try.func32 (by kernel_rfl) rfl A W
/-- What a look at levels ends with. -/
def RT (n m rb : Nat) (L : List T3) (f : Int) (S : Nat → Nat → Int) (E : Int) (o : Vd) (W : World) : Prop := E = fa n 0 L f ∧ (E = 0 → Lm (PT S n L) o) ∧ ∃ M, Mr W rb n m M
set_option maxHeartbeats 8000000 in
theorem look25 (n m rb sb nb sg sn sc qb Bt Bf g : Nat) (L : List T3) (f : Int) (S : Nat → Nat → Int) (U0 : Nat → Int) (hs : n ≤ sn) (hsr : ∀ v, v < n → 0 ≤ S v 0 ∧ S v 0 < 18446744073709551616) (hm : n ≤ m) (hn0 : 0 < n) (hn : n ≤ 5000) (hlen : L.length ≤ 140737488351232) (w : World)
    (hQ : Iq w qb n 0 (fe Bt Bf) (.slice (some ⟨sg, 0, none⟩) sn sc) none) (hG : GU w rb m U0) (hU0 : ∀ x, n ≤ x → x < m → U0 x = 99) (hF : Fd w g Bt Bf L f) (hsb : Boxed w sb 23 (.slice (some ⟨sg, 0, none⟩) sn sc)) (hnb : Boxed w nb 22 (.int .u32 (n : Int))) (hS : SR w sg sn S)
    (r1 : rb ≠ g) (r2 : rb ≠ Bt) (r3 : rb ≠ Bf) (r4 : sb ≠ rb) (r5 : sg ≠ rb) (r6 : rb ≠ qb) (r7 : nb ≠ rb) (q1 : qb ≠ g) (q2 : qb ≠ Bt) (q3 : qb ≠ Bf) (q4 : sb ≠ qb) (q5 : sg ≠ qb) (q7 : nb ≠ qb) :
    Calls Try.prog 25 #[.pointer (some ⟨qb, 0, none⟩), .slice (some ⟨rb, 0, none⟩) n n, .pointer (some ⟨sb, 0, none⟩), .pointer (some ⟨nb, 0, none⟩)] w fun e w' =>
      ∃ E o, e = .returned (.int .i64 E) ∧ Iq w' qb n 0 (fe Bt Bf) (.slice (some ⟨sg, 0, none⟩) sn sc) o ∧ RT n m rb L f S E o w' ∧ Ch (fun k => k = rb ∨ k = qb) w w' := by
  have hGl := hG.lt
  have hQl := hQ.lt
  obtain ⟨w2, hw2⟩ : ∃ w2, (w.alloc (.cells #[.pointer (some ⟨qb, 0, none⟩)] 63)).alloc (.cells #[.slice (some ⟨rb, 0, none⟩) n n] 32) = w2 := ⟨_, rfl⟩
  have hB : Below w.heap.size w w2 := by rw [← hw2]; exact bA2 (b1 _ _ _) _
  have hzb : Boxed w2 w.heap.size 63 (.pointer (some ⟨qb, 0, none⟩)) := by rw [← hw2]; exact (Boxed.new w _ _).alloc _
  have hmb : Boxed w2 (w.heap.size + 1) 32 (.slice (some ⟨rb, 0, none⟩) n n) := by
    rw [← hw2]
    have h := Boxed.new (w.alloc (.cells #[.pointer (some ⟨qb, 0, none⟩)] 63)) 32 (.slice (some ⟨rb, 0, none⟩) n n)
    rw [World.size_alloc] at h
    exact h
  have hG2 : GU w2 rb m U0 := hG.on hB
  have hcl := clear_gu n m rb U0 hm hn0 w2 hG2
  obtain ⟨w3, hw3⟩ : ∃ w3, w2.setCells rb 0 (List.replicate n (.int .u64 0)) = w3 := ⟨_, rfl⟩
  rw [hw3] at hcl
  have hC3 : Ch (fun k => k = rb) w2 w3 := by rw [← hw3]; exact Ch.zeros (X := fun k => k = rb) rfl n 0 (Ch.refl _ _)
  have hP3 : Mr w3 rb n m (mt9 S []) := by
    rw [← hw3]
    exact ⟨_, hG2.zeros n 0, fun v hv => by rw [if_pos (by omega)]; rfl, fun x h1 h2 => by rw [if_neg (by omega)]; exact hU0 x h1 h2⟩
  obtain ⟨zb, hzbe⟩ : ∃ zb, zb = w.heap.size := ⟨_, rfl⟩
  obtain ⟨mb, hmbe⟩ : ∃ mb, mb = w.heap.size + 1 := ⟨_, rfl⟩
  rw [← hzbe] at hzb
  rw [← hmbe] at hmb
  have hE2 : Eu w2 n rb qb sb nb zb mb sg sn sc S := ⟨(hB.block _ hsb.lt).trans hsb, (hB.block _ hnb.lt).trans hnb, hzb, hmb, hS.of (hB.block _ hS.lt), fun k hk => by
    rcases hk with rfl | rfl | rfl | rfl | rfl
    · exact ⟨r4, q4⟩
    · exact ⟨r7, q7⟩
    · exact ⟨by omega, by omega⟩
    · exact ⟨by omega, by omega⟩
    · exact ⟨r5, q5⟩⟩
  have hE3 : Eu w3 n rb qb sb nb zb mb sg sn sc S := hE2.ch hC3 (fun k hk => Or.inl hk)
  have hQ3 : Iq w3 qb n 0 (fe Bt Bf) (.slice (some ⟨sg, 0, none⟩) sn sc) none := (hC3.block _ (Nat.lt_of_lt_of_le hQl hB.size) (fun e => r6 e.symm)).trans ((hB.block _ hQl).trans hQ)
  have hF3 := (hF.on (X := fun _ => False) (Ch.of hB) (fun h => h) (fun h => h) (fun h => h)).on hC3 (fun e => r1 e.symm) (fun e => r2 e.symm) (fun e => r3 e.symm)
  have hCw : Ch (fun k => k = rb ∨ k = qb) w w3 := (Ch.of hB).trans (hC3.mono (fun k _ h => Or.inl h))
  have hl3 := hP3.lt
  have hl4 := hQ3.lt
  have HO := hide (over_any qb n g Bt Bf 27 0 (.slice (some ⟨sg, 0, none⟩) sn sc) #[.pointer (some ⟨sb, 0, none⟩), .pointer (some ⟨zb, 0, none⟩), .pointer (some ⟨mb, 0, none⟩)] L f (fun k => k = rb ∨ k = qb)
    (fun pre W => Mr W rb n m (mt9 S pre) ∧ (∃ o, Lm (fun a b => b = 2 ∧ a < n ∧ ov9 S pre a = true) o ∧ Iq W qb n 0 (fe Bt Bf) (.slice (some ⟨sg, 0, none⟩) sn sc) o) ∧ Eu W n rb qb sb nb zb mb sg sn sc S) (by decide) hlen w3 enters27 hF3 (by omega) (by omega) (by omega) (fun k hk => by omega)
    (fun pre W h => by obtain ⟨_, ⟨o, _, b⟩, _⟩ := h; exact ⟨o, b⟩)
    (fun pre W W' h hk => by
      obtain ⟨a, ⟨o, b, b'⟩, c⟩ := h
      refine ⟨a.of (hk rb hl3), ⟨o, b, (hk qb hl4).trans b'⟩, ?_⟩
      exact ⟨(hk _ hE3.bs.lt).trans c.bs, (hk _ hE3.bn.lt).trans c.bn, (hk _ hE3.bz.lt).trans c.bz, (hk _ hE3.bm.lt).trans c.bm, c.bS.of (hk _ hE3.bS.lt), c.d⟩)
    (fun pre e W hp hbad h hsz => by
      obtain ⟨a, ⟨o, b, b'⟩, c⟩ := h
      obtain ⟨hx, hy, _⟩ := bad_ok hbad
      refine (see27 n m rb qb sb nb zb mb sg sn sc S 0 _ _ o (mt9 S pre) e.1 e.2.1 e.2.2 hx hy hs hsr hm hn W a b' c r6).mono ?_
      rintro r W2 ⟨hv2, p1, p2, p3⟩
      refine ⟨hv2, ⟨p1.ext (fun v _ => by rw [mt9_app]), ⟨_, ?_, p2⟩, c.ch p3 (fun k hk => hk)⟩, p3⟩
      by_cases ho : ovE9 S e.2.1 e = true
      · rw [if_pos ho]
        refine (b.nt e.2.1 2).ext (fun u r => ?_)
        rw [ov9_app]
        constructor
        · rintro (⟨x1, x2, x3⟩ | ⟨x1, x2⟩)
          · exact ⟨x1, x2, by rw [x3]; rfl⟩
          · subst x1; exact ⟨x2, hy, by rw [ho]; simp⟩
        · rintro ⟨x1, x2, x3⟩
          simp only [Bool.or_eq_true] at x3
          rcases x3 with x3 | x3
          · exact .inl ⟨x1, x2, x3⟩
          · refine .inr ⟨?_, x1⟩
            unfold ovE9 at x3
            simp only [Bool.and_eq_true, beq_iff_eq] at x3
            exact x3.1.symm
      · have ho' : ovE9 S e.2.1 e = false := by simpa using ho
        rw [if_neg ho]
        refine b.ext (fun u r => ?_)
        rw [ov9_app]
        by_cases eu : u = e.2.1
        · subst eu; rw [ho']; simp
        · have h9 : ovE9 S u e = false := by
            have h8 : (e.2.1 == u) = false := by simpa using fun q => eu q.symm
            unfold ovE9; rw [h8]; rfl
          rw [h9]; simp)
    ⟨hP3, ⟨none, fun v r h => by simp [ov9] at h, hQ3⟩, hE3⟩)
  have cz := hE3.bz.cell
  have HCw := hide hCw
  have Hzb := hide hzbe
  have Hmb := hide hmbe
  rw [← hw2] at hcl
  clear hQ hG hU0 hF hsb hnb hS hB hzb hmb hG2 hC3 hP3 hE2 hE3 hQ3 hF3 hCw hl3 hl4 hw2 hw3 hsr hGl hQl
  rw [hzbe] at cz
  clear hzbe hmbe
  go_enter Try.func25, Try.ntmps25
  go_wp2_with (fail)
  rw [← Hmb.out, ← Hzb.out]
  refine HO.out.mono ?_
  rintro e5 w5 ⟨E, rfl, hE, hC5, hJ⟩
  obtain ⟨pre, o5, hEp, hP5, hL5, hQ5, hV5⟩ : ∃ pre o5, (E = 0 → pre = L) ∧ Mr w5 rb n m (mt9 S pre) ∧ Lm (fun a b => b = 2 ∧ a < n ∧ ov9 S pre a = true) o5 ∧ Iq w5 qb n 0 (fe Bt Bf) (.slice (some ⟨sg, 0, none⟩) sn sc) o5 ∧ Eu w5 n rb qb sb nb zb mb sg sn sc S := by
    rcases hJ with ⟨h0, a, ⟨o, b, b'⟩, c⟩ | ⟨h0, pre, a, ⟨o, b, b'⟩, c⟩
    · exact ⟨L, o, fun _ => rfl, a, b, b', c⟩
    · exact ⟨pre, o, fun h => absurd h h0, a, b, b', c⟩
  have HR1 := hide (rule_any qb n 1 31 0 (fe Bt Bf) (.slice (some ⟨sg, 0, none⟩) sn sc) o5 #[.pointer (some ⟨sb, 0, none⟩), .pointer (some ⟨nb, 0, none⟩)] (un9 S n) _ (fun k => False) (fun W => Mr W rb n m (mt9 S pre) ∧ Eu W n rb qb sb nb zb mb sg sn sc S) (by omega) w5 enters31 hQ5 ⟨hP5, hV5⟩ (fun h => h)
    (fun W W' h hc => ⟨h.1.of (hc.block _ h.1.lt (by omega)), h.2.ch hc (fun k hk => Or.inr hk)⟩) hL5
    (fun v W hv h hI => by
      refine (rule31 n rb qb sb nb zb mb sg sn sc v S hv hs hn W h.2).mono ?_
      rintro e W' ⟨rfl, rfl⟩
      exact ⟨rfl, ⟨h.1.of rfl, h.2.of (fun _ _ _ _ => rfl)⟩, (Ch.refl _ W).drew⟩))
  have HE := hide hE
  have HEp := hide hEp
  have HC5 := hide (HCw.out.trans hC5)
  have cz5 := hV5.bz.cell
  clear hE hEp hC5 hJ hP5 hL5 hQ5 hV5 HO HCw cz hcl
  go_wp2_with (fail)
  refine HR1.out.mono ?_
  rintro e6 w6 ⟨⟨v6, rfl⟩, o6, hL6, hQ6, hJ6, hC6⟩
  have HR2 := hide (rule_any qb n 3 32 0 (fe Bt Bf) (.slice (some ⟨sg, 0, none⟩) sn sc) o6 #[.pointer (some ⟨sb, 0, none⟩), .pointer (some ⟨mb, 0, none⟩)] (fun v => decide (0 < S v 0) && !mt9 S pre v) _ (fun k => False) (fun W => Mr W rb n m (mt9 S pre) ∧ Eu W n rb qb sb nb zb mb sg sn sc S) (by omega) w6 enters32 hQ6 hJ6 (fun h => h)
    (fun W W' h hc => ⟨h.1.of (hc.block _ h.1.lt (by omega)), h.2.ch hc (fun k hk => Or.inr hk)⟩) hL6
    (fun v W hv h hI => by
      refine (rule32 n m rb qb sb nb zb mb sg sn sc v S (mt9 S pre) hv hs hm hn W h.2 h.1).mono ?_
      rintro e W' ⟨rfl, rfl⟩
      exact ⟨rfl, h, Ch.refl _ W'⟩))
  have HC6 : Hid (Ch (fun k => k = rb ∨ k = qb) w w6) := HC5.out.trans (hC6.mono (fun k _ h => h.elim (fun h => absurd h (fun h => h)) Or.inr))
  have cz6 := hJ6.2.bz.cell
  clear hL6 hQ6 hJ6 hC6 HR1 HC5 cz5
  go_wp2_with (fail)
  refine HR2.out.mono ?_
  rintro e7 w7 ⟨⟨v7, rfl⟩, o7, hL7, hQ7, hJ7, hC7⟩
  have HEnd : Hid (Iq w7 qb n 0 (fe Bt Bf) (.slice (some ⟨sg, 0, none⟩) sn sc) o7 ∧ RT n m rb L f S E o7 w7 ∧ Ch (fun k => k = rb ∨ k = qb) w w7) := by
    refine ⟨hQ7, ⟨HE.out, fun h0 => ?_, _, hJ7.1⟩, HC6.out.trans (hC7.mono (fun k _ h => h.elim (fun h => absurd h (fun h => h)) Or.inr))⟩
    obtain rfl := HEp.out h0
    refine hL7.ext (fun a b => ?_)
    unfold PT ng9
    constructor
    · rintro ((h | h) | h)
      · exact .inl h
      · exact .inr (.inl h)
      · exact .inr (.inr h)
    · rintro (h | h | h)
      · exact .inl (.inl h)
      · exact .inl (.inr h)
      · exact .inr h
  clear hL7 hQ7 hJ7 hC7 HR2 HC6 cz6 HE HEp
  go_wp2
  all_goals go_ret
  all_goals exact ⟨E, o7, rfl, HEnd.out⟩
end Au
end Go.Proofs.Ytcepfmeoeepjdab
