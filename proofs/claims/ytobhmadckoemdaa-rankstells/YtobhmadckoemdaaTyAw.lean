import Derived.Test.YtobhmadckoemdaaTyPl
namespace Go.Proofs.Ytobhmadckoemdaa
namespace Ty
open Go.RowKit
set_option linter.unusedVariables false
theorem aw1 (l h m n : Bool) (w : World) : Calls Try.prog 49 #[.agg #[.bool l, .bool h, .bool m], .bool n] w fun e w' => e = .returned (.bool (h && (m || l))) ∧ Below w.heap.size w w' := by
  have hB : Below w.heap.size w (w.alloc (.cells #[.bool l, .bool h, .bool m] 71)) := (Below.refl _ _).alloc (Nat.le_refl _) _
  cases l <;> cases h <;> cases m
  all_goals
    go_enter Try.func49, Try.ntmps49
    go_wp2
    go_ret
    exact ⟨rfl, hB⟩
theorem aw2 (l h m n : Bool) (w : World) : Calls Try.prog 50 #[.agg #[.bool l, .bool h, .bool m], .bool n] w fun e w' => e = .returned (.bool false) ∧ Below w.heap.size w w' := by
  go_enter Try.func50, Try.ntmps50
  go_wp2
  go_ret
  exact ⟨rfl, by first | exact Below.refl _ _ | exact (Below.refl _ _).alloc (Nat.le_refl _) _⟩
theorem aw3 (l h m n : Bool) (w : World) : Calls Try.prog 51 #[.agg #[.bool l, .bool h, .bool m], .bool n] w fun e w' => e = .returned (.bool (n && (h || m))) ∧ Below w.heap.size w w' := by
  have hB : Below w.heap.size w (w.alloc (.cells #[.bool l, .bool h, .bool m] 71)) := (Below.refl _ _).alloc (Nat.le_refl _) _
  cases n <;> cases h <;> cases m
  all_goals
    go_enter Try.func51, Try.ntmps51
    go_wp2
    go_ret
    exact ⟨rfl, hB⟩
theorem aw4 (l h m n : Bool) (w : World) : Calls Try.prog 52 #[.agg #[.bool l, .bool h, .bool m], .bool n] w fun e w' => e = .returned (.bool (!n && (h || m))) ∧ Below w.heap.size w w' := by
  have hB : Below w.heap.size w (w.alloc (.cells #[.bool l, .bool h, .bool m] 71)) := (Below.refl _ _).alloc (Nat.le_refl _) _
  cases n <;> cases h <;> cases m
  all_goals
    go_enter Try.func52, Try.ntmps52
    go_wp2
    go_ret
    exact ⟨rfl, hB⟩
theorem sizeModes : (Try.prog.info? 85).map (·.size) = some 4 := by kernel_rfl
theorem wpList_store4 (t : TypeId) (hi : (Try.prog.info? t).map (·.size) = some 4) {w : World} {ops : Array Oper} {rest : List Oper} {o : Oper} {a : Act} {Q : Exit → Act → World → Prop} (hgd : o.guard = none) (s x : Operand) (ho : o.op = .store t s x)
    (b : Nat) (c old : Array Value) (hs : a.eval s = .pointer (some ⟨b, 0, none⟩)) (hx : a.eval x = .agg c) (hsz : c.size = 4) (hoz : old.size = 4) (h1 : c.all (·.oneCell') = true) (hh : w.heap[b]? = some (.cells old t (0, 0)))
    (h : wpList Try.prog ops Q rest (a.put o.dst undef) (w.setRow b c)) : wpList Try.prog ops Q (o :: rest) a w := by
  have hl : (Instr.storeAt t (.pointer (some ⟨b, 0, none⟩)) (.agg c)).run Try.prog w = .ok () (w.setRow b c) := by
    simp only [Instr.storeAt, Instr.sureAddr, Sem.run_bind, Sem.run_pure, Result.andThen]
    exact run_storeVar_row _ _ t t old c hh (by rw [hsz]; exact hi) (by omega) h1
  refine wpList_plain hgd fun K hK => ?_
  unfold Oper.wp execOp
  simp only [ho, hs, hx, Sem.run_bind, Sem.run_pure, Result.andThen_ok, hl]
  exact hK _ _ h
/-- The table of modes. -/
def tabA : Array Value := #[.func (.func 49) #[] #[], .func (.func 50) #[] #[], .func (.func 51) #[] #[], .func (.func 52) #[] #[]]
theorem tabA_all : tabA.all (·.oneCell') = true := by decide +kernel
theorem aw_tab (w : World) (l h m : Bool) : ∃ v, ((w.alloc (.cells #[.bool l, .bool h, .bool m] 71)).alloc (.cells #[.nilFunc, .nilFunc, .nilFunc, .nilFunc] 85)).heap[w.heap.size + 1]? = some (.cells #[.nilFunc, .nilFunc, .nilFunc, .nilFunc] 85 (0, 0)) ∧ ((w.alloc (.cells #[.bool l, .bool h, .bool m] 71)).alloc (.cells #[.nilFunc, .nilFunc, .nilFunc, .nilFunc] 85)).setRow (w.heap.size + 1) #[.func (.func 49) #[] #[], .func (.func 50) #[] #[], .func (.func 51) #[] #[], .func (.func 52) #[] #[]] = v ∧
    Below w.heap.size w v ∧ v.heap.size = w.heap.size + 1 + 1 ∧ v.heap[w.heap.size]? = some (.cells #[.bool l, .bool h, .bool m] 71 (0, 0)) ∧ v.heap[w.heap.size + 1]? = some (.cells tabA 85 (0, 0)) := by
  obtain ⟨h1, h2⟩ := heap_two w (.cells #[.bool l, .bool h, .bool m] 71) (.cells #[.nilFunc, .nilFunc, .nilFunc, .nilFunc] 85)
  refine ⟨_, h2, rfl, below_setRow _ _ (((Below.refl _ _).alloc (Nat.le_refl _) _).alloc (by simp) _) (by omega), by simp, ?_, setRow_heap _ (w.heap.size + 1) _ _ 85 (0, 0) h2⟩
  rw [setRow_other _ _ _ _ (by omega)]; exact h1
theorem tabA_cell {v : World} {g : Nat} (h : v.heap[g]? = some (.cells tabA 85 (0, 0))) (i : Nat) (x : Value) (hx : tabA[i]? = some x) : v.cell? ⟨g, i, none⟩ = some x := by
  simp [World.cell?, h, hx]
theorem three_cells {v : World} {g : Nat} {l h m : Value} {t : TypeId} (hh : v.heap[g]? = some (.cells #[l, h, m] t (0, 0))) : v.cell? ⟨g, 0, none⟩ = some l ∧ v.cell? ⟨g, 1, none⟩ = some h ∧ v.cell? ⟨g, 2, none⟩ = some m := by
  refine ⟨?_, ?_, ?_⟩ <;> simp [World.cell?, hh]
/-- Whether a mode rounds away from 0. -/
def aw (mode : Int) (neg l h m : Bool) : Bool := if mode = 0 then h && (m || l) else if mode = 1 then false else if mode = 2 then neg && (h || m) else !neg && (h || m)
set_option maxHeartbeats 800000 in
theorem away0 (l h m n : Bool) (w : World) : Calls Try.prog 40 #[.agg #[.bool l, .bool h, .bool m], .int .i64 0, .bool n] w fun e w' => e = .returned (.bool (h && (m || l))) ∧ Below w.heap.size w w' := by
  obtain ⟨v, hal, hv, hb, hs, h0, h1⟩ := aw_tab w l h m
  have t0 := tabA_cell h1 0 (.func (.func 49) #[] #[]) rfl
  obtain ⟨c0, c1, c2⟩ := three_cells h0
  clear h0 h1
  have HP : Hid (∀ w, Calls Try.prog 49 #[.agg #[.bool l, .bool h, .bool m], .bool n] w fun e w' => e = .returned (.bool (h && (m || l))) ∧ Below w.heap.size w w') := fun w => aw1 l h m n w
  generalize (h && (m || l)) = b at *
  go_enter Try.func40, Try.ntmps40
  go_wp2_with (refine wpList_store4 85 sizeModes rfl _ _ rfl (w.heap.size + 1) _ _ rfl rfl rfl rfl tabA_all hal ?_; rw [hv])
  clear hal hv
  go_region_with ((go_at_call 49; refine (HP.out _).mono ?_; rintro e9 w9 ⟨rfl, hb9⟩))
  all_goals
    have hb10 : Below w.heap.size w w9 := below_chain hb (((Below.refl _ _).drew).trans hb9) (Nat.le_refl _)
    clear hb hb9
    go_wp2
    go_ret
    exact ⟨rfl, hb10⟩
set_option maxHeartbeats 800000 in
theorem away1 (l h m n : Bool) (w : World) : Calls Try.prog 40 #[.agg #[.bool l, .bool h, .bool m], .int .i64 1, .bool n] w fun e w' => e = .returned (.bool (false)) ∧ Below w.heap.size w w' := by
  obtain ⟨v, hal, hv, hb, hs, h0, h1⟩ := aw_tab w l h m
  have t0 := tabA_cell h1 1 (.func (.func 50) #[] #[]) rfl
  obtain ⟨c0, c1, c2⟩ := three_cells h0
  clear h0 h1
  have HP : Hid (∀ w, Calls Try.prog 50 #[.agg #[.bool l, .bool h, .bool m], .bool n] w fun e w' => e = .returned (.bool (false)) ∧ Below w.heap.size w w') := fun w => aw2 l h m n w
  generalize (false) = b at *
  go_enter Try.func40, Try.ntmps40
  go_wp2_with (refine wpList_store4 85 sizeModes rfl _ _ rfl (w.heap.size + 1) _ _ rfl rfl rfl rfl tabA_all hal ?_; rw [hv])
  clear hal hv
  go_region_with ((go_at_call 50; refine (HP.out _).mono ?_; rintro e9 w9 ⟨rfl, hb9⟩))
  all_goals
    have hb10 : Below w.heap.size w w9 := below_chain hb (((Below.refl _ _).drew).trans hb9) (Nat.le_refl _)
    clear hb hb9
    go_wp2
    go_ret
    exact ⟨rfl, hb10⟩
set_option maxHeartbeats 800000 in
theorem away2 (l h m n : Bool) (w : World) : Calls Try.prog 40 #[.agg #[.bool l, .bool h, .bool m], .int .i64 2, .bool n] w fun e w' => e = .returned (.bool (n && (h || m))) ∧ Below w.heap.size w w' := by
  obtain ⟨v, hal, hv, hb, hs, h0, h1⟩ := aw_tab w l h m
  have t0 := tabA_cell h1 2 (.func (.func 51) #[] #[]) rfl
  obtain ⟨c0, c1, c2⟩ := three_cells h0
  clear h0 h1
  have HP : Hid (∀ w, Calls Try.prog 51 #[.agg #[.bool l, .bool h, .bool m], .bool n] w fun e w' => e = .returned (.bool (n && (h || m))) ∧ Below w.heap.size w w') := fun w => aw3 l h m n w
  generalize (n && (h || m)) = b at *
  go_enter Try.func40, Try.ntmps40
  go_wp2_with (refine wpList_store4 85 sizeModes rfl _ _ rfl (w.heap.size + 1) _ _ rfl rfl rfl rfl tabA_all hal ?_; rw [hv])
  clear hal hv
  go_region_with ((go_at_call 51; refine (HP.out _).mono ?_; rintro e9 w9 ⟨rfl, hb9⟩))
  all_goals
    have hb10 : Below w.heap.size w w9 := below_chain hb (((Below.refl _ _).drew).trans hb9) (Nat.le_refl _)
    clear hb hb9
    go_wp2
    go_ret
    exact ⟨rfl, hb10⟩
set_option maxHeartbeats 800000 in
theorem away3 (l h m n : Bool) (w : World) : Calls Try.prog 40 #[.agg #[.bool l, .bool h, .bool m], .int .i64 3, .bool n] w fun e w' => e = .returned (.bool (!n && (h || m))) ∧ Below w.heap.size w w' := by
  obtain ⟨v, hal, hv, hb, hs, h0, h1⟩ := aw_tab w l h m
  have t0 := tabA_cell h1 3 (.func (.func 52) #[] #[]) rfl
  obtain ⟨c0, c1, c2⟩ := three_cells h0
  clear h0 h1
  have HP : Hid (∀ w, Calls Try.prog 52 #[.agg #[.bool l, .bool h, .bool m], .bool n] w fun e w' => e = .returned (.bool (!n && (h || m))) ∧ Below w.heap.size w w') := fun w => aw4 l h m n w
  generalize (!n && (h || m)) = b at *
  go_enter Try.func40, Try.ntmps40
  go_wp2_with (refine wpList_store4 85 sizeModes rfl _ _ rfl (w.heap.size + 1) _ _ rfl rfl rfl rfl tabA_all hal ?_; rw [hv])
  clear hal hv
  go_region_with ((go_at_call 52; refine (HP.out _).mono ?_; rintro e9 w9 ⟨rfl, hb9⟩))
  all_goals
    have hb10 : Below w.heap.size w w9 := below_chain hb (((Below.refl _ _).drew).trans hb9) (Nat.le_refl _)
    clear hb hb9
    go_wp2
    go_ret
    exact ⟨rfl, hb10⟩
theorem away_any (mode : Int) (l h m n : Bool) (h0 : 0 ≤ mode) (h1 : mode ≤ 3) (w : World) : Calls Try.prog 40 #[.agg #[.bool l, .bool h, .bool m], .int .i64 mode, .bool n] w fun e w' => e = .returned (.bool (aw mode n l h m)) ∧ Below w.heap.size w w' := by
  have hc : mode = 0 ∨ mode = 1 ∨ mode = 2 ∨ mode = 3 := by omega
  rcases hc with rfl | rfl | rfl | rfl
  · exact away0 l h m n w
  · exact away1 l h m n w
  · exact away2 l h m n w
  · exact away3 l h m n w
end Ty
end Go.Proofs.Ytobhmadckoemdaa
