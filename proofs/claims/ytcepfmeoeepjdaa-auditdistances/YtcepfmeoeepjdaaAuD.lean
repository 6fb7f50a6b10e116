import Derived.Test.YtcepfmeoeepjdaaAuC
namespace Go.Proofs.Ytcepfmeoeepjdaa
namespace Au
open Go.RowKit Go.Shelf
set_option linter.unusedVariables false
set_option maxRecDepth 8000
/-- May an edge of the kind have this weight? -/
def wg (kd x : Int) : Bool := kd != 1 || x == 0
/-- What is wrong with an edge. -/
def bz (n : Nat) (kd x y z : Int) : Int := if (n : Int) ≤ x ∨ (n : Int) ≤ y then 91 else if wg kd z = true then 0 else 95
def bad (n : Nat) (kd : Int) (e : T3) : Int := bz n kd e.1 e.2.1 e.2.2
/-- What is wrong first. -/
def fa (n : Nat) (kd : Int) : List T3 → Int → Int
  | [], f => f
  | e :: L, f => if bad n kd e = 0 then fa n kd L f else bad n kd e
theorem fa_app (n : Nat) (kd : Int) (P L : List T3) (f : Int) (h : ∀ e ∈ P, bad n kd e = 0) : fa n kd (P ++ L) f = fa n kd L f := by
  induction P with
  | nil => rfl
  | cons e P ih => simp only [List.cons_append, fa, h e (by simp), if_true]; exact ih (fun x hx => h x (by simp [hx]))
theorem bad_ok {n : Nat} {kd : Int} {e : T3} (h : bad n kd e = 0) : e.1 < n ∧ e.2.1 < n ∧ wg kd e.2.2 = true := by
  unfold bad bz at h
  split at h
  · omega
  · split at h
    · rename_i a b; exact ⟨by omega, by omega, b⟩
    · omega
set_option maxHeartbeats 1000000 in
theorem isWeight_any (kd x : Int) (hk : kd ≠ 3) (w : World) : Calls Try.prog 116 #[.int .i64 kd, .int .u32 x] w fun e w' => e = .returned (.bool (wg kd x)) ∧ w' = w := by
  have h3 : (kd == 3) = false := by simpa using hk
  by_cases h : kd = 1
  · have h1 : (kd == 1) = true := by simpa using h
    have hw : wg kd x = (x == 0) := by unfold wg; rw [h]; rfl
    rw [hw]
    clear h hk hw
    go_enter Try.func116, Try.ntmps116
    go_wp2
    all_goals go_ret
    all_goals exact ⟨rfl, rfl⟩
  · have h1 : (kd == 1) = false := by simpa using h
    have hw : wg kd x = true := by unfold wg; simp [h]
    rw [hw]
    clear h hk hw
    go_enter Try.func116, Try.ntmps116
    go_wp2
    all_goals go_ret
    all_goals exact ⟨rfl, rfl⟩
set_option maxHeartbeats 4000000 in
theorem fault_int (qb n : Nat) (kd : Int) (ed sl : Value) (o : Vd) (x y z : Int) (hk : kd ≠ 3) (w : World) (h : Iq w qb n kd ed sl o) :
    Calls Try.prog 91 #[.pointer (some ⟨qb, 0, none⟩), eV x y z] w fun e w' => e = .returned (.int .i64 (bz n kd x y z)) ∧ Below w.heap.size w w' := by
  obtain ⟨c0, c1, _⟩ := h.c
  have hlt := h.lt
  have HB : Hid (Below w.heap.size w (w.alloc (.cells #[.int .u32 x, .int .u32 y, .int .u32 z] 73))) := b1 _ _ _
  have HW := hide (fun W => isWeight_any kd z hk W)
  clear h
  by_cases h1 : (n : Int) ≤ x
  · have hb : bz n kd x y z = 91 := by unfold bz; rw [if_pos (Or.inl h1)]
    rw [hb]
    clear hb HW
    go_enter Try.func91, Try.ntmps91
    go_wp2_with (fail)
    go_quiet (fail)
    go_wp2
    all_goals go_ret
    all_goals exact ⟨rfl, belowN HB.out _⟩
  · by_cases h2 : (n : Int) ≤ y
    · have hb : bz n kd x y z = 91 := by unfold bz; rw [if_pos (Or.inr h2)]
      rw [hb]
      clear hb HW
      go_enter Try.func91, Try.ntmps91
      go_wp2_with (fail)
      go_quiet (fail)
      go_wp2
      all_goals go_ret
      all_goals exact ⟨rfl, belowN HB.out _⟩
    · cases hg : wg kd z with
      | true =>
        have hb : bz n kd x y z = 0 := by unfold bz; rw [if_neg (by simp; omega), if_pos hg]
        rw [hb]
        rw [hg] at HW
        clear hb hg
        go_enter Try.func91, Try.ntmps91
        go_wp2_with (fail)
        go_quiet (fail)
        go_wp2_with (fail)
        go_region_with (go_at_call 116; refine (HW.out _).mono ?_; rintro e1 w1 ⟨rfl, rfl⟩)
        all_goals go_wp2
        all_goals go_ret
        all_goals exact ⟨rfl, belowN HB.out _⟩
      | false =>
        have hb : bz n kd x y z = 95 := by unfold bz; rw [if_neg (by simp; omega), if_neg (by simp [hg])]
        rw [hb]
        rw [hg] at HW
        clear hb hg
        go_enter Try.func91, Try.ntmps91
        go_wp2_with (fail)
        go_quiet (fail)
        go_wp2_with (fail)
        go_region_with (go_at_call 116; refine (HW.out _).mono ?_; rintro e1 w1 ⟨rfl, rfl⟩)
        all_goals go_wp2
        all_goals go_ret
        all_goals exact ⟨rfl, belowN HB.out _⟩
theorem fault_any (qb n : Nat) (kd : Int) (ed sl : Value) (o : Vd) (x y z : Nat) (hk : kd ≠ 3) (w : World) (h : Iq w qb n kd ed sl o) :
    Calls Try.prog 91 #[.pointer (some ⟨qb, 0, none⟩), eV x y z] w fun e w' => e = .returned (.int .i64 (bad n kd (x, y, z))) ∧ Below w.heap.size w w' := fault_int qb n kd ed sl o x y z hk w h
end Au
end Go.Proofs.Ytcepfmeoeepjdaa
