import Derived.Test.YtcolkfoodjpdjaaRlA
namespace Go.Proofs.Ytcolkfoodjpdjaa
namespace Rl
open Go.RowKit Ra
set_option linter.unusedVariables false
theorem sname (nm : ByteArray) (v : Value) (a : Option Addr) (l c : Nat) (w : World) (hv : v = .slice a l c) :
    Calls Try.prog 18 #[.agg #[.string nm, v]] w fun e w' => e = .returned (.string nm) ∧ w' = w.alloc (.cells #[.string nm, v] 37) := by
  subst hv
  go_enter Try.func18, Try.ntmps18
  go_wp2
  go_ret
  exact ⟨rfl, rfl⟩
theorem ename (s t : ByteArray) (w : World) :
    Calls Try.prog 23 #[.agg #[.string s, .string t]] w fun e w' => e = .returned (.string s) ∧ w' = w.alloc (.cells #[.string s, .string t] 31) := by
  go_enter Try.func23, Try.ntmps23
  go_wp2
  go_ret
  exact ⟨rfl, rfl⟩
/-- A place, or -1. -/
def plc : Option Nat → Int
  | some i => i
  | none => -1
theorem str_eq {a b : ByteArray} (h : a = b) : (a.toList == b.toList) = true := by subst h; simp
theorem str_ne {a b : ByteArray} (h : a ≠ b) : (a.toList == b.toList) = false := by
  rw [beq_eq_false_iff_ne]
  intro e
  rw [ByteArray.toList_eq, ByteArray.toList_eq] at e
  exact h (by cases a; cases b; congr 1; exact Array.toList_inj.1 e)
set_option maxHeartbeats 800000 in
set_option maxRecDepth 8000 in
theorem find_any (a : Option Addr) (l c : Nat) (D : Nat → Dt) (s : ByteArray) (w : World) (hl : l ≤ 100000) (hr : SRow w a l D) :
    Calls Try.prog 15 #[.slice a l c, .string s] w fun e w' => e = .returned (.int .i64 (plc (fsti (fun i => (D i).nm) l s))) ∧ w' = w := by
  have HR : Hid (SRow w a l D) := hr
  clear hr
  go_enter Try.func15, Try.ntmps15
  go_wp2
  go_loop [5] (fun i => ∃ k : Nat, k ≤ l ∧ i = .int .i64 k ∧ fsti (fun i => (D i).nm) k s = none) (fun i => l - (intOf i).toNat)
  case atStart => exact ⟨0, Nat.zero_le _, rfl, rfl⟩
  case round =>
    obtain ⟨k, hk, rfl, hn⟩ := hrel
    have HN : Hid (fsti (fun i => (D i).nm) k s = none) := hn
    clear hn
    by_cases hlt : k < l
    · obtain ⟨x, rfl, hx⟩ := HR.out (by omega)
      obtain ⟨c0, _⟩ := hx.2 k hlt
      clear hx
      by_cases he : (D k).nm = s
      · have hq := str_eq he
        have HP : Hid (plc (fsti (fun i => (D i).nm) l s) = (k : Int)) := by
          show plc _ = _
          rw [fsti_up (fsti_here HN.out he) (show k + 1 ≤ l by omega)]; rfl
        generalize (D k).nm = nk at *
        clear he
        go_wp2
        go_ret
        rw [HP.out]
        exact ⟨rfl, rfl⟩
      · have hq := str_ne he
        have HP : Hid (fsti (fun i => (D i).nm) (k + 1) s = none) := fsti_not HN.out he
        generalize (D k).nm = nk at *
        clear he
        go_wp2
        exact ⟨⟨k + 1, by omega, by go_num, HP.out⟩, by simp [intOf]; omega⟩
    · obtain rfl : k = l := by omega
      go_wp2
      go_ret
      rw [HN.out]
      exact ⟨rfl, rfl⟩
set_option maxHeartbeats 800000 in
set_option maxRecDepth 8000 in
theorem has_any (nm : ByteArray) (a : Option Addr) (l c : Nat) (E : Nat → En) (s : ByteArray) (w : World) (hl : l ≤ 100000) (hr : ERow w a l E) :
    Calls Try.prog 16 #[.agg #[.string nm, .slice a l c], .string s] w fun e w' => e = .returned (.int .i64 (plc (fsti (fun i => (E i).1) l s))) ∧ w' = w.alloc (.cells #[.string nm, .slice a l c] 37) := by
  have hB : Below w.heap.size w (w.alloc (.cells #[.string nm, .slice a l c] 37)) := (Below.refl _ _).alloc (Nat.le_refl _) _
  have HR : Hid (ERow (w.alloc (.cells #[.string nm, .slice a l c] 37)) a l E) := hr.on hB
  clear hr hB
  go_enter Try.func16, Try.ntmps16
  go_wp2
  go_loop [5] (fun i => ∃ k : Nat, k ≤ l ∧ i = .int .i64 k ∧ fsti (fun i => (E i).1) k s = none) (fun i => l - (intOf i).toNat)
  case atStart => exact ⟨0, Nat.zero_le _, rfl, rfl⟩
  case round =>
    obtain ⟨k, hk, rfl, hn⟩ := hrel
    have HN : Hid (fsti (fun i => (E i).1) k s = none) := hn
    clear hn
    by_cases hlt : k < l
    · obtain ⟨x, rfl, hx⟩ := HR.out (by omega)
      obtain ⟨c0, c1⟩ := hx.2 k hlt
      clear hx c1
      by_cases he : (E k).1 = s
      · have hq := str_eq he
        have HP : Hid (plc (fsti (fun i => (E i).1) l s) = (k : Int)) := by
          show plc _ = _
          rw [fsti_up (fsti_here HN.out he) (show k + 1 ≤ l by omega)]; rfl
        generalize (E k).1 = nk at *
        clear he
        go_wp2
        go_ret
        rw [HP.out]
        exact ⟨rfl, rfl⟩
      · have hq := str_ne he
        have HP : Hid (fsti (fun i => (E i).1) (k + 1) s = none) := fsti_not HN.out he
        generalize (E k).1 = nk at *
        clear he
        go_wp2
        exact ⟨⟨k + 1, by omega, by go_num, HP.out⟩, by simp [intOf]; omega⟩
    · obtain rfl : k = l := by omega
      go_wp2
      go_ret
      rw [HN.out]
      exact ⟨rfl, rfl⟩
end Rl
end Go.Proofs.Ytcolkfoodjpdjaa
