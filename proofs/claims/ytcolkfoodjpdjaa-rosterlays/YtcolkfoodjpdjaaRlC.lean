import Derived.Test.YtcolkfoodjpdjaaRlB
namespace Go.Proofs.Ytcolkfoodjpdjaa
namespace Rl
open Go.RowKit Ra
set_option linter.unusedVariables false
theorem got_some (i : Nat) : got (some i) = .tuple #[.int .i64 (i : Int), .bool true] := rfl
theorem got_none : got none = .tuple #[.int .i64 0, .bool false] := rfl
set_option maxHeartbeats 1600000 in
set_option maxRecDepth 8000 in
theorem firsts_sec (a : Option Addr) (l c : Nat) (D : Nat → Dt) (w : World) (hl : l ≤ 100000) (hbd : ∀ i, i < l → (D i).nm.size ≤ 140737488351232) (hr : SRow w a l D) :
    Calls Try.prog 17 #[.slice a l c, .func (.func 18) #[] #[]] w fun e w' => e = .returned (.map (some w.heap.size)) ∧ MP w' w.heap.size (fun i => (D i).nm) l ∧ Below w.heap.size w w' := by
  have HR : Hid (SRow w a l D) := hr
  have hmm := @run_makeMap Try.prog
  clear hr
  go_enter Try.func17, Try.ntmps17
  go_wp2
  clear hmm
  go_loopw [13] (fun i wr => ∃ k : Nat, k ≤ l ∧ i = .int .i64 k ∧ MP wr w.heap.size (fun i => (D i).nm) k ∧ Below w.heap.size w wr) (fun i _ => l - (intOf i).toNat)
  case atStart => exact ⟨0, Nat.zero_le _, rfl, MP.made w _, (Below.refl _ _).alloc (Nat.le_refl _) _⟩
  case round =>
    obtain ⟨k, hk, rfl, hM, hB⟩ := hrel
    by_cases hlt : k < l
    · obtain ⟨x, rfl, hx⟩ := HR.out (by omega)
      obtain ⟨p0, a1, c1, p1, _, _⟩ := (hx.on hB).2 k hlt
      obtain ⟨P0, P1⟩ := cells2 ⟨p0, p1⟩
      have hsz := hB.size
      have hbk := hbd k hlt
      clear hx p0 p1
      cases hf : fsti (fun i => (D i).nm) k (D k).nm with
      | some i =>
        have hL := (((hM.alloc (.cells #[.string (D k).nm, .slice a1 (D k).l c1] 37)).alloc (.cells #[.string (D k).nm, .slice a1 (D k).l c1] 37))).look (D k).nm hbk
        rw [hf, got_some] at hL
        have HM : Hid (MP ((wr.alloc (.cells #[.string (D k).nm, .slice a1 (D k).l c1] 37)).alloc (.cells #[.string (D k).nm, .slice a1 (D k).l c1] 37)) w.heap.size (fun i => (D i).nm) (k + 1)) := ((hM.alloc _).alloc _).same hf
        have HB : Hid (Below w.heap.size w ((wr.alloc (.cells #[.string (D k).nm, .slice a1 (D k).l c1] 37)).alloc (.cells #[.string (D k).nm, .slice a1 (D k).l c1] 37))) := (hB.alloc hsz _).alloc (by simp; omega) _
        clear hM hB hf
        generalize (D k).nm = nm at *
        generalize (D k).l = lk at *
        go_wp2_with (go_at_call 18; refine (sname nm (.slice a1 lk c1) a1 lk c1 _ rfl).mono ?_; rintro e5 w5 ⟨rfl, h5⟩; subst w5)
        exact ⟨⟨k + 1, by omega, by go_num, HM.out, HB.out⟩, by simp [intOf]; omega⟩
      | none =>
        have hL := (((hM.alloc (.cells #[.string (D k).nm, .slice a1 (D k).l c1] 37)).alloc (.cells #[.string (D k).nm, .slice a1 (D k).l c1] 37))).look (D k).nm hbk
        rw [hf, got_none] at hL
        obtain ⟨W9, hS, hM9, hg9⟩ := ((((hM.alloc (.cells #[.string (D k).nm, .slice a1 (D k).l c1] 37)).alloc (.cells #[.string (D k).nm, .slice a1 (D k).l c1] 37)).alloc (.cells #[.string (D k).nm, .slice a1 (D k).l c1] 37))).store (by omega) hf hbk
        have HM : Hid (MP W9 w.heap.size (fun i => (D i).nm) (k + 1)) := hM9
        have HB : Hid (Below w.heap.size w W9) := (((hB.alloc hsz _).alloc (by simp; omega) _).alloc (by simp; omega) _).grown hg9 (by simp; omega) (fun j hj => by cases hj; exact Nat.le_refl _)
        clear hM hB hf hM9 hg9
        generalize (D k).nm = nm at *
        generalize (D k).l = lk at *
        go_wp2_with (go_at_call 18; refine (sname nm (.slice a1 lk c1) a1 lk c1 _ rfl).mono ?_; rintro e5 w5 ⟨rfl, h5⟩; subst w5)
        exact ⟨⟨k + 1, by omega, by go_num, HM.out, HB.out⟩, by simp [intOf]; omega⟩
    · obtain rfl : k = l := by omega
      go_wp2
      go_ret
      exact ⟨rfl, hM, hB⟩
set_option maxHeartbeats 1600000 in
set_option maxRecDepth 8000 in
theorem firsts_ent (a : Option Addr) (l c : Nat) (E : Nat → En) (w : World) (hl : l ≤ 100000) (hbd : ∀ i, i < l → (E i).1.size ≤ 140737488351232) (hr : ERow w a l E) :
    Calls Try.prog 22 #[.slice a l c, .func (.func 23) #[] #[]] w fun e w' => e = .returned (.map (some w.heap.size)) ∧ MP w' w.heap.size (fun i => (E i).1) l ∧ Below w.heap.size w w' := by
  have HR : Hid (ERow w a l E) := hr
  have hmm := @run_makeMap Try.prog
  clear hr
  go_enter Try.func22, Try.ntmps22
  go_wp2
  clear hmm
  go_loopw [13] (fun i wr => ∃ k : Nat, k ≤ l ∧ i = .int .i64 k ∧ MP wr w.heap.size (fun i => (E i).1) k ∧ Below w.heap.size w wr) (fun i _ => l - (intOf i).toNat)
  case atStart => exact ⟨0, Nat.zero_le _, rfl, MP.made w _, (Below.refl _ _).alloc (Nat.le_refl _) _⟩
  case round =>
    obtain ⟨k, hk, rfl, hM, hB⟩ := hrel
    by_cases hlt : k < l
    · obtain ⟨x, rfl, hx⟩ := HR.out (by omega)
      obtain ⟨P0, P1⟩ := cells2 ((hx.on hB).2 k hlt)
      have hsz := hB.size
      have hbk := hbd k hlt
      clear hx
      cases hf : fsti (fun i => (E i).1) k (E k).1 with
      | some i =>
        have hL := (((hM.alloc (.cells #[.string (E k).1, .string (E k).2] 31)).alloc (.cells #[.string (E k).1, .string (E k).2] 31))).look (E k).1 hbk
        rw [hf, got_some] at hL
        have HM : Hid (MP ((wr.alloc (.cells #[.string (E k).1, .string (E k).2] 31)).alloc (.cells #[.string (E k).1, .string (E k).2] 31)) w.heap.size (fun i => (E i).1) (k + 1)) := ((hM.alloc _).alloc _).same hf
        have HB : Hid (Below w.heap.size w ((wr.alloc (.cells #[.string (E k).1, .string (E k).2] 31)).alloc (.cells #[.string (E k).1, .string (E k).2] 31))) := (hB.alloc hsz _).alloc (by simp; omega) _
        clear hM hB hf
        generalize (E k).1 = nm at *
        generalize (E k).2 = vk at *
        go_wp2_with (go_at_call 23; refine (ename nm vk _).mono ?_; rintro e5 w5 ⟨rfl, h5⟩; subst w5)
        exact ⟨⟨k + 1, by omega, by go_num, HM.out, HB.out⟩, by simp [intOf]; omega⟩
      | none =>
        have hL := (((hM.alloc (.cells #[.string (E k).1, .string (E k).2] 31)).alloc (.cells #[.string (E k).1, .string (E k).2] 31))).look (E k).1 hbk
        rw [hf, got_none] at hL
        obtain ⟨W9, hS, hM9, hg9⟩ := ((((hM.alloc (.cells #[.string (E k).1, .string (E k).2] 31)).alloc (.cells #[.string (E k).1, .string (E k).2] 31)).alloc (.cells #[.string (E k).1, .string (E k).2] 31))).store (by omega) hf hbk
        have HM : Hid (MP W9 w.heap.size (fun i => (E i).1) (k + 1)) := hM9
        have HB : Hid (Below w.heap.size w W9) := (((hB.alloc hsz _).alloc (by simp; omega) _).alloc (by simp; omega) _).grown hg9 (by simp; omega) (fun j hj => by cases hj; exact Nat.le_refl _)
        clear hM hB hf hM9 hg9
        generalize (E k).1 = nm at *
        generalize (E k).2 = vk at *
        go_wp2_with (go_at_call 23; refine (ename nm vk _).mono ?_; rintro e5 w5 ⟨rfl, h5⟩; subst w5)
        exact ⟨⟨k + 1, by omega, by go_num, HM.out, HB.out⟩, by simp [intOf]; omega⟩
    · obtain rfl : k = l := by omega
      go_wp2
      go_ret
      exact ⟨rfl, hM, hB⟩
end Rl
end Go.Proofs.Ytcolkfoodjpdjaa
