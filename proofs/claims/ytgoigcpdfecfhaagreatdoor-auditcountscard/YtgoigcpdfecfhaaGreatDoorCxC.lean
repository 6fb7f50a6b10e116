import Derived.Test.YtgoigcpdfecfhaaGreatDoorCxB
import Derived.Test.YtgoigcpdfecfhaaGreatDoorAuU
namespace Go.Proofs.YtgoigcpdfecfhaaGreatDoor
namespace Au
open Go.RowKit
set_option linter.unusedVariables false
set_option maxRecDepth 8000
theorem sz_pos {n : Nat} (h : sz n = 0) : 0 < n := by unfold sz at h; split at h <;> omega
theorem judge34 (n rl rb eb sb sg sn sc Bt Bf g : Nat) (L : List T3) (f s : Int) (S : Nat → Nat → Int) (U0 : Nat → Int) (s0 : 0 ≤ s) (s1 : s < 18446744073709551616) (hn : n < 4294967296) (hsn : sn ≤ 140737488351232) (hr : rl ≤ 5000) (hlen : L.length ≤ 140737488351232) (w : World)
    (hG : GU w rb rl U0) (hU0 : ∀ x, n ≤ x → x < rl → U0 x = 99) (hF : Fd w g Bt Bf L f) (hsb : Boxed w sb 23 (.slice (some ⟨sg, 0, none⟩) sn sc)) (heb : Boxed w eb 28 (.int .u64 s)) (hS : SR w sg sn S) (hT : Tb w)
    (r1 : rb ≠ g) (r2 : rb ≠ Bt) (r3 : rb ≠ Bf) (r4 : rb ≠ sb) (r5 : rb ≠ sg) (r7 : rb ≠ eb) (r8 : 2 ≤ rb) :
    Calls Tryz.prog 31 #[.agg #[.int .u32 (n : Int), .int .i64 0, fe Bt Bf, .slice (some ⟨sg, 0, none⟩) sn sc, .bool false, .int .u32 0, .int .i64 0], .int .i64 (sz n), .slice (some ⟨rb, 0, none⟩) rl rl, .int .i64 1, .func (.func 34) #[] #[.pointer (some ⟨eb, 0, none⟩), .pointer (some ⟨sb, 0, none⟩)]] w fun e w' =>
      ∃ E o, e = .returned (.tuple #[.agg (vx E o), .int .i64 E]) ∧ E = dk (sz n) n sn rl 1 0 L f ∧ (E = 0 → AX n L s S o) ∧ Sp w' rb n rl ∧ Ch (fun k => k = rb) w w' := by
  have hGl := hG.lt
  have hFl := hF.lt
  have hsl := hsb.lt
  have hel := heb.lt
  have hSl := hS.lt
  have hTl := hT.lt
  by_cases hm : ak (sz n) n sn rl 1 = 0
  · obtain ⟨h1, h2, h3⟩ := ak_zero hm
    have hn0 := sz_pos h1
    rw [Nat.one_mul] at h3
    have hB : Below w.heap.size w ((w.alloc (.cells (qc n 0 (fe Bt Bf) (.slice (some ⟨sg, 0, none⟩) sn sc) none) 69)).alloc (.cells z3 35)) := bA (b1 _ _ _) (by simp) _
    have hq : Iq ((w.alloc (.cells (qc n 0 (fe Bt Bf) (.slice (some ⟨sg, 0, none⟩) sn sc) none) 69)).alloc (.cells z3 35)) w.heap.size n 0 (fe Bt Bf) (.slice (some ⟨sg, 0, none⟩) sn sc) none := keep _ (at0 _ _)
    have hl := look34 n rl rb eb sb sg sn sc w.heap.size Bt Bf g L f s S U0 (by omega) h3 hn0 (by omega) s0 s1 hlen _ hq ⟨U0, hG.on hB, fun _ _ => rfl, hU0⟩ (hF.on (X := fun _ => False) (Ch.of hB) (fun h => h) (fun h => h) (fun h => h)) ((hB.block sb hsl).trans hsb) ((hB.block eb hel).trans heb) (hS.on (X := fun _ => False) (Ch.of hB) (fun h => h)) (hT.b hB) r1 r2 r3 r4 r5 (by omega) r7 r8 (by omega) (by omega) (by omega) (by omega)
    have hj := judge_ok n 1 rl sn sc 34 rb Bt Bf (sz n) 0 (some ⟨sg, 0, none⟩) #[.pointer (some ⟨eb, 0, none⟩), .pointer (some ⟨sb, 0, none⟩)] (fun k => k = rb ∨ k = w.heap.size) (RX n rl rb L f s S) (by omega) hn hsn hr hm w entersX34 (by omega)
      (fun E o W W' h hk => ⟨h.1, h.2.1, by obtain ⟨P, hh⟩ := h.2.2; exact ⟨P, hh.of (hk rb hGl)⟩⟩) (by rw [Nat.one_mul]; exact hl)
    refine hj.mono ?_
    rintro e w' ⟨E, o, rfl, ⟨a, b, P, hP⟩, hC⟩
    refine ⟨E, o, rfl, by rw [dk_eq hm]; exact a, b, hP.sp, hC.mono (fun k hk h => by rcases h with h | h; exact h; omega)⟩
  · refine (judge_bad n 1 rl sn sc 34 rb Bt Bf (sz n) 0 (some ⟨sg, 0, none⟩) #[.pointer (some ⟨eb, 0, none⟩), .pointer (some ⟨sb, 0, none⟩)] (by omega) hn hsn hr hm w).mono ?_
    rintro e w' ⟨rfl, hB⟩
    refine ⟨_, none, by unfold vx; rw [if_neg hm], (dk_ne hm).symm, fun h => absurd h hm, ⟨U0, hG.on hB, hU0⟩, Ch.of hB⟩
theorem issize_any (n : Nat) (w : World) : Calls Tryz.prog 93 #[.int .u32 (n : Int)] w fun e w' => e = .returned (.bool (sz n == 0)) ∧ w' = w := by
  by_cases c1 : 1 ≤ n
  · by_cases c2 : n ≤ 2147483647
    · have hz : Hid ((sz n == 0) = true) := by show _ = _; unfold sz; rw [if_neg (by omega)]; rfl
      go_enter Tryz.func93, Tryz.ntmps93
      go_wp2
      all_goals go_ret
      all_goals exact ⟨ret_bool (by first | exact hz.out.symm | (rw [hz.out]; simp; omega)), rfl⟩
    · have hz : Hid ((sz n == 0) = false) := by show _ = _; unfold sz; rw [if_pos (by omega)]; rfl
      go_enter Tryz.func93, Tryz.ntmps93
      go_wp2
      all_goals go_ret
      all_goals exact ⟨ret_bool (by first | exact hz.out.symm | (rw [hz.out]; simp; omega)), rfl⟩
  · have hz : Hid ((sz n == 0) = false) := by show _ = _; unfold sz; rw [if_pos (by omega)]; rfl
    go_enter Tryz.func93, Tryz.ntmps93
    go_wp2
    all_goals go_ret
    all_goals exact ⟨ret_bool (by first | exact hz.out.symm | (rw [hz.out]; simp; omega)), rfl⟩
theorem sz_cases (n : Nat) : (sz n = 0 ∧ (sz n == 0) = true) ∨ (sz n = 2 ∧ (sz n == 0) = false) := by
  unfold sz
  split
  · exact .inr ⟨rfl, rfl⟩
  · exact .inl ⟨rfl, rfl⟩
theorem cond_any (n : Nat) (s : Int) (w : World) : Calls Tryz.prog 33 #[.int .u32 (n : Int), .int .u64 s] w fun e w' => (∃ p, e = .returned (.tuple #[p, .int .i64 (sz n)])) ∧ Below w.heap.size w w' := by
  have HZ := hide (issize_any n w)
  have HC := hide (sz_cases n)
  generalize sz n = e at *
  go_enter Tryz.func33, Tryz.ntmps33
  go_wp2_with (fail)
  refine HZ.out.mono ?_
  rintro e9 w9 ⟨rfl, hw9⟩
  subst w9
  rcases HC.out with ⟨h1, h2⟩ | ⟨h1, h2⟩
  · rw [h2]
    subst h1
    clear HZ HC h2
    go_wp2
    all_goals go_ret2
    all_goals exact ⟨⟨_, rfl⟩, bA2 (b1 _ _ _) _⟩
  · rw [h2]
    subst h1
    clear HZ HC h2
    go_wp2
    all_goals go_ret2
    all_goals exact ⟨⟨_, rfl⟩, Below.refl _ _⟩
theorem err32 (p : Value) (x : Int) (w : World) : Calls Tryz.prog 32 #[p, .int .i64 x] w fun e w' => e = .returned (.int .i64 x) ∧ w' = w := by
  go_enter Tryz.func32, Tryz.ntmps32
  go_wp2
  go_ret
  exact ⟨rfl, rfl⟩
end Au
end Go.Proofs.YtgoigcpdfecfhaaGreatDoor
