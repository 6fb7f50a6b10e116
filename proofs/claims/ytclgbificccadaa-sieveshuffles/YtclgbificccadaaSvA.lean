import Derived.Test.YtclgbificccadaaRows
import Derived.WalkKit
import Derived.BigQuiet
import Derived.Deep.QuietTactic
import Derived.WalkSmall
import Derived.Handy
namespace Go.Proofs.Ytclgbificccadaa
namespace Sv
open Go.RowKit
set_option linter.unusedVariables false
theorem ret_int {k : IntKind} {a b : Int} (h : a = b) : Ending.returned (.int k a) = .returned (.int k b) := by rw [h]
theorem ret_two {k1 k2 : IntKind} {a b c d : Int} (h : a = c) (h2 : b = d) : Ending.returned (.tuple #[.int k1 a, .int k2 b]) = .returned (.tuple #[.int k1 c, .int k2 d]) := by rw [h, h2]
theorem num_any (x : Int) (w : World) : Calls Try.prog 9 #[.int .i64 x] w fun e w' => e = .returned (.int .i64 x) ∧ w' = w := by
  go_enter Try.func9, Try.ntmps9
  go_wp2
  go_ret
  exact ⟨rfl, rfl⟩
theorem wrap_small (z : Int) (h0 : 0 ≤ z) (h1 : z ≤ 4294967296) : IntKind.i64.wrap z = z := by simp only [IntKind.wrap, IntKind.signed, IntKind.bits]; simp; omega
/-- s stages tell k parts apart, and no fewer do. -/
def Sg (k fan : Int) (s : Nat) : Prop := k ≤ fan ^ s ∧ ∀ t, t < s → fan ^ t < k
theorem Sg.uniq {k fan : Int} {s t : Nat} (h : Sg k fan s) (h' : Sg k fan t) : s = t := by
  rcases Nat.lt_trichotomy s t with a | a | a
  · have := h'.2 s a; have := h.1; omega
  · exact a
  · have := h.2 t a; have := h'.1; omega
theorem pow_ge (fan : Int) (h : 2 ≤ fan) (s : Nat) : (s : Int) + 1 ≤ fan ^ s := by
  induction s with
  | zero => simp
  | succ s ih =>
    rw [Int.pow_succ]
    have : (s + 1 : Int) * 2 ≤ fan ^ s * fan := Int.mul_le_mul ih h (by omega) (by omega)
    omega
/-- The loop's state: s rounds done. -/
def Lp (k fan : Int) (x y : Int) : Prop := ∃ s : Nat, x = s ∧ y = fan ^ s ∧ ∀ t, t < s → fan ^ t < k
theorem Lp.zero (k fan : Int) : Lp k fan 0 1 := ⟨0, rfl, by simp, fun t h => by omega⟩
theorem Lp.bound {k fan x y : Int} (h : Lp k fan x y) (hk : k ≤ 512) (hf : 2 ≤ fan) (hf2 : fan ≤ 256) : 0 ≤ x ∧ x ≤ 512 ∧ x + 1 ≤ y ∧ y ≤ 131072 := by
  obtain ⟨s, rfl, rfl, h⟩ := h
  have h1 := pow_ge fan hf s
  cases s with
  | zero => simp
  | succ s =>
    have h2 := h s (by omega)
    have h3 := pow_ge fan hf s
    have h4 : fan ^ s * fan ≤ 512 * 256 := Int.mul_le_mul (by omega) hf2 (by omega) (by omega)
    rw [Int.pow_succ] at h1 ⊢
    push_cast
    push_cast at h1
    omega
theorem Lp.next {k fan x y : Int} (h : Lp k fan x y) (hy : y < k) : Lp k fan (x + 1) (y * fan) := by
  obtain ⟨s, rfl, rfl, h⟩ := h
  refine ⟨s + 1, by push_cast; rfl, by rw [Int.pow_succ], fun t ht => ?_⟩
  by_cases e : t < s
  · exact h t e
  · rw [show t = s by omega]; exact hy
theorem Lp.done {k fan x y : Int} (h : Lp k fan x y) (hy : ¬ y < k) : ∃ s : Nat, x = s ∧ Sg k fan s := by
  obtain ⟨s, rfl, rfl, h⟩ := h
  exact ⟨s, rfl, by omega, h⟩
/-- What Stages answers. -/
def St (k fan : Int) (e : Ending) : Prop :=
  ((k < 1 ∨ 512 < k) ∧ e = .returned (.tuple #[.int .i64 0, .int .i64 90])) ∨
  (1 ≤ k ∧ k ≤ 512 ∧ (fan < 2 ∨ 256 < fan) ∧ e = .returned (.tuple #[.int .i64 0, .int .i64 92])) ∨
  (1 ≤ k ∧ k ≤ 512 ∧ 2 ≤ fan ∧ fan ≤ 256 ∧ ∃ s : Nat, s ≤ 512 ∧ Sg k fan s ∧ e = .returned (.tuple #[.int .i64 s, .int .i64 0]))
theorem St.same {k fan : Int} {e f : Ending} (h : St k fan e) (h' : St k fan f) : e = f := by
  rcases h with ⟨a, rfl⟩ | ⟨a, b, c, rfl⟩ | ⟨a, b, c, d, s, _, hs, rfl⟩ <;> rcases h' with ⟨a', rfl⟩ | ⟨a', b', c', rfl⟩ | ⟨a', b', c', d', s', _, hs', rfl⟩ <;> first | rfl | omega | (rw [hs.uniq hs'])
set_option maxHeartbeats 1000000 in
theorem stages_any (k fan : Int) (w : World) : Calls Try.prog 10 #[.int .i64 k, .int .i64 fan] w fun e w' => St k fan e ∧ w' = w := by
  by_cases h1 : k < 1
  · go_enter Try.func10, Try.ntmps10
    go_wp2
    go_ret2
    exact ⟨.inl ⟨.inl h1, rfl⟩, rfl⟩
  by_cases h2 : 512 < k
  · go_enter Try.func10, Try.ntmps10
    go_wp2
    go_ret2
    exact ⟨.inl ⟨.inr h2, rfl⟩, rfl⟩
  by_cases h3 : fan < 2
  · go_enter Try.func10, Try.ntmps10
    go_wp2
    go_ret2
    exact ⟨.inr (.inl ⟨by omega, by omega, .inl h3, rfl⟩), rfl⟩
  by_cases h4 : 256 < fan
  · go_enter Try.func10, Try.ntmps10
    go_wp2
    go_ret2
    exact ⟨.inr (.inl ⟨by omega, by omega, .inr h4, rfl⟩), rfl⟩
  go_enter Try.func10, Try.ntmps10
  go_wp2
  go_loop [6, 7] (fun vx vy => ∃ x y : Int, vx = .int .i64 x ∧ vy = .int .i64 y ∧ Lp k fan x y) (fun _ vy => (k - intOf vy).toNat)
  case atStart => exact ⟨0, 1, rfl, rfl, Lp.zero k fan⟩
  case round =>
    obtain ⟨x, y, rfl, rfl, hL⟩ := hrel
    have hb := hL.bound (by omega) (by omega) (by omega)
    by_cases hy : y < k
    · have hn := hL.next hy
      have hbn := hn.bound (by omega) (by omega) (by omega)
      have hw : IntKind.i64.wrap (y * fan) = y * fan := wrap_small _ (by omega) (by omega)
      have hgt : y < y * fan := by
        have : y * 2 ≤ y * fan := Int.mul_le_mul_of_nonneg_left (by omega) (by omega)
        omega
      go_wp2
      exact ⟨⟨x + 1, y * fan, by go_num, by first | rfl | rw [hw], hn⟩, by simp [intOf]; omega⟩
    · obtain ⟨s, rfl, hs⟩ := hL.done hy
      go_wp2
      go_ret2
      exact ⟨.inr (.inr ⟨by omega, by omega, by omega, by omega, s, by omega, hs, rfl⟩), rfl⟩
set_option maxHeartbeats 1000000 in
theorem rstages_any (k fan : Int) (w : World) : Calls Try.prog 11 #[.int .i64 k, .int .i64 fan] w fun e w' => St k fan e ∧ w' = w := by
  by_cases h1 : k < 1
  · go_enter Try.func11, Try.ntmps11
    go_wp2
    go_ret2
    exact ⟨.inl ⟨.inl h1, rfl⟩, rfl⟩
  by_cases h2 : 512 < k
  · go_enter Try.func11, Try.ntmps11
    go_wp2
    go_ret2
    exact ⟨.inl ⟨.inr h2, rfl⟩, rfl⟩
  by_cases h3 : fan < 2
  · go_enter Try.func11, Try.ntmps11
    go_wp2
    go_ret2
    exact ⟨.inr (.inl ⟨by omega, by omega, .inl h3, rfl⟩), rfl⟩
  by_cases h4 : 256 < fan
  · go_enter Try.func11, Try.ntmps11
    go_wp2
    go_ret2
    exact ⟨.inr (.inl ⟨by omega, by omega, .inr h4, rfl⟩), rfl⟩
  go_enter Try.func11, Try.ntmps11
  go_wp2
  go_loop [6, 7] (fun vx vy => ∃ x y : Int, vx = .int .i64 x ∧ vy = .int .i64 y ∧ Lp k fan x y) (fun _ vy => (k - intOf vy).toNat)
  case atStart => exact ⟨0, 1, rfl, rfl, Lp.zero k fan⟩
  case round =>
    obtain ⟨x, y, rfl, rfl, hL⟩ := hrel
    have hb := hL.bound (by omega) (by omega) (by omega)
    by_cases hy : y < k
    · have hn := hL.next hy
      have hbn := hn.bound (by omega) (by omega) (by omega)
      have hw : IntKind.i64.wrap (y * fan) = y * fan := wrap_small _ (by omega) (by omega)
      have hgt : y < y * fan := by
        have : y * 2 ≤ y * fan := Int.mul_le_mul_of_nonneg_left (by omega) (by omega)
        omega
      go_wp2
      exact ⟨⟨x + 1, y * fan, by go_num, by first | rfl | rw [hw], hn⟩, by simp [intOf]; omega⟩
    · obtain ⟨s, rfl, hs⟩ := hL.done hy
      go_wp2
      go_ret2
      exact ⟨.inr (.inr ⟨by omega, by omega, by omega, by omega, s, by omega, hs, rfl⟩), rfl⟩
end Sv
end Go.Proofs.Ytclgbificccadaa
