import Derived.Test.YtiljdiagabepbaaGreatDoorNlF
import Derived.BigQuiet
import Derived.Deep.QuietTactic
namespace Go.Proofs.YtiljdiagabepbaaGreatDoor
namespace Nl
open Go.RowKit
set_option linter.unusedVariables false
theorem below_drewN {B : Nat} {w w' : World} (h : Below B w w') (n : Nat) : Below B w (w'.drewN n) := by
  induction n with
  | zero => exact h
  | succ n ih => exact h.trans ⟨rfl, rfl, rfl, Nat.le_refl _, fun _ _ => rfl⟩
set_option maxHeartbeats 1600000 in
set_option maxRecDepth 8000 in
theorem same_any (e : Int) (n : Nat) (a1 a2 : Option Addr) (c1 c2 : Nat) (w : World) (hn : n ≤ 9223372036854775807)
    (hc : 0 < n → ∃ g1 g2, a1 = some ⟨g1, 0, none⟩ ∧ a2 = some ⟨g2, 0, none⟩ ∧ g1 < w.heap.size ∧ g2 < w.heap.size ∧ ∀ i, i < n → ∃ x, w.cell? ⟨g1, i, none⟩ = some (.int .i64 x) ∧ w.cell? ⟨g2, i, none⟩ = some (.int .i64 x)) :
    Calls Tryz.prog 12 #[.agg #[.int .i64 e, .slice a1 n c1, .slice none 0 0, .slice none 0 0, .slice none 0 0], .agg #[.int .i64 e, .slice a2 n c2, .slice none 0 0, .slice none 0 0, .slice none 0 0]] w fun e' w' => e' = .returned (.bool true) ∧ Below w.heap.size w w' := by
  have HC : Hid (0 < n → ∃ g1 g2, a1 = some ⟨g1, 0, none⟩ ∧ a2 = some ⟨g2, 0, none⟩ ∧ g1 < w.heap.size ∧ g2 < w.heap.size ∧ ∀ i, i < n → ∃ x, w.cell? ⟨g1, i, none⟩ = some (.int .i64 x) ∧ w.cell? ⟨g2, i, none⟩ = some (.int .i64 x)) := hc
  clear hc
  obtain ⟨v, hv, hb, d1, d2⟩ : ∃ v, (w.alloc (.cells #[.int .i64 e, .slice a1 n c1, .slice none 0 0, .slice none 0 0, .slice none 0 0] 45)).alloc (.cells #[.int .i64 e, .slice a2 n c2, .slice none 0 0, .slice none 0 0, .slice none 0 0] 45) = v ∧ Below w.heap.size w v ∧
      (∀ i x, (#[Value.int .i64 e, .slice a1 n c1, .slice none 0 0, .slice none 0 0, .slice none 0 0])[i]? = some x → v.cell? ⟨w.heap.size, i, none⟩ = some x) ∧ (∀ i x, (#[Value.int .i64 e, .slice a2 n c2, .slice none 0 0, .slice none 0 0, .slice none 0 0])[i]? = some x → v.cell? ⟨w.heap.size + 1, i, none⟩ = some x) := by
    refine ⟨_, rfl, b2 _ _ _, fun i x h => ?_, fun i x h => cell_new _ _ _ _ _ _ (by simp) h⟩
    have h1 := cell_new w w.heap.size _ 45 i x rfl h
    exact ((b1 (w.alloc _) _).cell (p := ⟨w.heap.size, i, none⟩) (by simp)).trans h1
  have x0 := d1 0 _ rfl
  have x1 := d1 1 _ rfl
  have x2 := d1 2 _ rfl
  have x3 := d1 3 _ rfl
  have x4 := d1 4 _ rfl
  have y0 := d2 0 _ rfl
  have y1 := d2 1 _ rfl
  have y2 := d2 2 _ rfl
  have y3 := d2 3 _ rfl
  have y4 := d2 4 _ rfl
  have HB : Hid (Below w.heap.size w v) := hb
  clear d1 d2 hb
  go_enter Tryz.func12, Tryz.ntmps12
  go_wp2
  go_loopw [5] (fun i wr => ∃ j : Nat, j ≤ n ∧ i = .int .i64 j ∧ ∃ m, wr = v.drewN m) (fun i _ => n - (intOf i).toNat)
  case atStart => exact ⟨0, Nat.zero_le _, rfl, 0, rfl⟩
  case round =>
    obtain ⟨j, hj, rfl, m, rfl⟩ := hrel
    by_cases hlt : j < n
    · obtain ⟨g1, g2, rfl, rfl, l1, l2, hx⟩ := HC.out (by omega)
      obtain ⟨x, k1, k2⟩ := hx j hlt
      have k1' := (HB.out.cell (p := ⟨g1, j, none⟩) l1).trans k1
      have k2' := (HB.out.cell (p := ⟨g2, j, none⟩) l2).trans k2
      clear hx k1 k2 x0 x2 x3 x4 y0 y2 y3 y4 hv
      go_wp2
      go_quiet (fail)
      go_wp2
      exact ⟨⟨j + 1, by omega, by go_num, _, rfl⟩, by simp [intOf]; omega⟩
    · obtain rfl : j = n := by omega
      clear HC hv
      go_wp2
      go_loopw [6] (fun i wr => i = .int .i64 0 ∧ wr = v.drewN m) (fun i _ => 0)
      case atStart => exact ⟨rfl, rfl⟩
      case round =>
        obtain ⟨rfl, rfl⟩ := hrel
        go_wp2
        go_loopw [7] (fun i wr => i = .int .i64 0 ∧ wr = v.drewN m) (fun i _ => 0)
        case atStart => exact ⟨rfl, rfl⟩
        case round =>
          obtain ⟨rfl, rfl⟩ := hrel
          go_wp2
          go_loopw [8] (fun i wr => i = .int .i64 0 ∧ wr = v.drewN m) (fun i _ => 0)
          case atStart => exact ⟨rfl, rfl⟩
          case round =>
            obtain ⟨rfl, rfl⟩ := hrel
            go_wp2
            go_ret
            exact ⟨rfl, below_drewN HB.out m⟩
/-- Two answers with one error and the same numbers. -/
theorem same_ans (e : Int) (ns : List Int) (a b : Value) (w : World) (w1 w2 : World) (ha : AnsQ w1 w e ns a) (hb : AnsQ w2 w e ns b) (hl : ns.length ≤ 9223372036854775807) :
    Calls Tryz.prog 12 #[a, b] w fun e' w' => e' = .returned (.bool true) ∧ Below w.heap.size w w' := by
  obtain ⟨s1, rfl, h1, _⟩ := ha
  obtain ⟨s2, rfl, h2, _⟩ := hb
  rcases h1 with ⟨hz, rfl⟩ | ⟨h0, g1, c1, rfl, hc1⟩
  · rcases h2 with ⟨_, rfl⟩ | ⟨h0, _⟩
    · exact same_any e 0 none none 0 0 w (by omega) (fun h => by omega)
    · rw [hz] at h0; exact absurd h0 (by decide)
  · rcases h2 with ⟨hz, _⟩ | ⟨_, g2, c2, rfl, hc2⟩
    · rw [hz] at h0; exact absurd h0 (by decide)
    · exact same_any e ns.length _ _ c1 c2 w hl (fun _ => ⟨g1, g2, rfl, rfl, World.block_lt_of_cell? w _ (hc1 0 h0), World.block_lt_of_cell? w _ (hc2 0 h0), fun i hi => ⟨_, hc1 i hi, hc2 i hi⟩⟩)
end Nl
end Go.Proofs.YtiljdiagabepbaaGreatDoor
