import Derived.Test.YtiljdiagabepbaaGreatDoorNlF
import Derived.Maps.AppendAt
import Derived.WalkSmall
import Derived.Handy
import Derived.DataElems
namespace Go.Proofs.YtiljdiagabepbaaGreatDoor
namespace Nl
open Go.RowKit
set_option linter.unusedVariables false
/-- A list of numbers that came in. -/
def KRow (w : World) (a : Option Addr) (l : Nat) : Prop := l ≤ 17592186043904 ∧ (0 < l → ∃ x : Addr, a = some x ∧ x.block < w.heap.size ∧ ∀ i, i < l → ∃ z : Int, w.cell? (x.add i) = some (.int .i64 z))
/-- A list of faults that came in. -/
def FRow (w : World) (a : Option Addr) (l : Nat) : Prop := l ≤ 5864062014634 ∧ (0 < l → ∃ x : Addr, a = some x ∧ x.block < w.heap.size ∧ ∀ i, i < l → ∃ z0 z1 z2 : Int, w.cell? (x.add (i * 3)) = some (.int .i64 z0) ∧ w.cell? (x.add (i * 3 + 1)) = some (.int .i64 z1) ∧ w.cell? (x.add (i * 3 + 2)) = some (.int .i64 z2))
theorem add_block (x : Addr) (i : Nat) : (x.add i).block = x.block := by unfold Addr.add; split <;> rfl
theorem KRow.on {w w' : World} {a : Option Addr} {l : Nat} (h : KRow w a l) (hb : Below w.heap.size w w') : KRow w' a l := by
  refine ⟨h.1, fun h0 => ?_⟩
  obtain ⟨x, rfl, hx, hc⟩ := h.2 h0
  refine ⟨x, rfl, Nat.lt_of_lt_of_le hx hb.size, fun i hi => ?_⟩
  obtain ⟨z, hz⟩ := hc i hi
  exact ⟨z, (hb.cell (p := x.add i) (by rw [add_block]; exact hx)).trans hz⟩
theorem FRow.on {w w' : World} {a : Option Addr} {l : Nat} (h : FRow w a l) (hb : Below w.heap.size w w') : FRow w' a l := by
  refine ⟨h.1, fun h0 => ?_⟩
  obtain ⟨x, rfl, hx, hc⟩ := h.2 h0
  refine ⟨x, rfl, Nat.lt_of_lt_of_le hx hb.size, fun i hi => ?_⟩
  obtain ⟨z0, z1, z2, c0, c1, c2⟩ := hc i hi
  exact ⟨z0, z1, z2, (hb.cell (p := x.add (i * 3)) (by rw [add_block]; exact hx)).trans c0, (hb.cell (p := x.add (i * 3 + 1)) (by rw [add_block]; exact hx)).trans c1, (hb.cell (p := x.add (i * 3 + 2)) (by rw [add_block]; exact hx)).trans c2⟩
theorem infoF : (Tryz.prog.info? 64).map (fun i => (i.zero, i.size, i.bytes)) = some (some (.agg #[.int .i64 0, .int .i64 0, .int .i64 0]), 3, 24) := by kernel_rfl
theorem info2 : (Tryz.prog.info? 2).map (fun i => (i.zero, i.size, i.bytes)) = some (some (.int .i64 0), 1, 8) := by kernel_rfl
theorem grown_own {B k n : Nat} {e : TypeId} {xs : List Value} {w wr w1 : World} {u : Value} {o : Obj} (hB : B ≤ wr.heap.size)
    (hown : wr.ownsRow B e n u k xs) (hnx : Below B w wr) (hgrow : (wr.alloc o).grownBy w1 u.ownBlock) : Below B w w1 :=
  (hnx.alloc (by omega) o).grown hgrow (by simp; omega) (fun j hj => (hown.lt j hj).1)
set_option maxHeartbeats 1600000 in
set_option maxRecDepth 8000 in
theorem plan_any (a : Option Addr) (l c : Nat) (w : World) (hr : FRow w a l) :
    Calls Tryz.prog 58 #[.slice a l c] w fun e w' => ∃ v xs, e = .returned v ∧ w'.ownsRow w.heap.size 64 3 v l xs ∧ Below w.heap.size w w' := by
  obtain ⟨i0, hi, hz0, hz1, hz2⟩ : ∃ i0, Tryz.prog.info? 64 = some i0 ∧ i0.zero = some (.agg #[.int .i64 0, .int .i64 0, .int .i64 0]) ∧ i0.size = 3 ∧ i0.bytes = 24 := by
    have h := infoF
    cases hh : Tryz.prog.info? 64 with
    | none => rw [hh] at h; cases h
    | some i => rw [hh] at h; simp at h; exact ⟨i, rfl, h.1, h.2.1, h.2.2⟩
  have HR : Hid (FRow w a l) := hr
  have hl := hr.1
  clear hr
  go_enter Tryz.func58, Tryz.ntmps58
  go_wp2
  go_loopw [3, 4] (fun v i wr => ∃ (k : Nat) (xs : List Value), k ≤ l ∧ i = .int .i64 k ∧ wr.ownsRow w.heap.size 64 3 v k xs ∧ Below w.heap.size w wr) (fun _ i _ => l - (intOf i).toNat)
  case atStart => exact ⟨0, [], Nat.zero_le _, rfl, World.ownsRow_nil _ _ _ _, Below.refl _ _⟩
  case round =>
    obtain ⟨k, xs, hk, rfl, hown, hnx⟩ := hrel
    have hsz := hnx.size
    by_cases hlt : k < l
    · obtain ⟨x, rfl, hx, hc⟩ := (HR.out.on (hnx)).2 (by omega)
      obtain ⟨z0, z1, z2, c0, c1, c2⟩ := hc k hlt
      clear hc
      rw [← Addr.add_add] at c1 c2
      replace c1 : wr.cell? ⟨(x.add (k * 3)).block, (x.add (k * 3)).off + 1, none⟩ = some (.int .i64 z1) := c1
      replace c2 : wr.cell? ⟨(x.add (k * 3)).block, (x.add (k * 3)).off + 2, none⟩ = some (.int .i64 z2) := c2
      go_wp2_with (at_builtin; refine wpList_append_own _ rfl _ _ 36 rfl w.heap.size 64 i0 (.agg #[.int .i64 0, .int .i64 0, .int .i64 0]) 3 24 Tryz.underlying36 hi hz0 hz1 hz2 rfl (by decide) _ _ _ rfl (hown.alloc _) ⟨wr.heap.size, 0, none⟩ 1 1 [.int .i64 z0, .int .i64 z1, .int .i64 z2] rfl rfl ?c1 ?c2 ?c3 ?c4 ?c5 ?_)
      case c1 =>
        intro j u hj
        match j, hj with
        | 0, hj => simp at hj; subst hj; exact cell_new _ _ _ _ _ _ rfl rfl
        | 1, hj => simp at hj; subst hj; exact cell_new _ _ _ _ _ _ rfl rfl
        | 2, hj => simp at hj; subst hj; exact cell_new _ _ _ _ _ _ rfl rfl
      case c2 => intro u hu; simp at hu; rcases hu with rfl | rfl | rfl <;> rfl
      case c3 => unfold maxLen; omega
      case c4 => omega
      case c5 => simp; omega
      · intro v' w1 hown' hgrow _
        have hb1 := grown_own hsz hown hnx hgrow
        clear hgrow hown hnx c0 c1 c2
        go_wp2
        exact ⟨⟨k + 1, _, by omega, by go_num, hown', hb1⟩, by simp [intOf]; omega⟩
    · obtain rfl : k = l := by omega
      go_wp2
      go_ret
      exact ⟨_, _, rfl, hown, hnx⟩
end Nl
end Go.Proofs.YtiljdiagabepbaaGreatDoor
