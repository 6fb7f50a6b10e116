import Derived.Test.YtiljdiagabepbaaDoorPbU
import Derived.Maps.OwnSet
import Derived.Maps.Ext
import Derived.Sort.KeysCollected
namespace Go.Proofs.YtiljdiagabepbaaDoor
namespace Pq
open Go.RowKit Pb
set_option linter.unusedVariables false
/-- The name that the law begins with. -/
def a0 : ByteArray := ⟨#[97, 48]⟩
def Nm (s : ByteArray) (v : Value) : Prop := (v = .bool false ∧ s ≠ a0) ∨ (v = .bool true ∧ 1 ≤ s.size ∧ s.size ≤ 48)
set_option maxHeartbeats 800000 in
set_option maxRecDepth 8000 in
theorem isName_a (w : World) : Calls Tryd.prog 50 #[.string ⟨#[97, 48]⟩] w fun e w' => e = .returned (.bool true) ∧ w' = w := by
  have hb : (((⟨#[97, 48]⟩ : ByteArray)[0]'(by decide)).toNat : Int) = 97 := rfl
  have hb1 : (((⟨#[97, 48]⟩ : ByteArray)[1]'(by decide)).toNat : Int) = 48 := rfl
  go_enter Tryd.func50, Tryd.ntmps50
  go_wp2
  go_loop [15, 3, 4, 21] (fun i _ _ _ => i = .int .i64 0 ∨ i = .int .i64 1 ∨ i = .int .i64 2) (fun i _ _ _ => 2 - (intOf i).toNat)
  case atStart => exact .inl rfl
  case round =>
    rcases hrel with rfl | rfl | rfl
    · go_wp2
      exact ⟨.inr (.inl rfl), by simp [intOf]⟩
    · go_wp2
      exact ⟨.inr (.inr rfl), by simp [intOf]⟩
    · go_wp2
      go_ret
      exact ⟨rfl, rfl⟩
set_option maxHeartbeats 1600000 in
set_option maxRecDepth 8000 in
theorem isName_any (s : ByteArray) (w : World) (hs : s.size ≤ 9223372036854775807) :
    Calls Tryd.prog 50 #[.string s] w fun e w' => ∃ v, e = .returned v ∧ w' = w ∧ Nm s v := by
  by_cases ha : s = a0
  · rw [ha]
    refine (isName_a w).mono ?_
    rintro e w' ⟨rfl, rfl⟩
    exact ⟨_, rfl, rfl, .inr ⟨rfl, by decide, by decide⟩⟩
  have HA : Hid (s ≠ a0) := ha
  clear ha
  by_cases h0 : s.size < 1
  · go_enter Tryd.func50, Tryd.ntmps50
    go_wp2
    go_ret
    exact ⟨_, rfl, rfl, .inl ⟨rfl, HA.out⟩⟩
  by_cases h1 : 48 < s.size
  · go_enter Tryd.func50, Tryd.ntmps50
    go_wp2
    go_ret
    exact ⟨_, rfl, rfl, .inl ⟨rfl, HA.out⟩⟩
  go_enter Tryd.func50, Tryd.ntmps50
  go_wp2
  go_loop [15, 3, 4, 21] (fun i _ _ _ => ∃ k : Nat, k ≤ s.size ∧ i = .int .i64 k) (fun i _ _ _ => s.size - (intOf i).toNat)
  case atStart => exact ⟨0, by omega, rfl⟩
  case round =>
    obtain ⟨k, hk, rfl⟩ := hrel
    by_cases h : k < s.size
    · go_wp2
      all_goals first
        | (go_ret; exact ⟨_, rfl, rfl, .inl ⟨rfl, HA.out⟩⟩)
        | (refine ⟨⟨k + 1, by omega, by simp⟩, ?_⟩; simp [intOf]; omega)
    · obtain rfl : k = s.size := by omega
      go_wp2
      go_ret
      exact ⟨_, rfl, rfl, .inr ⟨rfl, by omega, by omega⟩⟩
end Pq
end Go.Proofs.YtiljdiagabepbaaDoor
