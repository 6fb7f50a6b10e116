import Derived.Test.YtbbpnlflihhflaaDoorRows
import Derived.Test.YtbbpnlflihhflaaDoorClMath
import Derived.WalkKit
import Derived.BigQuiet
import Derived.Deep.QuietTactic
import Derived.Laws.Externs
namespace Go.Proofs.YtbbpnlflihhflaaDoor
namespace Cl
open Go.RowKit
theorem ret_int {k : IntKind} {a b : Int} (h : a = b) : Ending.returned (.int k a) = .returned (.int k b) := by rw [h]
def cls (u : Int) : Int := if u % 2147483648 = 0 then 0 else if u % 2147483648 ≤ 8388607 then 1 else if u % 2147483648 < 2139095040 then 2 else if u % 2147483648 = 2139095040 then 3 else 4
theorem class_any (u : Int) (h0 : 0 ≤ u) (h1 : u < 4294967296) (w : World) : Calls Tryd.prog 32 #[.int .u32 u] w fun e w' => e = .returned (.int .i64 (cls u)) ∧ w' = w := by
  have e := andNot_top u h0 h1
  have s0 : 0 ≤ u % 2147483648 := by omega
  have s1 : u % 2147483648 < 2147483648 := by omega
  have HC : Hid (cls u = if u % 2147483648 = 0 then 0 else if u % 2147483648 ≤ 8388607 then 1 else if u % 2147483648 < 2139095040 then 2 else if u % 2147483648 = 2139095040 then 3 else 4) := rfl
  generalize u % 2147483648 = s at *
  go_enter Tryd.func32, Tryd.ntmps32
  go_wp2
  all_goals
    go_ret
    refine ⟨ret_int ?_, rfl⟩
    rw [HC.out]
    try simp only [beq_iff_eq, beq_eq_false_iff_ne, ne_eq] at *
    first
      | rw [if_pos (by omega)]
      | rw [if_neg (by omega), if_pos (by omega)]
      | rw [if_neg (by omega), if_neg (by omega), if_pos (by omega)]
      | rw [if_neg (by omega), if_neg (by omega), if_neg (by omega), if_pos (by omega)]
      | rw [if_neg (by omega), if_neg (by omega), if_neg (by omega), if_neg (by omega)]
theorem rclass_any (u : Int) (h0 : 0 ≤ u) (h1 : u < 4294967296) (w : World) : Calls Tryd.prog 17 #[.int .u32 u] w fun e w' => e = .returned (.int .i64 (cls u)) ∧ w' = w := by
  have s0 : 0 ≤ u / 8388608 % 256 := by omega
  have s1 : u / 8388608 % 256 < 256 := by omega
  have s2 : 0 ≤ u % 8388608 := by omega
  have s3 : u % 8388608 < 8388608 := by omega
  have HE : Hid (u % 2147483648 = u / 8388608 % 256 * 8388608 + u % 8388608) := by show _ = _; omega
  have HC : Hid (cls u = if u % 2147483648 = 0 then 0 else if u % 2147483648 ≤ 8388607 then 1 else if u % 2147483648 < 2139095040 then 2 else if u % 2147483648 = 2139095040 then 3 else 4) := rfl
  go_enter Tryd.func17, Tryd.ntmps17
  go_wp2
  all_goals
    go_ret
    refine ⟨ret_int ?_, rfl⟩
    rw [HC.out, HE.out]
    try simp only [beq_eq_false_iff_ne, ne_eq, bne_iff_ne, bne_eq_false_iff_eq] at *
    generalize u / 8388608 % 256 = e at *
    generalize u % 8388608 = f at *
    first
      | rw [if_pos (by omega)]
      | rw [if_neg (by omega), if_pos (by omega)]
      | rw [if_neg (by omega), if_neg (by omega), if_pos (by omega)]
      | rw [if_neg (by omega), if_neg (by omega), if_neg (by omega), if_pos (by omega)]
      | rw [if_neg (by omega), if_neg (by omega), if_neg (by omega), if_neg (by omega)]
theorem ret_two {k1 k2 : IntKind} {a b c d : Int} (h : a = c) (h2 : b = d) : Ending.returned (.tuple #[.int k1 a, .int k2 b]) = .returned (.tuple #[.int k1 c, .int k2 d]) := by rw [h, h2]
def TabAt (w : World) : Prop := ∀ i, i < 32 → w.cell? ⟨0, i, none⟩ = some (.int .u8 (tab.getD i 0))
theorem tab_at (t : Nat) (h : t < 32) : idx t < 32 ∧ tab.getD (idx t) 0 = (t : Int) := tab_idx ⟨t, h⟩
theorem tz_facts (u : Int) (h0 : 0 < u) (h1 : u < 4294967296) : ∃ t i : Nat, tzI u = (t : Int) ∧ t < 32 ∧ bits .and .u32 u (-u % 4294967296) = 2 ^ t ∧ (2 : Int) ^ t * 125613361 % 4294967296 / 134217728 = (i : Int) ∧ i < 32 ∧ tab.getD i 0 = (t : Int) := by
  have e1 : bits .and .u32 u (-u % 4294967296) = 2 ^ tz u.toNat 32 := by rw [← IntKind.wrap_u32]; exact and_neg u h0 h1
  have hs := (tz_spec 32 u.toNat (by omega) (by omega)).1
  obtain ⟨i1, i2⟩ := tab_at _ hs
  refine ⟨tz u.toNat 32, idx (tz u.toNat 32), rfl, hs, e1, ?_, i1, i2⟩
  generalize tz u.toNat 32 = t
  unfold idx
  simp
theorem tz_any (u : Int) (h0 : 0 < u) (h1 : u < 4294967296) (w : World) (ht : TabAt w) : Calls Tryd.prog 31 #[.int .u32 u] w fun e w' => e = .returned (.int .i64 (tzI u)) ∧ w' = w := by
  have hz : (u == 0) = false := by simp; omega
  obtain ⟨t, i, hv, hs, e1, e2, hi1, hi2⟩ := tz_facts u h0 h1
  have hc := ht i hi1
  rw [hi2] at hc
  have HV : Hid (tzI u = (t : Int)) := hv
  clear hi2 ht hv
  go_enter Tryd.func31, Tryd.ntmps31
  go_wp2
  go_ret
  exact ⟨ret_int HV.out.symm, rfl⟩
end Cl
end Go.Proofs.YtbbpnlflihhflaaDoor
