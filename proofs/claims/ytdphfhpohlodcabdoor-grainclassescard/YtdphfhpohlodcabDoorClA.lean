import Derived.Test.YtdphfhpohlodcabDoorRows
import Derived.Test.YtdphfhpohlodcabDoorClMath
import Derived.WalkKit
import Derived.BigQuiet
import Derived.Deep.QuietTactic
import Derived.Laws.Externs
namespace Go.Proofs.YtdphfhpohlodcabDoor
namespace Cl
open Go.RowKit
theorem ret_int {k : IntKind} {a b : Int} (h : a = b) : Ending.returned (.int k a) = .returned (.int k b) := by rw [h]
def cls (u : Int) : Int := if u % 2147483648 = 0 then 0 else if u % 2147483648 ≤ 8388607 then 1 else if u % 2147483648 < 2139095040 then 2 else if u % 2147483648 = 2139095040 then 3 else 4
theorem class_any (u : Int) (h0 : 0 ≤ u) (h1 : u < 4294967296) (w : World) : Calls Tryd.prog 9 #[.int .u32 u] w fun e w' => e = .returned (.int .i64 (cls u)) ∧ w' = w := by
  have e := andNot_top u h0 h1
  have s0 : 0 ≤ u % 2147483648 := by omega
  have s1 : u % 2147483648 < 2147483648 := by omega
  have HC : Hid (cls u = if u % 2147483648 = 0 then 0 else if u % 2147483648 ≤ 8388607 then 1 else if u % 2147483648 < 2139095040 then 2 else if u % 2147483648 = 2139095040 then 3 else 4) := rfl
  generalize u % 2147483648 = s at *
  go_enter Tryd.func9, Tryd.ntmps9
  go_wp2
  all_goals
    go_ret
    refine ⟨ret_int ?_, rfl⟩
    rw [HC.out]
    try simp only [beq_iff_eq, beq_eq_false_iff_ne, ne_eq] at *
    first
      | rw [if_pos (by omega)]
      | rw [if_neg (by omega), if_pos (by omega)]
      | rw [if_neg (by omega), if_neg (by omega), if_pos (by omega)]
      | rw [if_neg (by omega), if_neg (by omega), if_neg (by omega), if_pos (by omega)]
      | rw [if_neg (by omega), if_neg (by omega), if_neg (by omega), if_neg (by omega)]
theorem rclass_any (u : Int) (h0 : 0 ≤ u) (h1 : u < 4294967296) (w : World) : Calls Tryd.prog 6 #[.int .u32 u] w fun e w' => e = .returned (.int .i64 (cls u)) ∧ w' = w := by
  have s0 : 0 ≤ u / 8388608 % 256 := by omega
  have s1 : u / 8388608 % 256 < 256 := by omega
  have s2 : 0 ≤ u % 8388608 := by omega
  have s3 : u % 8388608 < 8388608 := by omega
  have HE : Hid (u % 2147483648 = u / 8388608 % 256 * 8388608 + u % 8388608) := by show _ = _; omega
  have HC : Hid (cls u = if u % 2147483648 = 0 then 0 else if u % 2147483648 ≤ 8388607 then 1 else if u % 2147483648 < 2139095040 then 2 else if u % 2147483648 = 2139095040 then 3 else 4) := rfl
  go_enter Tryd.func6, Tryd.ntmps6
  go_wp2
  all_goals
    go_ret
    refine ⟨ret_int ?_, rfl⟩
    rw [HC.out, HE.out]
    try simp only [beq_eq_false_iff_ne, ne_eq, bne_iff_ne, bne_eq_false_iff_eq] at *
    generalize u / 8388608 % 256 = e at *
    generalize u % 8388608 = f at *
    first
      | rw [if_pos (by omega)]
      | rw [if_neg (by omega), if_pos (by omega)]
      | rw [if_neg (by omega), if_neg (by omega), if_pos (by omega)]
      | rw [if_neg (by omega), if_neg (by omega), if_neg (by omega), if_pos (by omega)]
      | rw [if_neg (by omega), if_neg (by omega), if_neg (by omega), if_neg (by omega)]
def rank (u : Int) : Int := if u < 2147483648 then u else -1 - (u - 2147483648)
theorem rank_any (u : Int) (h0 : 0 ≤ u) (h1 : u < 4294967296) (w : World) : Calls Tryd.prog 10 #[.int .u32 u] w fun e w' => e = .returned (.int .i64 (rank u)) ∧ w' = w := by
  by_cases h : u < 2147483648
  · have H : Hid (rank u = u) := by show _ = _; unfold rank; rw [if_pos h]
    go_enter Tryd.func10, Tryd.ntmps10
    go_wp2
    go_ret
    exact ⟨ret_int (by rw [H.out]), rfl⟩
  · have H : Hid (rank u = -1 - (u - 2147483648)) := by show _ = _; unfold rank; rw [if_neg h]
    have h' : 2147483648 ≤ u := by omega
    go_enter Tryd.func10, Tryd.ntmps10
    go_wp2
    go_ret
    exact ⟨ret_int (by rw [H.out]), rfl⟩
theorem rrank_any (u : Int) (h0 : 0 ≤ u) (h1 : u < 4294967296) (w : World) : Calls Tryd.prog 11 #[.int .u32 u] w fun e w' => e = .returned (.int .i64 (rank u)) ∧ w' = w := by
  by_cases h : u < 2147483648
  · have H : Hid (rank u = u) := by show _ = _; unfold rank; rw [if_pos h]
    go_enter Tryd.func11, Tryd.ntmps11
    go_wp2
    go_ret
    exact ⟨ret_int (by rw [H.out]), rfl⟩
  · have H : Hid (rank u = -1 - (u - 2147483648)) := by show _ = _; unfold rank; rw [if_neg h]
    have h' : 2147483648 ≤ u := by omega
    go_enter Tryd.func11, Tryd.ntmps11
    go_wp2
    go_ret
    exact ⟨ret_int (by rw [H.out]), rfl⟩
theorem ret_two {k1 k2 : IntKind} {a b c d : Int} (h : a = c) (h2 : b = d) : Ending.returned (.tuple #[.int k1 a, .int k2 b]) = .returned (.tuple #[.int k1 c, .int k2 d]) := by rw [h, h2]
def ofR (r : Int) : Int := if r < -2147483648 ∨ 2147483647 < r then 0 else if r < 0 then 2147483648 + (-1 - r) else r
def ofE (r : Int) : Int := if r < -2147483648 ∨ 2147483647 < r then 12 else 0
theorem of_out (r : Int) (h : r < -2147483648 ∨ 2147483647 < r) : ofR r = 0 ∧ ofE r = 12 := by unfold ofR ofE; rw [if_pos h, if_pos h]; exact ⟨rfl, rfl⟩
theorem of_neg (r : Int) (h : -2147483648 ≤ r) (h2 : r < 0) : ofR r = 2147483648 + (-1 - r) ∧ ofE r = 0 := by
  have n : ¬ (r < -2147483648 ∨ 2147483647 < r) := by omega
  unfold ofR ofE; rw [if_neg n, if_neg n, if_pos h2]; exact ⟨rfl, rfl⟩
theorem of_pos (r : Int) (h : 0 ≤ r) (h2 : r ≤ 2147483647) : ofR r = r ∧ ofE r = 0 := by
  have n : ¬ (r < -2147483648 ∨ 2147483647 < r) := by omega
  unfold ofR ofE; rw [if_neg n, if_neg n, if_neg (by omega)]; exact ⟨rfl, rfl⟩
theorem ofrank_any (r : Int) (h0 : -9223372036854775808 ≤ r) (h1 : r ≤ 9223372036854775807) (w : World) : Calls Tryd.prog 7 #[.int .i64 r] w fun e w' => e = .returned (.tuple #[.int .u32 (ofR r), .int .i64 (ofE r)]) ∧ w' = w := by
  by_cases a : r < -2147483648
  · have H : Hid (ofR r = 0 ∧ ofE r = 12) := of_out r (Or.inl a)
    go_enter Tryd.func7, Tryd.ntmps7
    go_wp2
    go_ret2
    exact ⟨ret_two H.out.1.symm H.out.2.symm, rfl⟩
  by_cases b : 2147483647 < r
  · have H : Hid (ofR r = 0 ∧ ofE r = 12) := of_out r (Or.inr b)
    go_enter Tryd.func7, Tryd.ntmps7
    go_wp2
    go_ret2
    exact ⟨ret_two H.out.1.symm H.out.2.symm, rfl⟩
  have a' : -2147483648 ≤ r := by omega
  have b' : r ≤ 2147483647 := by omega
  by_cases c : r < 0
  · have H : Hid (ofR r = 2147483648 + (-1 - r) ∧ ofE r = 0) := of_neg r a' c
    go_enter Tryd.func7, Tryd.ntmps7
    go_wp2
    go_ret2
    exact ⟨ret_two H.out.1.symm H.out.2.symm, rfl⟩
  · have H : Hid (ofR r = r ∧ ofE r = 0) := of_pos r (by omega) b'
    have c' : 0 ≤ r := by omega
    go_enter Tryd.func7, Tryd.ntmps7
    go_wp2
    go_ret2
    exact ⟨ret_two H.out.1.symm H.out.2.symm, rfl⟩
theorem rofrank_any (r : Int) (h0 : -9223372036854775808 ≤ r) (h1 : r ≤ 9223372036854775807) (w : World) : Calls Tryd.prog 8 #[.int .i64 r] w fun e w' => e = .returned (.tuple #[.int .u32 (ofR r), .int .i64 (ofE r)]) ∧ w' = w := by
  by_cases a : r < -2147483648
  · have H : Hid (ofR r = 0 ∧ ofE r = 12) := of_out r (Or.inl a)
    go_enter Tryd.func8, Tryd.ntmps8
    go_wp2
    go_ret2
    exact ⟨ret_two H.out.1.symm H.out.2.symm, rfl⟩
  by_cases b : 2147483648 ≤ r
  · have H : Hid (ofR r = 0 ∧ ofE r = 12) := of_out r (Or.inr (by omega))
    have a' : -2147483648 ≤ r := by omega
    go_enter Tryd.func8, Tryd.ntmps8
    go_wp2
    go_ret2
    exact ⟨ret_two H.out.1.symm H.out.2.symm, rfl⟩
  have a' : -2147483648 ≤ r := by omega
  have b' : r < 2147483648 := by omega
  by_cases c : r < 0
  · have H : Hid (ofR r = 2147483648 + (-1 - r) ∧ ofE r = 0) := of_neg r a' c
    go_enter Tryd.func8, Tryd.ntmps8
    go_wp2
    go_ret2
    exact ⟨ret_two H.out.1.symm H.out.2.symm, rfl⟩
  · have H : Hid (ofR r = r ∧ ofE r = 0) := of_pos r (by omega) (by omega)
    have c' : 0 ≤ r := by omega
    go_enter Tryd.func8, Tryd.ntmps8
    go_wp2
    go_ret2
    exact ⟨ret_two H.out.1.symm H.out.2.symm, rfl⟩
def TabAt (w : World) : Prop := ∀ i, i < 32 → w.cell? ⟨1, i, none⟩ = some (.int .u8 (tab.getD i 0))
theorem tab_at (t : Nat) (h : t < 32) : idx t < 32 ∧ tab.getD (idx t) 0 = (t : Int) := tab_idx ⟨t, h⟩
theorem tz_facts (u : Int) (h0 : 0 < u) (h1 : u < 4294967296) : ∃ t i : Nat, tzI u = (t : Int) ∧ t < 32 ∧ bits .and .u32 u (-u % 4294967296) = 2 ^ t ∧ (2 : Int) ^ t * 125613361 % 4294967296 / 134217728 = (i : Int) ∧ i < 32 ∧ tab.getD i 0 = (t : Int) := by
  have e1 : bits .and .u32 u (-u % 4294967296) = 2 ^ tz u.toNat 32 := by rw [← IntKind.wrap_u32]; exact and_neg u h0 h1
  have hs := (tz_spec 32 u.toNat (by omega) (by omega)).1
  obtain ⟨i1, i2⟩ := tab_at _ hs
  refine ⟨tz u.toNat 32, idx (tz u.toNat 32), rfl, hs, e1, ?_, i1, i2⟩
  generalize tz u.toNat 32 = t
  unfold idx
  simp
theorem tz_any (u : Int) (h0 : 0 < u) (h1 : u < 4294967296) (w : World) (ht : TabAt w) : Calls Tryd.prog 17 #[.int .u32 u] w fun e w' => e = .returned (.int .i64 (tzI u)) ∧ w' = w := by
  have hz : (u == 0) = false := by simp; omega
  obtain ⟨t, i, hv, hs, e1, e2, hi1, hi2⟩ := tz_facts u h0 h1
  have hc := ht i hi1
  rw [hi2] at hc
  have HV : Hid (tzI u = (t : Int)) := hv
  clear hi2 ht hv
  go_enter Tryd.func17, Tryd.ntmps17
  go_wp2
  go_ret
  exact ⟨ret_int HV.out.symm, rfl⟩
end Cl
end Go.Proofs.YtdphfhpohlodcabDoor
