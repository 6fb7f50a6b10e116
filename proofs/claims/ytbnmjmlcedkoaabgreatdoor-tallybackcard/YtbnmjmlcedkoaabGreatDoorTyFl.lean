import Derived.Test.YtbnmjmlcedkoaabGreatDoorTyGd
import Derived.Laws.Externs
namespace Go.Proofs.YtbnmjmlcedkoaabGreatDoor
namespace Cl
open Go.RowKit
def cls (u : Int) : Int := if u % 2147483648 = 0 then 0 else if u % 2147483648 ≤ 8388607 then 1 else if u % 2147483648 < 2139095040 then 2 else if u % 2147483648 = 2139095040 then 3 else 4
theorem class_any (u : Int) (h0 : 0 ≤ u) (h1 : u < 4294967296) (w : World) : Calls Tryz.prog 74 #[.int .u32 u] w fun e w' => e = .returned (.int .i64 (cls u)) ∧ w' = w := by
  have e := andNot_top u h0 h1
  have s0 : 0 ≤ u % 2147483648 := by omega
  have s1 : u % 2147483648 < 2147483648 := by omega
  have HC : Hid (cls u = if u % 2147483648 = 0 then 0 else if u % 2147483648 ≤ 8388607 then 1 else if u % 2147483648 < 2139095040 then 2 else if u % 2147483648 = 2139095040 then 3 else 4) := rfl
  generalize u % 2147483648 = s at *
  go_enter Tryz.func74, Tryz.ntmps74
  go_wp2
  all_goals
    go_ret
    refine ⟨ret_int ?_, rfl⟩
    rw [HC.out]
    try simp only [beq_iff_eq, beq_eq_false_iff_ne, ne_eq] at *
    first
      | rw [if_pos (by omega)]
      | rw [if_neg (by omega), if_pos (by omega)]
      | rw [if_neg (by omega), if_neg (by omega), if_pos (by omega)]
      | rw [if_neg (by omega), if_neg (by omega), if_neg (by omega), if_pos (by omega)]
      | rw [if_neg (by omega), if_neg (by omega), if_neg (by omega), if_neg (by omega)]
theorem num_any (e : Int) (w : World) : Calls Tryz.prog 9 #[.int .i64 e] w fun e' w' => e' = .returned (.int .i64 e) ∧ w' = w := by
  go_enter Tryz.func9, Tryz.ntmps9
  go_wp2
  go_ret
  exact ⟨rfl, rfl⟩
theorem cls_inf (u : Int) (h : 2139095040 ≤ u % 2147483648) : cls u = 3 ∨ cls u = 4 := by
  unfold cls; rw [if_neg (by omega), if_neg (by omega), if_neg (by omega)]; split <;> simp
theorem cls_fin (u : Int) (h : u % 2147483648 < 2139095040) : ¬ cls u = 3 ∧ ¬ cls u = 4 := by
  unfold cls; repeat' split
  all_goals omega
theorem frombits (n : Int) (w : World) : (callFunc 43 #[.int .u32 n]).run Tryz.prog w = .ok (.value (.float .f32 n.toNat)) w := by
  rw [run_callFunc_extern Tryz.func43 (by kernel_rfl) (by kernel_rfl) (by kernel_rfl) (e := Extern.MathFloatBits.float32frombits) (by kernel_rfl)]
  rfl
theorem tobits (b : Nat) (w : World) : (callFunc 47 #[.float .f32 b]).run Tryz.prog w = .ok (.value (.int .u32 b)) w := by
  rw [run_callFunc_extern Tryz.func47 (by kernel_rfl) (by kernel_rfl) (by kernel_rfl) (e := Extern.MathFloatBits.float32bits) (by kernel_rfl)]
  rfl
theorem float_any (u : Int) (w : World) : Calls Tryz.prog 18 #[.int .u32 u] w fun e w' => e = .returned (.float .f32 u.toNat) ∧ w' = w := by
  have h := frombits u w
  go_enter Tryz.func18, Tryz.ntmps18
  go_wp2
  go_ret
  exact ⟨rfl, rfl⟩
theorem bits_any (b : Nat) (w : World) : Calls Tryz.prog 21 #[.float .f32 b] w fun e w' => e = .returned (.int .u32 b) ∧ w' = w := by
  have h := tobits b w
  go_enter Tryz.func21, Tryz.ntmps21
  go_wp2
  go_ret
  exact ⟨rfl, rfl⟩
end Cl
end Go.Proofs.YtbnmjmlcedkoaabGreatDoor
