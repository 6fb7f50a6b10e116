import Derived.Test.YtbbpnlflihhflaaDoorHxC
import Derived.Lib.ConvBytes
namespace Go.Proofs.YtbbpnlflihhflaaDoor
namespace Hx
open Go.RowKit
set_option linter.unusedVariables false
/-- A byte's small letter; its hexadecimal value. -/
def lw (c : UInt8) : Nat := (c ||| 32).toNat
def hv (c : UInt8) : Option Nat :=
  if 48 ≤ c.toNat ∧ c.toNat ≤ 57 then some (c.toNat - 48)
  else if 97 ≤ lw c ∧ lw c ≤ 102 then some (lw c - 87) else none
/-- What ParseUint tells of digits behind the number so far: the number and what is wrong (1: too great, 2: no digit). -/
def pv (M : Nat) (acc : Nat) : List UInt8 → Nat × Nat
  | [] => (acc, 0)
  | c :: l => match hv c with
    | none => (0, 2)
    | some d => if 1152921504606846976 ≤ acc ∨ M < acc * 16 + d then (M, 1) else pv M (acc * 16 + d) l
def ev (k : Nat) : Value := if k = 0 then .nilIface else .iface 84 (.int .i64 k)
theorem pv_none (M acc : Nat) (c : UInt8) (l : List UInt8) (h : hv c = none) : pv M acc (c :: l) = (0, 2) := by rw [pv, h]
theorem pv_big (M acc d : Nat) (c : UInt8) (l : List UInt8) (h : hv c = some d) (hb : 1152921504606846976 ≤ acc ∨ M < acc * 16 + d) : pv M acc (c :: l) = (M, 1) := by rw [pv, h]; simp only; rw [if_pos hb]
theorem pv_go (M acc d : Nat) (c : UInt8) (l : List UInt8) (h : hv c = some d) (hb : ¬ (1152921504606846976 ≤ acc ∨ M < acc * 16 + d)) : pv M acc (c :: l) = pv M (acc * 16 + d) l := by rw [pv, h]; simp only; rw [if_neg hb]
theorem lw_all : ∀ n : Fin 256, bits .or .u8 (n.val : Int) 32 = ((lw (UInt8.ofNat n.val) : Nat) : Int) := by decide +kernel
theorem lw_or (c : UInt8) : bits .or .u8 (c.toNat : Int) 32 = (lw c : Int) := by
  have h := lw_all ⟨c.toNat, c.toNat_lt⟩
  simpa using h
theorem lw_lt (c : UInt8) : lw c < 256 := (c ||| 32).toNat_lt
theorem lower_any (c : UInt8) (w : World) : Calls Tryd.prog 57 #[.int .u8 c.toNat] w fun e w' => e = .returned (.int .u8 (lw c)) ∧ w' = w := by
  have h := lw_or c
  go_enter Tryd.func57, Tryd.ntmps57
  go_wp2
  go_ret
  exact ⟨rfl, rfl⟩
def Mx (b : Int) : Nat := if b = 64 then 18446744073709551615 else 8388607
set_option maxHeartbeats 32000000 in
set_option maxRecDepth 100000 in
theorem ip_empty (b : Int) (w : World) : Calls Tryd.prog 39 #[.string ⟨#[]⟩, .int .i64 16, .int .i64 b] w fun e w' => e = .returned (.tuple #[.int .u64 0, .iface 84 (.int .i64 2)]) ∧ w' = w := by
  go_enter Tryd.func39, Tryd.ntmps39
  go_wp2
  go_ret2
  exact ⟨rfl, rfl⟩
end Hx
end Go.Proofs.YtbbpnlflihhflaaDoor
