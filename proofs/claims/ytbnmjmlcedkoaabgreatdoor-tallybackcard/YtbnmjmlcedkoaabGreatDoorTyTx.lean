import Derived.Test.YtbnmjmlcedkoaabGreatDoorTyDi
import Derived.Laws.BytesArg
import Derived.Laws.Strings
namespace Go.Proofs.YtbnmjmlcedkoaabGreatDoor
namespace Ty
open Go.RowKit
set_option linter.unusedVariables false
def sL (k : Nat) : ByteArray := strOfNums (List.replicate k 48 ++ [51])
def sR (k : Nat) : ByteArray := strOfNums (List.replicate k 48)
theorem sL_size (k : Nat) : (sL k).size = k + 1 := by simp [sL, strOfNums_size]
theorem sR_size (k : Nat) : (sR k).size = k := by simp [sR, strOfNums_size]
theorem ba_ext (a b : ByteArray) (h : a.data.toList = b.data.toList) : a = b := by
  cases a; cases b; simp at h; congr
theorem ext_data (a : ByteArray) (i j : Nat) : (a.extract i j).data.toList = (a.data.toList.drop i).take (j - i) := by
  simp [ByteArray.extract, ByteArray.copySlice]
theorem sL_ext (k : Nat) : (sL (k + 1)).extract 1 (k + 1 + 1) = sL k := by
  apply ba_ext
  rw [ext_data]
  simp [sL, strOfNums, List.replicate_succ]
  rw [List.take_of_length_le (by simp)]
theorem sR_ext (k : Nat) : (sR (k + 1)).extract 0 k = sR k := by
  apply ba_ext
  rw [ext_data]
  simp [sR, strOfNums]
theorem sL_0 (j : Nat) (h : 0 < (sL j).size) : (((sL j)[0]'h).toNat : Int) = if j = 0 then 51 else 48 := by
  cases j with
  | zero => rfl
  | succ n =>
    have e : (sL (n + 1))[0]'h = 48 := by
      show (sL (n + 1)).data[0]'h = 48
      simp [sL, strOfNums, List.replicate_succ]
    rw [e]; rfl
theorem sR_0 (j : Nat) (h : j < (sR (j + 1)).size) : (((sR (j + 1))[j]'h).toNat : Int) = 48 := by
  have e : (sR (j + 1))[j]'h = 48 := by
    show (sR (j + 1)).data[j]'h = 48
    simp [sR, strOfNums]
  rw [e]; rfl
def szOf : Value → Nat
  | .string s => s.size
  | _ => 0
theorem szOf_s (s : ByteArray) : szOf (.string s) = s.size := rfl
set_option maxHeartbeats 800000 in
theorem tlb (k : Nat) (w : World) : Calls Tryz.prog 61 #[.string (sL k), .int .u8 48] w fun e w' => e = .returned (.string (sL 0)) ∧ w' = w := by
  go_enter Tryz.func61, Tryz.ntmps61
  go_wp2
  go_loop [0] (fun v => ∃ j : Nat, j ≤ k ∧ v = .string (sL j)) (fun v => szOf v)
  case atStart => exact ⟨k, Nat.le_refl _, rfl⟩
  case round =>
    obtain ⟨j, hj, rfl⟩ := hrel
    have hs := sL_size j
    have H0 : Hid (∀ h, (((sL j)[0]'h).toNat : Int) = if j = 0 then 51 else 48) := sL_0 j
    generalize hsj : sL j = s at *
    have HS : Hid (sL j = s) := hsj
    clear hsj
    go_wp2
    · have h9 : (((s[0]'(by omega)).toNat : Int) == 48) = true := by assumption
      rw [H0.out] at h9
      obtain ⟨n, rfl⟩ : ∃ n, j = n + 1 := ⟨j - 1, by
        by_cases e : j = 0
        · rw [if_pos e] at h9; cases h9
        · omega⟩
      rw [← HS.out, sL_ext]
      exact ⟨⟨n, by omega, rfl⟩, by rw [szOf_s, szOf_s, sL_size, sL_size]; omega⟩
    · have h9 : (((s[0]'(by omega)).toNat : Int) == 48) = false := by assumption
      rw [H0.out] at h9
      have hj0 : j = 0 := by
        by_cases e : j = 0
        · exact e
        · rw [if_neg e] at h9; cases h9
      go_ret
      have e9 : s = sL 0 := by rw [← HS.out, hj0]
      exact ⟨congrArg (fun x => Ending.returned (Value.string x)) e9, rfl⟩
set_option maxHeartbeats 800000 in
theorem trb (k : Nat) (hk : k ≤ 9223372036854775807) (w : World) : Calls Tryz.prog 65 #[.string (sR k), .int .u8 48] w fun e w' => e = .returned (.string (sR 0)) ∧ w' = w := by
  go_enter Tryz.func65, Tryz.ntmps65
  go_wp2
  go_loop [0] (fun v => ∃ j : Nat, j ≤ k ∧ v = .string (sR j)) (fun v => szOf v)
  case atStart => exact ⟨k, Nat.le_refl _, rfl⟩
  case round =>
    obtain ⟨j, hj, rfl⟩ := hrel
    have hs := sR_size j
    by_cases e : j = 0
    · subst e
      generalize hsj : sR 0 = s at *
      have HS : Hid (sR 0 = s) := hsj
      clear hsj
      go_wp2
      go_ret
      exact ⟨congrArg (fun x => Ending.returned (Value.string x)) HS.out.symm, rfl⟩
    · obtain ⟨n, rfl⟩ : ∃ n, j = n + 1 := ⟨j - 1, by omega⟩
      have H0 : Hid (∀ h, (((sR (n + 1))[n]'h).toNat : Int) = 48) := sR_0 n
      generalize hsj : sR (n + 1) = s at *
      have HS : Hid (sR (n + 1) = s) := hsj
      clear hsj
      go_wp2
      · rw [← HS.out, sR_ext]
        exact ⟨⟨n, by omega, rfl⟩, by rw [szOf_s, szOf_s, sR_size, sR_size]; omega⟩
      · have h9 : (((s[n]'(by omega)).toNat : Int) == 48) = false := by assumption
        rw [H0.out] at h9
        cases h9
theorem not_nil (s : ByteArray) (h : 0 < s.size) : ¬ s.toList = [] := by
  intro e
  rw [ByteArray.toList_eq] at e
  have h2 : s.data.toList.length = 0 := by rw [e]; rfl
  rw [Array.length_toList] at h2
  have h3 : s.data.size = s.size := rfl
  omega
theorem str48 : (⟨#[48]⟩ : ByteArray).size = 1 := rfl
set_option maxRecDepth 8000 in
set_option maxHeartbeats 800000 in
theorem trimLeft3 (k : Nat) (w : World) : Calls Tryz.prog 31 #[.string (sL k), .string ⟨#[48]⟩] w fun e w' => e = .returned (.string (sL 0)) ∧ w' = w := by
  have HC : Hid (∀ w, Calls Tryz.prog 61 #[.string (sL k), .int .u8 48] w fun e w' => e = .returned (.string (sL 0)) ∧ w' = w) := fun w => tlb k w
  have hn2 := not_nil (sL k) (by rw [sL_size]; omega)
  have hn1 : (sL k).toList.isEmpty = false := by simpa using hn2
  have hb : (((⟨#[48]⟩ : ByteArray)[0]'(by decide)).toNat : Int) = 48 := rfl
  generalize sL k = s at *
  go_enter Tryz.func31, Tryz.ntmps31
  go_wp2_with (fail)
  refine (HC.out _).mono ?_
  rintro e9 w9 ⟨rfl, hw9⟩
  subst w9
  go_wp2
  go_ret
  exact ⟨rfl, rfl⟩
set_option maxRecDepth 8000 in
set_option maxHeartbeats 800000 in
theorem trimRight0 (k : Nat) (hk : k ≤ 9223372036854775807) (h0 : 0 < k) (w : World) : Calls Tryz.prog 32 #[.string (sR k), .string ⟨#[48]⟩] w fun e w' => e = .returned (.string (sR 0)) ∧ w' = w := by
  have HC : Hid (∀ w, Calls Tryz.prog 65 #[.string (sR k), .int .u8 48] w fun e w' => e = .returned (.string (sR 0)) ∧ w' = w) := fun w => trb k hk w
  have hn2 := not_nil (sR k) (by rw [sR_size]; omega)
  have hn1 : (sR k).toList.isEmpty = false := by simpa using hn2
  have hb : (((⟨#[48]⟩ : ByteArray)[0]'(by decide)).toNat : Int) = 48 := rfl
  generalize sR k = s at *
  go_enter Tryz.func32, Tryz.ntmps32
  go_wp2_with (fail)
  refine (HC.out _).mono ?_
  rintro e9 w9 ⟨rfl, hw9⟩
  subst w9
  go_wp2
  go_ret
  exact ⟨rfl, rfl⟩
/-- Three, in units. -/
def T3 : Int := 3 * 2 ^ 149
theorem T3_div : T3 / 2 ^ 149 = 3 := by unfold T3; exact Int.mul_ediv_cancel _ (Int.ne_of_gt (pw 149))
theorem dA3 (i : Nat) : dA T3 i = if i = 0 then 3 else 0 := by
  unfold dA
  rw [T3_div]
  cases i with
  | zero => rfl
  | succ n =>
    have h : (3 : Int) / 10 ^ (n + 1) = 0 := by
      refine Int.ediv_eq_zero_of_lt (by omega) ?_
      rw [Int.pow_succ]
      have := Int.pow_pos (n := 10) (m := n) (by omega)
      omega
    rw [h]; rfl
theorem dB3 (i : Nat) : dB T3 i = 0 := by
  unfold dB cm T3
  have e : (3 : Int) * 2 ^ 149 * 2 ^ 235 = 3 * 2 ^ (64 * 6) := by rw [Int.mul_assoc, ← Int.pow_add]
  rw [e, show (3 : Int) * 2 ^ (64 * 6) * 10 ^ i = 2 ^ (64 * 6) * (3 * 10 ^ i) from by rw [Int.mul_comm 3, Int.mul_assoc], Int.mul_emod_right, Int.zero_mul, Int.zero_ediv]
theorem dgt3 (j : Nat) (h : j < 220) : dgt T3 j = if j = 70 then 51 else 48 := by
  unfold dgt
  by_cases h1 : j < 71
  · rw [if_pos h1, dA3]
    by_cases e : j = 70
    · subst e; rfl
    · rw [if_neg (by omega), if_neg e]; rfl
  · rw [if_neg h1, dB3, if_neg (by omega)]; rfl
def xA : List Int := List.replicate 70 48 ++ [51]
def xB : List Int := List.replicate 149 48
theorem xA_get (i : Nat) (h : i < 71) : xA.getD i 0 = if i = 70 then 51 else 48 := by
  unfold xA
  by_cases e : i = 70
  · subst e; rfl
  · rw [if_neg e, List.getD_eq_getElem?_getD, List.getElem?_append_left (by simp; omega), List.getElem?_replicate, if_pos (by omega)]; rfl
theorem xB_get (i : Nat) (h : i < 149) : xB.getD i 0 = 48 := by
  unfold xB
  rw [List.getD_eq_getElem?_getD, List.getElem?_replicate, if_pos h]; rfl
end Ty
end Go.Proofs.YtbnmjmlcedkoaabGreatDoor
