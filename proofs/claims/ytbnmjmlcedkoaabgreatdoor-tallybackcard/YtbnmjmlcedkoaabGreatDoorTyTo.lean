import Derived.Test.YtbnmjmlcedkoaabGreatDoorTySl
import Derived.Deep.QuietTactic
import Derived.Shelf.RegionOpenPlain
namespace Go.Proofs.YtbnmjmlcedkoaabGreatDoor
namespace Ty
open Go.RowKit
set_option linter.unusedVariables false
theorem ba_ext2 (a b : ByteArray) (h : a.data.toList = b.data.toList) : a = b := by
  cases a; cases b; simp at h; congr
theorem ext_data2 (a : ByteArray) (i j : Nat) : (a.extract i j).data.toList = (a.data.toList.drop i).take (j - i) := by
  simp [ByteArray.extract, ByteArray.copySlice]
theorem bs_ext (l : List UInt8) (i j : Nat) : (bs l).extract i j = bs ((l.drop i).take (j - i)) := by
  apply ba_ext2
  rw [ext_data2, bs_data, bs_data]
theorem ib_none : ∀ (l : List UInt8) (c : UInt8), (∀ b ∈ l, b ≠ c) → Lib.indexByte l c = -1
  | [], _, _ => rfl
  | b :: l, c, h => by
    have h1 : (b == c) = false := by simpa using h b (by simp)
    have h2 := ib_none l c (fun x hx => h x (by simp [hx]))
    unfold Lib.indexByte
    simp [h1, h2]
theorem ib_hit : ∀ (A B : List UInt8) (c : UInt8), (∀ b ∈ A, b ≠ c) → Lib.indexByte (A ++ c :: B) c = A.length
  | [], B, c, _ => by simp [Lib.indexByte]
  | b :: A, B, c, h => by
    have h1 : (b == c) = false := by simpa using h b (by simp)
    have h2 := ib_hit A B c (fun x hx => h x (by simp [hx]))
    have h3 : ((A.length : Int) == -1) = false := by simp
    rw [List.cons_append]
    unfold Lib.indexByte
    simp [h1, h2, h3]
set_option maxHeartbeats 800000 in
theorem cutN (l : List UInt8) (h : ∀ b ∈ l, b ≠ 46) (w : World) : Calls Tryz.prog 84 #[.string (bs l), .string ⟨#[46]⟩] w fun e w' => e = .returned (.tuple #[.string (bs l), .string (bs []), .bool false]) ∧ w' = w := by
  have HI : Hid (∀ w, Calls Tryz.prog 104 #[.string (bs l), .string ⟨#[46]⟩] w fun e w' => e = .returned (.int .i64 (-1)) ∧ w' = w) := fun w => by
    have h1 := index1 l 46 w
    rw [ib_none l 46 h] at h1; exact h1
  clear h
  generalize bs l = s at *
  go_enter Tryz.func84, Tryz.ntmps84
  go_wp2_with (fail)
  refine (HI.out _).mono ?_
  rintro e9 w9 ⟨rfl, hw9⟩
  subst w9
  go_wp2
  go_ret3
  exact ⟨rfl, rfl⟩
set_option maxHeartbeats 800000 in
theorem cutH (A B : List UInt8) (h : ∀ b ∈ A, b ≠ 46) (hs : (A ++ 46 :: B).length < 1000) (w : World) : Calls Tryz.prog 84 #[.string (bs (A ++ 46 :: B)), .string ⟨#[46]⟩] w fun e w' => e = .returned (.tuple #[.string (bs A), .string (bs B), .bool true]) ∧ Below w.heap.size w w' := by
  have HI : Hid (∀ w, Calls Tryz.prog 104 #[.string (bs (A ++ 46 :: B)), .string ⟨#[46]⟩] w fun e w' => e = .returned (.int .i64 A.length) ∧ w' = w) := fun w => by
    have h1 := index1 (A ++ 46 :: B) 46 w
    rw [ib_hit A B 46 h] at h1; exact h1
  have e1 : (bs (A ++ 46 :: B)).extract 0 A.length = bs A := by rw [bs_ext]; simp
  have e2 : (bs (A ++ 46 :: B)).extract (A.length + 1) (bs (A ++ 46 :: B)).size = bs B := by
    rw [bs_ext, bs_size]
    congr 1
    rw [show A ++ 46 :: B = (A ++ [46]) ++ B by simp, List.drop_left' (by simp)]
    exact List.take_of_length_le (by simp; omega)
  have hsz : (bs (A ++ 46 :: B)).size = A.length + 1 + B.length := by rw [bs_size]; simp; omega
  have hs1 : (⟨#[46]⟩ : ByteArray).size = 1 := rfl
  rw [← bs_size, hsz] at hs
  generalize bs (A ++ 46 :: B) = s at *
  have HE : Hid (bs A = s.extract 0 A.length ∧ bs B = s.extract (A.length + 1) s.size) := ⟨e1.symm, e2.symm⟩
  clear h e1 e2
  generalize bs A = sA at *
  generalize bs B = sB at *
  generalize A.length = n at *
  generalize B.length = m at *
  go_enter Tryz.func84, Tryz.ntmps84
  go_wp2_with (fail)
  refine (HI.out _).mono ?_
  rintro e9 w9 ⟨rfl, hw9⟩
  subst w9
  clear HI
  have c1 : (0 : Int) ≤ (n : Int) := by omega
  have c2 : (n : Int) ≤ (s.size : Int) := by omega
  generalize (⟨#[46]⟩ : ByteArray) = sep at *
  have c3 : (0 : Int) ≤ (n : Int) + (sep.size : Int) := by omega
  have c4 : (n : Int) + (sep.size : Int) ≤ (s.size : Int) := by omega
  have c5 : IntKind.i64.wrap ((n : Int) + (sep.size : Int)) = (n : Int) + (sep.size : Int) := by rw [IntKind.wrap_i64]; omega
  have c6 : ((n : Int) + (sep.size : Int)).toNat = n + sep.size := by omega
  have HF : Hid (sA = s.extract 0 n ∧ sB = s.extract (n + sep.size) s.size) := by rw [hs1]; exact HE.out
  clear hs1 hsz hs HE
  go_wp2
  go_region_with (fail)
  all_goals
    go_wp2
    go_ret3
    refine ⟨?_, Below.drew (Below.refl _ _)⟩
    rw [HF.out.1, HF.out.2]
    simp [Act.put]
set_option maxHeartbeats 800000 in
theorem scut (s : ByteArray) (a b : ByteArray) (p : Bool) (w : World) (h : ∀ w, Calls Tryz.prog 84 #[.string s, .string ⟨#[46]⟩] w fun e w' => e = .returned (.tuple #[.string a, .string b, .bool p]) ∧ Below w.heap.size w w') :
    Calls Tryz.prog 51 #[.string s, .string ⟨#[46]⟩] w fun e w' => e = .returned (.tuple #[.string a, .string b, .bool p]) ∧ Below w.heap.size w w' := by
  have HI : Hid (∀ w, Calls Tryz.prog 84 #[.string s, .string ⟨#[46]⟩] w fun e w' => e = .returned (.tuple #[.string a, .string b, .bool p]) ∧ Below w.heap.size w w') := h
  clear h
  go_enter Tryz.func51, Tryz.ntmps51
  go_wp2_with (fail)
  refine (HI.out _).mono ?_
  rintro e9 w9 ⟨rfl, hw9⟩
  go_wp2
  go_ret3
  exact ⟨rfl, hw9⟩
/-- The cut of a number's text. -/
theorem cutU (T : List UInt8) (hl : T.length = 220) (h : Dg T) (w : World) : Calls Tryz.prog 51 #[.string (bs (tU T)), .string ⟨#[46]⟩] w fun e w' => e = .returned (.tuple #[.string (bs (tA T)), .string (bs (tB T)), .bool (decide (tB T ≠ []))]) ∧ Below w.heap.size w w' := by
  have ha := dg_no _ (tA_dg T h) 46 (by decide)
  have hlen := tU_len T hl
  refine scut _ _ _ _ w (fun w => ?_)
  unfold tU at *
  by_cases hn : tB T = []
  · rw [if_pos hn, hn]
    refine (cutN (tA T) ha w).mono ?_
    rintro e w' ⟨rfl, rfl⟩
    exact ⟨by simp, Below.refl _ _⟩
  · rw [if_neg hn] at *
    refine (cutH (tA T) (tB T) ha (by omega) w).mono ?_
    rintro e w' ⟨rfl, hb⟩
    exact ⟨by simp [hn], hb⟩
set_option maxHeartbeats 800000 in
theorem are_digits (l : List UInt8) (hs : l.length ≤ 1000) (hd : Dg l) (w : World) : Calls Tryz.prog 52 #[.string (bs l)] w fun e w' => e = .returned (.bool (decide (l ≠ []))) ∧ Below w.heap.size w w' := by
  have HT : Hid (∀ w, Calls Tryz.prog 85 #[.string (bs l), .string ⟨#[48, 49, 50, 51, 52, 53, 54, 55, 56, 57]⟩] w fun e w' => e = .returned (.string (bs [])) ∧ Below w.heap.size w w') := fun w => trimD l (by omega) hd w
  have hx : (bs l).toList = l := bs_toList l
  have h0 : (bs []).toList = [] := bs_toList []
  clear hd hs
  generalize bs l = s at *
  generalize bs [] = z at *
  cases l with
  | nil =>
    go_enter Tryz.func52, Tryz.ntmps52
    go_wp2
    go_ret
    exact ⟨rfl, Below.refl _ _⟩
  | cons b l =>
    have hn1 : s.toList.isEmpty = false := by rw [hx]; rfl
    go_enter Tryz.func52, Tryz.ntmps52
    go_wp2_with (fail)
    refine (HT.out _).mono ?_
    rintro e9 w9 ⟨rfl, hw9⟩
    go_wp2
    go_ret
    exact ⟨rfl, hw9⟩
end Ty
end Go.Proofs.YtbnmjmlcedkoaabGreatDoor
