import Derived.Test.YtbbpnlflihhflaaDoorHxF
import Derived.Deep.QuietTactic
import Derived.Shelf.RegionOpenPlain
namespace Go.Proofs.YtbbpnlflihhflaaDoor
namespace Hx
open Go.RowKit
set_option linter.unusedVariables false
theorem ba_ext2 (a b : ByteArray) (h : a.data.toList = b.data.toList) : a = b := by
  cases a; cases b; simp at h; congr
theorem ext_data2 (a : ByteArray) (i j : Nat) : (a.extract i j).data.toList = (a.data.toList.drop i).take (j - i) := by
  simp [ByteArray.extract, ByteArray.copySlice]
theorem bs_ext (l : List UInt8) (i j : Nat) : (bs l).extract i j = bs ((l.drop i).take (j - i)) := by
  apply ba_ext2
  rw [ext_data2, bs_data, bs_data]
theorem ib_none : ∀ (l : List UInt8) (c : UInt8), (∀ b ∈ l, b ≠ c) → Lib.indexByte l c = -1
  | [], _, _ => rfl
  | b :: l, c, h => by
    have h1 : (b == c) = false := by simpa using h b (by simp)
    have h2 := ib_none l c (fun x hx => h x (by simp [hx]))
    unfold Lib.indexByte
    simp [h1, h2]
theorem ib_hit : ∀ (A B : List UInt8) (c : UInt8), (∀ b ∈ A, b ≠ c) → Lib.indexByte (A ++ c :: B) c = A.length
  | [], B, c, _ => by simp [Lib.indexByte]
  | b :: A, B, c, h => by
    have h1 : (b == c) = false := by simpa using h b (by simp)
    have h2 := ib_hit A B c (fun x hx => h x (by simp [hx]))
    have h3 : ((A.length : Int) == -1) = false := by simp
    rw [List.cons_append]
    unfold Lib.indexByte
    simp [h1, h2, h3]
set_option maxHeartbeats 800000 in
theorem cutN (l : List UInt8) (c : UInt8) (h : ∀ b ∈ l, b ≠ c) (w : World) : Calls Tryd.prog 41 #[.string (bs l), .string ⟨#[c]⟩] w fun e w' => e = .returned (.tuple #[.string (bs l), .string (bs []), .bool false]) ∧ w' = w := by
  have HI : Hid (∀ w, Calls Tryd.prog 63 #[.string (bs l), .string ⟨#[c]⟩] w fun e w' => e = .returned (.int .i64 (-1)) ∧ w' = w) := fun w => by
    have h1 := index1 l c w
    rw [ib_none l c h] at h1; exact h1
  clear h
  generalize bs l = s at *
  go_enter Tryd.func41, Tryd.ntmps41
  go_wp2_with (fail)
  refine (HI.out _).mono ?_
  rintro e9 w9 ⟨rfl, hw9⟩
  subst w9
  go_wp2
  go_ret3
  exact ⟨rfl, rfl⟩
set_option maxHeartbeats 800000 in
theorem cutH (A B : List UInt8) (c : UInt8) (h : ∀ b ∈ A, b ≠ c) (hs : (A ++ c :: B).length ≤ 140737488355328) (w : World) : Calls Tryd.prog 41 #[.string (bs (A ++ c :: B)), .string ⟨#[c]⟩] w fun e w' => e = .returned (.tuple #[.string (bs A), .string (bs B), .bool true]) ∧ Below w.heap.size w w' := by
  have HI : Hid (∀ w, Calls Tryd.prog 63 #[.string (bs (A ++ c :: B)), .string ⟨#[c]⟩] w fun e w' => e = .returned (.int .i64 A.length) ∧ w' = w) := fun w => by
    have h1 := index1 (A ++ c :: B) c w
    rw [ib_hit A B c h] at h1; exact h1
  have e1 : (bs (A ++ c :: B)).extract 0 A.length = bs A := by rw [bs_ext]; simp
  have e2 : (bs (A ++ c :: B)).extract (A.length + 1) (bs (A ++ c :: B)).size = bs B := by
    rw [bs_ext, bs_size]
    congr 1
    rw [show A ++ c :: B = (A ++ [c]) ++ B by simp, List.drop_left' (by simp)]
    exact List.take_of_length_le (by simp; omega)
  have hsz : (bs (A ++ c :: B)).size = A.length + 1 + B.length := by rw [bs_size]; simp; omega
  have hs1 : (⟨#[c]⟩ : ByteArray).size = 1 := rfl
  rw [← bs_size, hsz] at hs
  generalize bs (A ++ c :: B) = s at *
  have HE : Hid (bs A = s.extract 0 A.length ∧ bs B = s.extract (A.length + 1) s.size) := ⟨e1.symm, e2.symm⟩
  clear h e1 e2
  generalize bs A = sA at *
  generalize bs B = sB at *
  generalize A.length = n at *
  generalize B.length = m at *
  go_enter Tryd.func41, Tryd.ntmps41
  go_wp2_with (fail)
  refine (HI.out _).mono ?_
  rintro e9 w9 ⟨rfl, hw9⟩
  subst w9
  clear HI
  have c1 : (0 : Int) ≤ (n : Int) := by omega
  have c2 : (n : Int) ≤ (s.size : Int) := by omega
  generalize (⟨#[c]⟩ : ByteArray) = sep at *
  have c3 : (0 : Int) ≤ (n : Int) + (sep.size : Int) := by omega
  have c4 : (n : Int) + (sep.size : Int) ≤ (s.size : Int) := by omega
  have c5 : IntKind.i64.wrap ((n : Int) + (sep.size : Int)) = (n : Int) + (sep.size : Int) := by rw [IntKind.wrap_i64]; omega
  have c6 : ((n : Int) + (sep.size : Int)).toNat = n + sep.size := by omega
  have HF : Hid (sA = s.extract 0 n ∧ sB = s.extract (n + sep.size) s.size) := by rw [hs1]; exact HE.out
  clear hs1 hsz hs HE
  go_wp2
  go_region_with (fail)
  all_goals
    go_wp2
    go_ret3
    refine ⟨?_, Below.drew (Below.refl _ _)⟩
    rw [HF.out.1, HF.out.2]
    simp [Act.put]
set_option maxHeartbeats 800000 in
theorem scut (c : UInt8) (s : ByteArray) (a b : ByteArray) (p : Bool) (w : World) (h : ∀ w, Calls Tryd.prog 41 #[.string s, .string ⟨#[c]⟩] w fun e w' => e = .returned (.tuple #[.string a, .string b, .bool p]) ∧ Below w.heap.size w w') :
    Calls Tryd.prog 25 #[.string s, .string ⟨#[c]⟩] w fun e w' => e = .returned (.tuple #[.string a, .string b, .bool p]) ∧ Below w.heap.size w w' := by
  have HI : Hid (∀ w, Calls Tryd.prog 41 #[.string s, .string ⟨#[c]⟩] w fun e w' => e = .returned (.tuple #[.string a, .string b, .bool p]) ∧ Below w.heap.size w w') := h
  clear h
  go_enter Tryd.func25, Tryd.ntmps25
  go_wp2_with (fail)
  refine (HI.out _).mono ?_
  rintro e9 w9 ⟨rfl, hw9⟩
  go_wp2
  go_ret3
  exact ⟨rfl, hw9⟩
/-- A text cut at the first byte c. -/
def ca (c : UInt8) : List UInt8 → List UInt8
  | [] => []
  | b :: l => if b = c then [] else b :: ca c l
def cb (c : UInt8) : List UInt8 → List UInt8
  | [] => []
  | b :: l => if b = c then l else cb c l
theorem cut_all (c : UInt8) (l : List UInt8) : ((∀ b ∈ l, b ≠ c) ∧ ca c l = l ∧ cb c l = []) ∨ (l = ca c l ++ c :: cb c l ∧ ∀ b ∈ ca c l, b ≠ c) := by
  induction l with
  | nil => exact .inl ⟨by simp, rfl, rfl⟩
  | cons b l ih =>
    by_cases h : b = c
    · subst h
      right
      simp [ca, cb]
    · rcases ih with ⟨h1, h2, h3⟩ | ⟨h1, h2⟩
      · left
        refine ⟨?_, by rw [ca, if_neg h, h2], by rw [cb, if_neg h, h3]⟩
        intro x hx
        rcases List.mem_cons.1 hx with rfl | hx
        · exact h
        · exact h1 x hx
      · right
        rw [ca, if_neg h, cb, if_neg h]
        refine ⟨by rw [List.cons_append, ← h1], ?_⟩
        intro x hx
        rcases List.mem_cons.1 hx with rfl | hx
        · exact h
        · exact h2 x hx
theorem cut_any (l : List UInt8) (c : UInt8) (hl : l.length ≤ 140737488355328) (w : World) : Calls Tryd.prog 25 #[.string (bs l), .string ⟨#[c]⟩] w fun e w' => (∃ p : Bool, e = .returned (.tuple #[.string (bs (ca c l)), .string (bs (cb c l)), .bool p])) ∧ Below w.heap.size w w' := by
  rcases cut_all c l with ⟨h1, h2, h3⟩ | ⟨h1, h2⟩
  · rw [h2, h3]
    refine (scut c (bs l) (bs l) (bs []) false w (fun w => (cutN l c h1 w).mono ?_)).mono ?_
    · rintro e w' ⟨rfl, rfl⟩; exact ⟨rfl, Below.refl _ _⟩
    · rintro e w' ⟨rfl, hb⟩; exact ⟨⟨false, rfl⟩, hb⟩
  · have H := cutH (ca c l) (cb c l) c h2 (by rw [← h1]; exact hl)
    rw [← h1] at H
    refine (scut c (bs l) _ _ true w H).mono ?_
    rintro e w' ⟨rfl, hb⟩; exact ⟨⟨true, rfl⟩, hb⟩
end Hx
end Go.Proofs.YtbbpnlflihhflaaDoor
