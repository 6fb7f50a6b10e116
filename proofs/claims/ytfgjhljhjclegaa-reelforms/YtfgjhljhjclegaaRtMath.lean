import Derived.WalkKit
import Derived.Laws.BytesString
namespace Go.Proofs.Ytfgjhljhjclegaa
namespace Rt
open Go.RowKit
set_option linter.unusedVariables false
def Bytes (L : List Int) : Prop := ∀ x ∈ L, 0 ≤ x ∧ x ≤ 255
theorem getD_b (L : List Int) (h : Bytes L) (i : Nat) : 0 ≤ L.getD i 0 ∧ L.getD i 0 ≤ 255 := by
  rw [List.getD_eq_getElem?_getD]
  cases e : L[i]? with
  | none => simp
  | some x => exact h x (List.mem_of_getElem? e)
/-- The bytes of a text as numbers. -/
def tb (t : ByteArray) : List Int := t.data.toList.map fun b => (b.toNat : Int)
theorem tb_len (t : ByteArray) : (tb t).length = t.size := by simp [tb]
theorem tb_get (t : ByteArray) (i : Nat) (h : i < t.size) : (tb t).getD i 0 = (t[i].toNat : Int) := by
  have h' : i < t.data.toList.length := by simpa using h
  unfold tb
  rw [List.getD_eq_getElem?_getD, List.getElem?_map, List.getElem?_eq_getElem h']; rfl
theorem tb_bytes (t : ByteArray) : Bytes (tb t) := by
  intro x hx
  obtain ⟨b, _, rfl⟩ := List.mem_map.1 hx
  have := b.toNat_lt
  omega
/-- A text of so many bytes: cut, or with zeros behind it. -/
def txt (t : ByteArray) (n : Nat) : List Int := (tb t).take n ++ List.replicate (n - t.size) 0
theorem txt_len (t : ByteArray) (n : Nat) : (txt t n).length = n := by
  unfold txt; simp [tb_len]; omega
theorem txt_bytes (t : ByteArray) (n : Nat) : Bytes (txt t n) := by
  intro x hx
  rcases List.mem_append.1 hx with h | h
  · exact tb_bytes t x (List.mem_of_mem_take h)
  · rw [List.eq_of_mem_replicate h]; omega
/-- Numbers as a text. -/
def bstr (L : List Int) : ByteArray := L.foldl (fun r n => r.push (UInt8.ofNat n.toNat)) ByteArray.empty
theorem push_data (L : List Int) : ∀ s : ByteArray, (L.foldl (fun r n => r.push (UInt8.ofNat n.toNat)) s).data.toList = s.data.toList ++ L.map (fun n => UInt8.ofNat n.toNat) := by
  induction L with
  | nil => intro s; simp
  | cons a l ih => intro s; rw [List.foldl_cons, ih]; simp [ByteArray.push]
theorem bstr_data (L : List Int) : (bstr L).data.toList = L.map (fun n => UInt8.ofNat n.toNat) := by
  unfold bstr; rw [push_data]; simp
theorem bstr_size (L : List Int) : (bstr L).size = L.length := by
  have h := congrArg List.length (bstr_data L)
  simpa using h
theorem bstr_get (L : List Int) (h : Bytes L) (i : Nat) : (((bstr L).data.toList.getD i 0).toNat : Int) = L.getD i 0 := by
  rw [bstr_data, List.getD_eq_getElem?_getD, List.getElem?_map, List.getD_eq_getElem?_getD]
  cases e : L[i]? with
  | none => rfl
  | some x =>
    have := h x (List.mem_of_getElem? e)
    simp
    omega
/-- A piece laid over a list. -/
def over (L : List Int) (o : Nat) (X : List Int) : List Int := L.take o ++ X ++ L.drop (o + X.length)
theorem over_len (L : List Int) (o : Nat) (X : List Int) (h : o + X.length ≤ L.length) : (over L o X).length = L.length := by
  unfold over; simp; omega
theorem over_txt (L : List Int) (t : ByteArray) (n : Nat) (hn : n ≤ L.length) :
    over (over L 0 ((tb t).take n)) (min t.size n) (List.replicate (n - min t.size n) 0) = over L 0 (txt t n) := by
  unfold over txt
  have hl := tb_len t
  by_cases h : t.size ≤ n
  · rw [Nat.min_eq_left h, List.take_of_length_le (l := tb t) (by omega)]
    simp [hl]
    rw [List.drop_append, hl]
    simp
    omega
  · rw [Nat.min_eq_right (by omega), show n - t.size = 0 by omega, show n - n = 0 by omega]
    have e : ((tb t).take n).length = n := by simp; omega
    simp [e]
theorem over_getD (L X : List Int) (i : Nat) : (over L 0 X).getD i 0 = if i < X.length then X.getD i 0 else L.getD i 0 := by
  unfold over
  simp only [List.take_zero, List.nil_append, Nat.zero_add]
  rw [List.getD_eq_getElem?_getD, List.getElem?_append]
  split
  · rw [List.getD_eq_getElem?_getD]
  · rw [List.getElem?_drop, List.getD_eq_getElem?_getD]
    congr 2
    omega
theorem over_take (L X : List Int) : (over L 0 X).take X.length = X := by
  unfold over; simp
theorem over_bytes (L X : List Int) (o : Nat) (h : Bytes L) (h' : Bytes X) : Bytes (over L o X) := by
  intro x hx
  unfold over at hx
  rcases List.mem_append.1 hx with h1 | h1
  · rcases List.mem_append.1 h1 with h2 | h2
    · exact h x (List.mem_of_mem_take h2)
    · exact h' x h2
  · exact h x (List.mem_of_mem_drop h1)
end Rt
end Go.Proofs.Ytfgjhljhjclegaa
