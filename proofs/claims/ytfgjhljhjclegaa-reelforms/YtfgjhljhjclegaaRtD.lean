import Derived.Test.YtfgjhljhjclegaaRtC
namespace Go.Proofs.Ytfgjhljhjclegaa
namespace Rt
open Go.RowKit
set_option linter.unusedVariables false
set_option maxRecDepth 8000
/-- Like Below, and the row may have turned. -/
theorem below_end {B g : Nat} {w0 w w' : World} (h : Below B w0 w) (hb : But g w w') (hB : B ≤ g) : Below B w0 w' := h.trans (hb.below hB)
/-- The cells of a form. -/
abbrev SF (b : Nat) (x : Int) (W : World) : Prop := W.cell? ⟨b, 0, none⟩ = some (.int .i64 x) ∧ W.cell? ⟨b, 1, none⟩ = some (.func (.func 38) #[] #[]) ∧ W.cell? ⟨b, 2, none⟩ = some (.func (.func 39) #[] #[])
theorem SF.on {b g : Nat} {x : Int} {W W' : World} (h : SF b x W) (hb : But g W W') (hne : b ≠ g) : SF b x W' := ⟨(hb.cell (p := ⟨b, 0, none⟩) hne).trans h.1, (hb.cell (p := ⟨b, 1, none⟩) hne).trans h.2.1, (hb.cell (p := ⟨b, 2, none⟩) hne).trans h.2.2⟩
theorem SF.below {b B : Nat} {x : Int} {W W' : World} (h : SF b x W) (hb : Below B W W') (hne : b < B) : SF b x W' := ⟨(hb.cell (p := ⟨b, 0, none⟩) hne).trans h.1, (hb.cell (p := ⟨b, 1, none⟩) hne).trans h.2.1, (hb.cell (p := ⟨b, 2, none⟩) hne).trans h.2.2⟩
abbrev oF (x : Int) : Obj := .cells #[.int .i64 x, .func (.func 38) #[] #[], .func (.func 39) #[] #[]] 25
theorem SF.new (w : World) (x : Int) : SF w.heap.size x (w.alloc (oF x)) := ⟨by simp, by simp, by simp⟩
set_option maxHeartbeats 1600000 in
theorem lay_any (x g n c : Nat) (L : List Int) (t : ByteArray) (w : World) (hw : Rw w g L) (h1 : 1 ≤ x) (h2 : x ≤ 256) (hx : x ≤ n) (hn : n ≤ L.length) (hc : n ≤ c) (hcm : c ≤ 1048576) (ht : t.size ≤ 9223372036854775807) :
    Calls Try.prog 42 #[fT x, .slice (some ⟨g, 0, none⟩) n c, .string t] w fun e w' => e = .returned (.tuple #[]) ∧ Rw w' g (over L 0 (txt t x)) ∧ Below g w w' := by
  have HP : Hid (∀ W, Rw W g L → Calls Try.prog 38 #[.slice (some ⟨g, 0, none⟩) x x, .string t] W fun e w' => e = .returned (.tuple #[]) ∧ Rw w' g (over L 0 (txt t x)) ∧ But g W w') := fun W h =>
    putText_any g x x L t _ h (by omega) (by omega) (by omega) ht
  have i1 : (0 : Int) ≤ (x : Int) := by omega
  have i2 : (x : Int) ≤ (n : Int) := by omega
  have i3 : (x : Int) ≤ (c : Int) := by omega
  have i4 : x ≤ c := by omega
  have i5 : IntKind.i64.wrap (x : Int) = (x : Int) := by rw [IntKind.wrap_i64]; omega
  have hS := SF.new w x
  have hlt := hw.lt
  obtain ⟨b, hb⟩ : ∃ b, b = w.heap.size := ⟨_, rfl⟩
  obtain ⟨W, hW⟩ : ∃ W, W = w.alloc (oF x) := ⟨_, rfl⟩
  have hbW : Below g w W := by rw [hW]; exact (Below.refl _ _).alloc (Nat.le_of_lt hw.lt) _
  have hrW : Rw W g L := by rw [hW]; exact hw.alloc _
  rw [← hW, ← hb] at hS
  have HW : Hid (W = w.alloc (oF x)) := hW
  have HB : Hid (b = w.heap.size) := hb
  have hne : b ≠ g := by omega
  have hS0 : Hid (SF b x W.drew) := hS
  clear hW hb hS hw
  go_enter Try.func42, Try.ntmps42
  go_wp2
  rw [← HW.out, ← HB.out]
  go_region_held3 (SF b x) ((first | (with_reducible exact hS5.out) | (with_reducible exact hS0.out)))
    ((go_at_call 38; refine (HP.out _ (by exact hrW)).mono ?_; rintro e5 w5 ⟨rfl, h5, h6⟩; have hS5 : Hid (SF b x w5) := SF.on hS0.out h6 hne))
  go_wp2
  go_returns
  exact ⟨rfl, h5, below_end hbW.drew h6 (Nat.le_refl _)⟩
set_option maxHeartbeats 1600000 in
theorem take_any (x g n c : Nat) (L : List Int) (w : World) (hw : Rw w g L) (h1 : 1 ≤ x) (h2 : x ≤ 256) (hx : x ≤ n) (hn : n ≤ L.length) (hc : n ≤ c) (hcm : c ≤ 1048576) :
    Calls Try.prog 43 #[fT x, .slice (some ⟨g, 0, none⟩) n c] w fun e w' => e = .returned (.string (bstr (L.take x))) ∧ Below w.heap.size w w' := by
  have HP : Hid (∀ W, Rw W g L → Calls Try.prog 39 #[.slice (some ⟨g, 0, none⟩) x x] W fun e w' => e = .returned (.string (bstr (L.take x))) ∧ w' = W) := fun W h =>
    text_any g x x L W h (by omega)
  have i1 : (0 : Int) ≤ (x : Int) := by omega
  have i2 : (x : Int) ≤ (n : Int) := by omega
  have i3 : (x : Int) ≤ (c : Int) := by omega
  have i4 : x ≤ c := by omega
  have i5 : IntKind.i64.wrap (x : Int) = (x : Int) := by rw [IntKind.wrap_i64]; omega
  have hS := SF.new w x
  have hlt := hw.lt
  obtain ⟨b, hb⟩ : ∃ b, b = w.heap.size := ⟨_, rfl⟩
  obtain ⟨W, hW⟩ : ∃ W, W = w.alloc (oF x) := ⟨_, rfl⟩
  have hbW : Below w.heap.size w W := by rw [hW]; exact (Below.refl _ _).alloc (Nat.le_refl _) _
  have hrW : Rw W g L := by rw [hW]; exact hw.alloc _
  rw [← hW, ← hb] at hS
  have HW : Hid (W = w.alloc (oF x)) := hW
  have HB : Hid (b = w.heap.size) := hb
  have hS0 : Hid (SF b x W.drew) := hS
  clear hW hb hS hw
  go_enter Try.func43, Try.ntmps43
  go_wp2
  rw [← HW.out, ← HB.out]
  go_region_held3 (SF b x) ((with_reducible exact hS0.out))
    ((go_at_call 39; refine (HP.out _ (by exact hrW)).mono ?_; rintro e5 w5 ⟨rfl, h5⟩; subst w5))
  go_wp2
  go_ret
  exact ⟨rfl, hbW.drew⟩
end Rt
end Go.Proofs.Ytfgjhljhjclegaa
