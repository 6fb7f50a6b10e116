import Derived.Test.YtfgjhljhjclegaaRfB
namespace Go.Proofs.Ytfgjhljhjclegaa
namespace Rt
open Go.RowKit
set_option linter.unusedVariables false
set_option maxRecDepth 8000
/-- Worlds alike but for one block and new ones. -/
structure Bx (g : Nat) (w w' : World) : Prop where
  os : w'.os = w.os
  tape : w'.tape = w.tape
  output : w'.output = w.output
  size : w.heap.size ≤ w'.heap.size
  block : ∀ k, k < w.heap.size → k ≠ g → w'.heap[k]? = w.heap[k]?
theorem Bx.refl (g : Nat) (w : World) : Bx g w w := ⟨rfl, rfl, rfl, Nat.le_refl _, fun _ _ _ => rfl⟩
theorem Bx.trans {g : Nat} {a b c : World} (h : Bx g a b) (k : Bx g b c) : Bx g a c :=
  ⟨k.os.trans h.os, k.tape.trans h.tape, k.output.trans h.output, Nat.le_trans h.size k.size, fun j hj hn => (k.block j (Nat.lt_of_lt_of_le hj h.size) hn).trans (h.block j hj hn)⟩
theorem But.bx {g : Nat} {w w' : World} (h : But g w w') : Bx g w w' := ⟨h.os, h.tape, h.output, by rw [h.size]; exact Nat.le_refl _, fun k _ hn => h.block k hn⟩
theorem Bx.of {g : Nat} {w w' : World} (h : Below w.heap.size w w') : Bx g w w' := ⟨h.os, h.tape, h.output, h.size, fun k hk _ => h.block k hk⟩
theorem Bx.alloc {g : Nat} {w w' : World} (h : Bx g w w') (o : Obj) : Bx g w (w'.alloc o) := h.trans (Bx.of ((Below.refl _ _).alloc (Nat.le_refl _) _))
theorem Bx.drew {g : Nat} {w w' : World} (h : Bx g w w') : Bx g w w'.drew := ⟨h.os, h.tape, h.output, h.size, h.block⟩
theorem Bx.below {g B : Nat} {w w' : World} (h : Bx g w w') (hB : B ≤ g) (hg : g ≤ w.heap.size) : Below B w w' := ⟨h.os, h.tape, h.output, h.size, fun k hk => h.block k (by omega) (by omega)⟩
theorem Bx.cell {g : Nat} {w w' : World} (h : Bx g w w') {p : Addr} (h1 : p.block < w.heap.size) (h2 : p.block ≠ g) : w'.cell? p = w.cell? p := World.cell?_of_block (w := w) (h.block p.block h1 h2)
/-- Three cells of a block. -/
abbrev S3 (b : Nat) (x y z : Value) (W : World) : Prop := W.cell? ⟨b, 0, none⟩ = some x ∧ W.cell? ⟨b, 1, none⟩ = some y ∧ W.cell? ⟨b, 2, none⟩ = some z
theorem S3.on {b g : Nat} {x y z : Value} {W W' : World} (h : S3 b x y z W) (hb : Bx g W W') (hl : b < W.heap.size) (hne : b ≠ g) : S3 b x y z W' := ⟨(hb.cell (p := ⟨b, 0, none⟩) hl hne).trans h.1, (hb.cell (p := ⟨b, 1, none⟩) hl hne).trans h.2.1, (hb.cell (p := ⟨b, 2, none⟩) hl hne).trans h.2.2⟩
theorem S3.below {b B : Nat} {x y z : Value} {W W' : World} (h : S3 b x y z W) (hb : Below B W W') (hne : b < B) : S3 b x y z W' := ⟨(hb.cell (p := ⟨b, 0, none⟩) hne).trans h.1, (hb.cell (p := ⟨b, 1, none⟩) hne).trans h.2.1, (hb.cell (p := ⟨b, 2, none⟩) hne).trans h.2.2⟩
theorem S3.new (w : World) (x y z : Value) (t : TypeId) : S3 w.heap.size x y z (w.alloc (.cells #[x, y, z] t)) := ⟨by simp, by simp, by simp⟩
theorem S3.lt {b : Nat} {x y z : Value} {W : World} (h : S3 b x y z W) : b < W.heap.size := World.block_lt_of_cell? _ _ h.1
theorem S3.alloc {b : Nat} {x y z : Value} {W : World} (h : S3 b x y z W) (o : Obj) : S3 b x y z (W.alloc o) := h.below ((Below.refl W.heap.size W).alloc (Nat.le_refl _) o) h.lt
/-- An edge, an update. -/
abbrev eV (a b c : Int) : Value := .agg #[.int .u32 a, .int .u32 b, .int .u32 c]
abbrev uV (a b c : Int) : Value := .agg #[.int .u32 a, .int .u64 b, .int .u64 c]
theorem over_app4 (L X : List Int) (a : Int) (k : Nat) (n : Nat) (h : X.length = n) : over (over L 0 X) n (lb a k) = over L 0 (X ++ lb a k) := by subst h; exact over_app L X _
set_option maxHeartbeats 1600000 in
theorem putPlain_ok (g n c : Nat) (x y z : Int) (L : List Int) (w : World) (hw : Rw w g L) (hn : 8 ≤ n) (hl : n ≤ L.length) (hc : n ≤ c) (hcm : c ≤ 1048576) (hx0 : 0 ≤ x) (hx1 : x < 4294967296) (hy0 : 0 ≤ y) (hy1 : y < 4294967296) :
    Calls Try.prog 44 #[.slice (some ⟨g, 0, none⟩) n c, eV x y z] w fun e w' => e = .returned (.tuple #[]) ∧ Rw w' g (over L 0 (lb x 4 ++ lb y 4)) ∧ Bx g w w' := by
  have hlt := hw.lt
  have s1 := S3.new w (.int .u32 x) (.int .u32 y) (.int .u32 z) 40
  have r1 := hw.alloc (.cells #[.int .u32 x, .int .u32 y, .int .u32 z] 40)
  have HP : Hid (∀ W, Rw W g L → Calls Try.prog 77 #[.slice (some ⟨g, 0, none⟩) n c, .int .i64 0, .int .i64 4, .int .u64 x] W fun e w' => e = .returned (.int .i64 0) ∧ Rw w' g (over L 0 (lb x 4)) ∧ But g W w') := fun W h => put_ok g n c 0 4 x L W hcm h hl hc (by omega) (by omega) (by omega) hx0 (by omega)
  have HQ : Hid (∀ W, Rw W g (over L 0 (lb x 4)) → Calls Try.prog 77 #[.slice (some ⟨g, 0, none⟩) n c, .int .i64 4, .int .i64 4, .int .u64 y] W fun e w' => e = .returned (.int .i64 0) ∧ Rw w' g (over L 0 (lb x 4 ++ lb y 4)) ∧ But g W w') := fun W h => by
    have := put_ok g n c 4 4 y _ W hcm h (by rw [over_len _ _ _ (by rw [lb_len]; omega)]; exact hl) hc (by omega) (by omega) (by omega) hy0 (by omega)
    rw [over_app4 L (lb x 4) y 4 4 (lb_len _ _)] at this; exact this
  have b1 : Bx g w (w.alloc (.cells #[.int .u32 x, .int .u32 y, .int .u32 z] 40)) := (Bx.refl _ _).alloc _
  go_enter Try.func44, Try.ntmps44
  go_wp2_with fail
  refine (HP.out _ r1).mono ?_
  rintro e2 w2 ⟨rfl, r2, b2⟩
  obtain ⟨s20, s21, s22⟩ := s1.on b2.bx (by simp) (by omega)
  have d2 := b1.trans b2.bx
  clear b2 b1 r1 s1
  go_wp2_with fail
  refine (HQ.out _ r2).mono ?_
  rintro e3 w3 ⟨rfl, r3, b3⟩
  go_wp2
  go_returns
  exact ⟨rfl, r3, d2.trans b3.bx⟩
set_option maxHeartbeats 1600000 in
theorem putWeighted_ok (g n c : Nat) (x y z : Int) (L : List Int) (w : World) (hw : Rw w g L) (hn : 12 ≤ n) (hl : n ≤ L.length) (hc : n ≤ c) (hcm : c ≤ 1048576) (hx0 : 0 ≤ x) (hx1 : x < 4294967296) (hy0 : 0 ≤ y) (hy1 : y < 4294967296) (hz0 : 0 ≤ z) (hz1 : z < 4294967296) :
    Calls Try.prog 46 #[.slice (some ⟨g, 0, none⟩) n c, eV x y z] w fun e w' => e = .returned (.tuple #[]) ∧ Rw w' g (over L 0 (lb x 4 ++ lb y 4 ++ lb z 4)) ∧ Bx g w w' := by
  have hlt := hw.lt
  have s1 := S3.new w (.int .u32 x) (.int .u32 y) (.int .u32 z) 40
  have r1 := hw.alloc (.cells #[.int .u32 x, .int .u32 y, .int .u32 z] 40)
  have HP : Hid (∀ W, Rw W g L → Calls Try.prog 44 #[.slice (some ⟨g, 0, none⟩) n c, eV x y z] W fun e w' => e = .returned (.tuple #[]) ∧ Rw w' g (over L 0 (lb x 4 ++ lb y 4)) ∧ Bx g W w') := fun W h => putPlain_ok g n c x y z L W h (by omega) hl hc hcm hx0 hx1 hy0 hy1
  have HQ : Hid (∀ W, Rw W g (over L 0 (lb x 4 ++ lb y 4)) → Calls Try.prog 77 #[.slice (some ⟨g, 0, none⟩) n c, .int .i64 8, .int .i64 4, .int .u64 z] W fun e w' => e = .returned (.int .i64 0) ∧ Rw w' g (over L 0 (lb x 4 ++ lb y 4 ++ lb z 4)) ∧ But g W w') := fun W h => by
    have := put_ok g n c 8 4 z _ W hcm h (by rw [over_len _ _ _ (by simp [lb_len]; omega)]; exact hl) hc (by omega) (by omega) (by omega) hz0 (by omega)
    rw [over_app4 L (lb x 4 ++ lb y 4) z 4 8 (by simp [lb_len])] at this; exact this
  have b1 : Bx g w (w.alloc (.cells #[.int .u32 x, .int .u32 y, .int .u32 z] 40)) := (Bx.refl _ _).alloc _
  go_enter Try.func46, Try.ntmps46
  go_wp2_with fail
  refine (HP.out _ r1).mono ?_
  rintro e2 w2 ⟨rfl, r2, b2⟩
  obtain ⟨s20, s21, s22⟩ := s1.on b2 (by simp) (by omega)
  have d2 := b1.trans b2
  clear b2 b1 r1 s1
  go_wp2_with fail
  refine (HQ.out _ r2).mono ?_
  rintro e3 w3 ⟨rfl, r3, b3⟩
  go_wp2
  go_returns
  exact ⟨rfl, r3, d2.trans b3.bx⟩
set_option maxHeartbeats 1600000 in
theorem putUpdate_ok (g n c : Nat) (x y z : Int) (L : List Int) (w : World) (hw : Rw w g L) (hn : 20 ≤ n) (hl : n ≤ L.length) (hc : n ≤ c) (hcm : c ≤ 1048576) (hx0 : 0 ≤ x) (hx1 : x < 4294967296) (hy0 : 0 ≤ y) (hy1 : y < 18446744073709551616) (hz0 : 0 ≤ z) (hz1 : z < 18446744073709551616) :
    Calls Try.prog 52 #[.slice (some ⟨g, 0, none⟩) n c, uV x y z] w fun e w' => e = .returned (.tuple #[]) ∧ Rw w' g (over L 0 (lb x 4 ++ lb y 8 ++ lb z 8)) ∧ Bx g w w' := by
  have hlt := hw.lt
  have s1 := S3.new w (.int .u32 x) (.int .u64 y) (.int .u64 z) 43
  have r1 := hw.alloc (.cells #[.int .u32 x, .int .u64 y, .int .u64 z] 43)
  have HP : Hid (∀ W, Rw W g L → Calls Try.prog 77 #[.slice (some ⟨g, 0, none⟩) n c, .int .i64 0, .int .i64 4, .int .u64 x] W fun e w' => e = .returned (.int .i64 0) ∧ Rw w' g (over L 0 (lb x 4)) ∧ But g W w') := fun W h => put_ok g n c 0 4 x L W hcm h hl hc (by omega) (by omega) (by omega) hx0 (by omega)
  have HQ : Hid (∀ W, Rw W g (over L 0 (lb x 4)) → Calls Try.prog 77 #[.slice (some ⟨g, 0, none⟩) n c, .int .i64 4, .int .i64 8, .int .u64 y] W fun e w' => e = .returned (.int .i64 0) ∧ Rw w' g (over L 0 (lb x 4 ++ lb y 8)) ∧ But g W w') := fun W h => by
    have := put_ok g n c 4 8 y _ W hcm h (by rw [over_len _ _ _ (by rw [lb_len]; omega)]; exact hl) hc (by omega) (by omega) (by omega) hy0 (by omega)
    rw [over_app4 L (lb x 4) y 8 4 (lb_len _ _)] at this; exact this
  have HR : Hid (∀ W, Rw W g (over L 0 (lb x 4 ++ lb y 8)) → Calls Try.prog 77 #[.slice (some ⟨g, 0, none⟩) n c, .int .i64 12, .int .i64 8, .int .u64 z] W fun e w' => e = .returned (.int .i64 0) ∧ Rw w' g (over L 0 (lb x 4 ++ lb y 8 ++ lb z 8)) ∧ But g W w') := fun W h => by
    have := put_ok g n c 12 8 z _ W hcm h (by rw [over_len _ _ _ (by simp [lb_len]; omega)]; exact hl) hc (by omega) (by omega) (by omega) hz0 (by omega)
    rw [over_app4 L (lb x 4 ++ lb y 8) z 8 12 (by simp [lb_len])] at this; exact this
  have b1 : Bx g w (w.alloc (.cells #[.int .u32 x, .int .u64 y, .int .u64 z] 43)) := (Bx.refl _ _).alloc _
  go_enter Try.func52, Try.ntmps52
  go_wp2_with fail
  refine (HP.out _ r1).mono ?_
  rintro e2 w2 ⟨rfl, r2, b2⟩
  have s2 := s1.on b2.bx (by simp) (by omega)
  obtain ⟨s20, s21, s22⟩ := s2
  have d2 := b1.trans b2.bx
  clear b2 b1 r1 s1
  go_wp2_with fail
  refine (HQ.out _ r2).mono ?_
  rintro e3 w3 ⟨rfl, r3, b3⟩
  obtain ⟨s30, s31, s32⟩ := S3.on ⟨s20, s21, s22⟩ b3.bx (World.block_lt_of_cell? _ _ s20) (by omega)
  have d3 := d2.trans b3.bx
  clear b3 d2 r2 s20 s21 s22
  go_wp2_with fail
  refine (HR.out _ r3).mono ?_
  rintro e4 w4 ⟨rfl, r4, b4⟩
  go_wp2
  go_returns
  exact ⟨rfl, r4, d3.trans b4.bx⟩
end Rt
end Go.Proofs.Ytfgjhljhjclegaa
