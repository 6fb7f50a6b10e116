import Derived.Test.YtbnmjmlcedkoaabGreatDoorTyL9P
import Derived.Test.YtbnmjmlcedkoaabGreatDoorTyN
import Derived.Test.YtbnmjmlcedkoaabGreatDoorTyC
namespace Go.Proofs.YtbnmjmlcedkoaabGreatDoor
namespace Ty
open Go.RowKit
set_option linter.unusedVariables false
def PostR (v wx : World) (g1 g2 : Nat) (A B : Int) : Prop := Below v.heap.size v wx ∧ wx.rowIs g1 25 6 (fun i => .int .u64 (wd A i)) ∧ wx.rowIs g2 25 6 (fun i => .int .u64 (wd B i)) ∧ g1 ≠ g2 ∧ v.heap.size ≤ g1 ∧ v.heap.size ≤ g2
theorem post_ofR {v W : World} {g1 g2 : Nat} (A B : Int) (hb : Below v.heap.size v W) (z1 : ZF W g1) (z2 : ZF W g2) (ne : g1 ≠ g2) (l1 : v.heap.size ≤ g1) (l2 : v.heap.size ≤ g2) : PostR v (six (six W g1 A) g2 B) g1 g2 A B :=
  ⟨six_below B (six_below A hb l1) l2, six_other B (six_row A z1) ne, six_row B (six_other A z2 (Ne.symm ne)), ne, l1, l2⟩
theorem post1aR {v w8 : World} {o : Nat} (A B : Int) (hb : Below v.heap.size v w8) (z : ZF w8 o) (lo : v.heap.size ≤ o) : PostR v ((six w8 o A).alloc (.cells (sm B) 25)) o w8.heap.size A B :=
  ⟨bl_any0 (six_below A hb lo) _, more_row _ (six_row A z), last_row' _ B _ (six_size _ _ _), by have := z.lt; omega, lo, hb.size⟩
theorem post1bR {v w8 : World} {o : Nat} (A B : Int) (hb : Below v.heap.size v w8) (z : ZF w8 o) (lo : v.heap.size ≤ o) : PostR v ((six w8 o B).alloc (.cells (sm A) 25)) w8.heap.size o A B :=
  ⟨bl_any0 (six_below B hb lo) _, last_row' _ A _ (six_size _ _ _), more_row _ (six_row B z), by have := z.lt; omega, hb.size, lo⟩
theorem post0aR {v w8 : World} (A B : Int) (hb : Below v.heap.size v w8) : PostR v ((w8.alloc (.cells (sm A) 25)).alloc (.cells (sm B) 25)) w8.heap.size (w8.heap.size + 1) A B :=
  ⟨bl_any0 (bl_any0 hb _) _, more_row _ (last_row w8 A), last_row' _ B _ (by simp), by omega, hb.size, Nat.le_succ_of_le hb.size⟩
theorem post0bR {v w8 : World} (A B : Int) (hb : Below v.heap.size v w8) : PostR v ((w8.alloc (.cells (sm B) 25)).alloc (.cells (sm A) 25)) (w8.heap.size + 1) w8.heap.size A B :=
  ⟨bl_any0 (bl_any0 hb _) _, last_row' _ A _ (by simp), more_row _ (last_row w8 B), by omega, Nat.le_succ_of_le hb.size, hb.size⟩
def Rdy2R (v w8 : World) (ga gb : Nat) (A B : Int) : Prop :=
  Hid (PostR v (six (six w8 ga A) gb B) ga gb A B ∧ PostR v (six (six w8 gb A) ga B) gb ga A B) ∧ ga ≠ gb ∧ gb ≠ ga
theorem rdy2R {v W : World} {ga gb : Nat} (A B : Int) (hb : Below v.heap.size v W) (za : ZF W ga) (zb : ZF W gb) (ne : ga ≠ gb) (la : v.heap.size ≤ ga) (lb : v.heap.size ≤ gb) : Rdy2R v W ga gb A B :=
  ⟨⟨post_ofR A B hb za zb ne la lb, post_ofR A B hb zb za (Ne.symm ne) lb la⟩, ne, Ne.symm ne⟩
def Rdy1R (v w8 : World) (o : Nat) (A B : Int) : Prop :=
  Hid (PostR v ((six w8 o A).alloc (.cells (sm B) 25)) o w8.heap.size A B ∧ PostR v ((six w8 o B).alloc (.cells (sm A) 25)) w8.heap.size o A B) ∧ o ≠ w8.heap.size ∧ w8.heap.size ≠ o
theorem rdy1R {v W : World} {o : Nat} (A B : Int) (hb : Below v.heap.size v W) (z : ZF W o) (lo : v.heap.size ≤ o) : Rdy1R v W o A B :=
  ⟨⟨post1aR A B hb z lo, post1bR A B hb z lo⟩, by have := z.lt; omega, by have := z.lt; omega⟩
def Rdy0R (v w8 : World) (A B : Int) : Prop :=
  Hid (PostR v ((w8.alloc (.cells (sm A) 25)).alloc (.cells (sm B) 25)) w8.heap.size (w8.heap.size + 1) A B ∧ PostR v ((w8.alloc (.cells (sm B) 25)).alloc (.cells (sm A) 25)) (w8.heap.size + 1) w8.heap.size A B) ∧ True ∧ True
theorem rdy0R {v W : World} (A B : Int) (hb : Below v.heap.size v W) : Rdy0R v W A B := ⟨⟨post0aR A B hb, post0bR A B hb⟩, trivial, trivial⟩
theorem f20R {v w9 w8 : World} (A B : Int) (hA : Below ((v.alloc (.cells #[.int .u64 0, .int .u64 0, .int .u64 0, .int .u64 0, .int .u64 0, .int .u64 0] 25)).alloc (.cells #[.int .u64 0, .int .u64 0, .int .u64 0, .int .u64 0, .int .u64 0, .int .u64 0] 25)).drew.heap.size ((v.alloc (.cells #[.int .u64 0, .int .u64 0, .int .u64 0, .int .u64 0, .int .u64 0, .int .u64 0] 25)).alloc (.cells #[.int .u64 0, .int .u64 0, .int .u64 0, .int .u64 0, .int .u64 0, .int .u64 0] 25)).drew w9) (hB : Below w9.heap.size w9 w8) : Rdy2R v w8 v.heap.size (v.heap.size + 1) A B ∧ Zc w8 v.heap.size ∧ Zc w8 (v.heap.size + 1) :=
  ⟨rdy2R A B (bl_call (bl_call (bl_d (bl_new (bl_new (Below.refl _ v)))) hA) hB) (zf_keep (zf_keep (zf_d (zf_more (zf_new v))) hA) hB) (zf_keep (zf_keep (zf_d (zf_new1 v)) hA) hB) (by omega) (by omega) (by omega), zc (zf_keep (zf_keep (zf_d (zf_more (zf_new v))) hA) hB), zc (zf_keep (zf_keep (zf_d (zf_new1 v)) hA) hB)⟩
theorem f11R {v w9 w8 : World} (A B : Int) (hA : Below (v.alloc (.cells #[.int .u64 0, .int .u64 0, .int .u64 0, .int .u64 0, .int .u64 0, .int .u64 0] 25)).drew.heap.size (v.alloc (.cells #[.int .u64 0, .int .u64 0, .int .u64 0, .int .u64 0, .int .u64 0, .int .u64 0] 25)).drew w9) (hB : Below (w9.alloc (.cells #[.int .u64 0, .int .u64 0, .int .u64 0, .int .u64 0, .int .u64 0, .int .u64 0] 25)).heap.size (w9.alloc (.cells #[.int .u64 0, .int .u64 0, .int .u64 0, .int .u64 0, .int .u64 0, .int .u64 0] 25)) w8) : Rdy2R v w8 v.heap.size w9.heap.size A B ∧ Zc w8 v.heap.size ∧ Zc w8 w9.heap.size :=
  have h1 := zf_keep (zf_d (zf_new v)) hA
  have h2 : v.heap.size < w9.heap.size := h1.lt
  ⟨rdy2R A B (bl_call (bl_new (bl_call (bl_d (bl_new (Below.refl _ v))) hA)) hB) (zf_keep (zf_more h1) hB) (zf_keep (zf_new w9) hB) (by omega) (by omega) (by omega), zc (zf_keep (zf_more h1) hB), zc (zf_keep (zf_new w9) hB)⟩
theorem f02R {v w9 w8 : World} (A B : Int) (hA : Below v.drew.heap.size v.drew w9) (hB : Below ((w9.alloc (.cells #[.int .u64 0, .int .u64 0, .int .u64 0, .int .u64 0, .int .u64 0, .int .u64 0] 25)).alloc (.cells #[.int .u64 0, .int .u64 0, .int .u64 0, .int .u64 0, .int .u64 0, .int .u64 0] 25)).heap.size ((w9.alloc (.cells #[.int .u64 0, .int .u64 0, .int .u64 0, .int .u64 0, .int .u64 0, .int .u64 0] 25)).alloc (.cells #[.int .u64 0, .int .u64 0, .int .u64 0, .int .u64 0, .int .u64 0, .int .u64 0] 25)) w8) : Rdy2R v w8 w9.heap.size (w9.heap.size + 1) A B ∧ Zc w8 w9.heap.size ∧ Zc w8 (w9.heap.size + 1) :=
  have h2 : v.heap.size ≤ w9.heap.size := hA.size
  ⟨rdy2R A B (bl_call (bl_new (bl_new (bl_call (bl_drew v) hA))) hB) (zf_keep (zf_more (zf_new w9)) hB) (zf_keep (zf_new1 w9) hB) (by omega) (by omega) (by omega), zc (zf_keep (zf_more (zf_new w9)) hB), zc (zf_keep (zf_new1 w9) hB)⟩
theorem f10R {v w9 w8 : World} (A B : Int) (hA : Below (v.alloc (.cells #[.int .u64 0, .int .u64 0, .int .u64 0, .int .u64 0, .int .u64 0, .int .u64 0] 25)).drew.heap.size (v.alloc (.cells #[.int .u64 0, .int .u64 0, .int .u64 0, .int .u64 0, .int .u64 0, .int .u64 0] 25)).drew w9) (hB : Below w9.heap.size w9 w8) : Rdy1R v w8 v.heap.size A B ∧ v.heap.size < w8.heap.size ∧ Zc w8 v.heap.size :=
  have h1 := zf_keep (zf_keep (zf_d (zf_new v)) hA) hB
  have h2 : v.heap.size < w8.heap.size := h1.lt
  ⟨rdy1R A B (bl_call (bl_call (bl_d (bl_new (Below.refl _ v))) hA) hB) h1 (by omega), h2, zc h1⟩
theorem f01R {v w9 w8 : World} (A B : Int) (hA : Below v.drew.heap.size v.drew w9) (hB : Below (w9.alloc (.cells #[.int .u64 0, .int .u64 0, .int .u64 0, .int .u64 0, .int .u64 0, .int .u64 0] 25)).heap.size (w9.alloc (.cells #[.int .u64 0, .int .u64 0, .int .u64 0, .int .u64 0, .int .u64 0, .int .u64 0] 25)) w8) : Rdy1R v w8 w9.heap.size A B ∧ w9.heap.size < w8.heap.size ∧ Zc w8 w9.heap.size :=
  have h1 := zf_keep (zf_new w9) hB
  have h2 : w9.heap.size < w8.heap.size := h1.lt
  have h3 : v.heap.size ≤ w9.heap.size := hA.size
  ⟨rdy1R A B (bl_call (bl_new (bl_call (bl_drew v) hA)) hB) h1 (by omega), h2, zc h1⟩
theorem f00R {v w9 w8 : World} (A B : Int) (hA : Below v.drew.heap.size v.drew w9) (hB : Below w9.heap.size w9 w8) : Rdy0R v w8 A B :=
  rdy0R A B (bl_call (bl_call (bl_drew v) hA) hB)
theorem sizeDig : (Tryz.prog.info? 56).map (·.size) = some 220 := by kernel_rfl
/-- 220 zeros. -/
def z220 : Array Value := Array.replicate 220 (.int .u8 0)
theorem z220_eq : Tryz.zeroCells56 = z220 := by kernel_rfl
theorem z_row (w : World) : (w.alloc (.cells z220 56)).rowIs w.heap.size 56 220 (fun _ => .int .u8 0) :=
  ⟨_, heap_alloc_last w _, rfl, fun i hi => by simp [z220, hi]⟩
/-- A digit, ahead of the point and behind it. -/
def dA (N : Int) (i : Nat) : Int := N / 2 ^ 149 / 10 ^ i % 10
def dB (N : Int) (i : Nat) : Int := cm (N * 2 ^ 235 * 10 ^ i) 10 6
theorem dA_b (N : Int) (i : Nat) : 0 ≤ dA N i ∧ dA N i < 10 := by unfold dA; omega
theorem dB_b (N : Int) (i : Nat) : 0 ≤ dB N i ∧ dB N i < 10 := by
  unfold dB cm
  have hP := pw (64 * 6)
  generalize (2 : Int) ^ (64 * 6) = P at *
  generalize N * 2 ^ 235 * 10 ^ i = X
  have r1 := Int.emod_nonneg X (Int.ne_of_gt hP)
  have r2 := Int.emod_lt_of_pos X hP
  exact ⟨Int.ediv_nonneg (by omega) (by omega), Int.ediv_lt_of_lt_mul hP (by omega)⟩
/-- All digits, as letters. -/
def dgt (N : Int) (j : Nat) : Int := 48 + if j < 71 then dA N (70 - j) else dB N (j - 71)
end Ty
end Go.Proofs.YtbnmjmlcedkoaabGreatDoor
