import Derived.Test.YtobhmadckoemdaaTyLo
import Derived.Test.YtobhmadckoemdaaTyAw
import Derived.Test.YtobhmadckoemdaaTySw1
import Derived.Deep.DeepCutAuto
import Derived.Deep.RegionHeld3
namespace Go.Proofs.Ytobhmadckoemdaa
namespace Ty
open Go.RowKit
set_option linter.unusedVariables false
/-- A variable of six words, all 0. -/
def ZF (W : World) (g : Nat) : Prop := W.rowIs g 46 6 (fun _ => .int .u64 0)
theorem zf_new (W : World) : ZF (W.alloc (.cells #[.int .u64 0, .int .u64 0, .int .u64 0, .int .u64 0, .int .u64 0, .int .u64 0] 46)) W.heap.size := by
  have h := row_sm (N := 0) (t := 46) (w := W.alloc (.cells #[.int .u64 0, .int .u64 0, .int .u64 0, .int .u64 0, .int .u64 0, .int .u64 0] 46)) (b := W.heap.size) (by rw [zeros_sm]; exact heap_alloc_last W _)
  exact h.congr (fun i hi => by rw [zero_wd])
theorem zf_keep {W W' : World} {g : Nat} (h : ZF W g) (hb : Below W.heap.size W W') : ZF W' g := h.of_block (hb.block g h.lt)
theorem zf_more {W : World} {g : Nat} (h : ZF W g) : ZF (W.alloc (.cells #[.int .u64 0, .int .u64 0, .int .u64 0, .int .u64 0, .int .u64 0, .int .u64 0] 46)) g := h.of_block (blk_alloc _ _ _ h.lt)
theorem zf_d {W : World} {g : Nat} (h : ZF W g) : ZF W.drew g := h.of_block rfl
def PostW (v wx : World) (g1 g2 : Nat) (A B : Int) : Prop := Below v.heap.size v wx ∧ wx.cell? ⟨g1, 0, none⟩ = some (.int .u64 (wd A 0)) ∧ C6 wx g2 B ∧ v.heap.size ≤ g1 ∧ v.heap.size ≤ g2
theorem c6_row {W : World} {g : Nat} {N : Int} (h : W.rowIs g 46 6 (fun i => .int .u64 (wd N i))) : C6 W g N :=
  ⟨h.cell (show 0 < 6 by omega), h.cell (show 1 < 6 by omega), h.cell (show 2 < 6 by omega), h.cell (show 3 < 6 by omega), h.cell (show 4 < 6 by omega), h.cell (show 5 < 6 by omega)⟩
theorem post_of {v W : World} {g1 g2 : Nat} (A B : Int) (hb : Below v.heap.size v W) (z1 : ZF W g1) (z2 : ZF W g2) (ne : g1 ≠ g2) (l1 : v.heap.size ≤ g1) (l2 : v.heap.size ≤ g2) : PostW v (six (six W g1 A) g2 B) g1 g2 A B :=
  ⟨six_below B (six_below A hb l1) l2, (six_other B (six_row A z1) ne).cell (show 0 < 6 by omega), c6_row (six_row B (six_other A z2 (Ne.symm ne))), l1, l2⟩
theorem six_size (W : World) (g : Nat) (N : Int) : (six W g N).heap.size = W.heap.size := by simp [six]
theorem last_row (W : World) (N : Int) : (W.alloc (.cells (sm N) 46)).rowIs W.heap.size 46 6 (fun i => .int .u64 (wd N i)) := row_sm (heap_alloc_last W _)
theorem more_row {W : World} {g : Nat} {f : Nat → Value} (o : Obj) (h : W.rowIs g 46 6 f) : (W.alloc o).rowIs g 46 6 f := h.of_block (blk_alloc _ _ _ h.lt)
theorem last_row' (W : World) (N : Int) (g : Nat) (hg : W.heap.size = g) : (W.alloc (.cells (sm N) 46)).rowIs g 46 6 (fun i => .int .u64 (wd N i)) := by subst hg; exact last_row W N
theorem bl_any0 {v u : World} (h : Below v.heap.size v u) (o : Obj) : Below v.heap.size v (u.alloc o) := h.alloc h.size _
theorem post1a {v w8 : World} {o : Nat} (A B : Int) (hb : Below v.heap.size v w8) (z : ZF w8 o) (lo : v.heap.size ≤ o) : PostW v ((six w8 o A).alloc (.cells (sm B) 46)) o w8.heap.size A B :=
  ⟨bl_any0 (six_below A hb lo) _, (more_row _ (six_row A z)).cell (show 0 < 6 by omega), c6_row (last_row' _ B _ (six_size _ _ _)), lo, hb.size⟩
theorem post1b {v w8 : World} {o : Nat} (A B : Int) (hb : Below v.heap.size v w8) (z : ZF w8 o) (lo : v.heap.size ≤ o) : PostW v ((six w8 o B).alloc (.cells (sm A) 46)) w8.heap.size o A B :=
  ⟨bl_any0 (six_below B hb lo) _, (last_row' _ A _ (six_size _ _ _)).cell (show 0 < 6 by omega), c6_row (more_row _ (six_row B z)), hb.size, lo⟩
theorem post0a {v w8 : World} (A B : Int) (hb : Below v.heap.size v w8) : PostW v ((w8.alloc (.cells (sm A) 46)).alloc (.cells (sm B) 46)) w8.heap.size (w8.heap.size + 1) A B :=
  ⟨bl_any0 (bl_any0 hb _) _, (more_row _ (last_row w8 A)).cell (show 0 < 6 by omega), c6_row (last_row' _ B _ (by simp)), hb.size, Nat.le_succ_of_le hb.size⟩
theorem post0b {v w8 : World} (A B : Int) (hb : Below v.heap.size v w8) : PostW v ((w8.alloc (.cells (sm B) 46)).alloc (.cells (sm A) 46)) (w8.heap.size + 1) w8.heap.size A B :=
  ⟨bl_any0 (bl_any0 hb _) _, (last_row' _ A _ (by simp)).cell (show 0 < 6 by omega), c6_row (more_row _ (last_row w8 B)), Nat.le_succ_of_le hb.size, hb.size⟩
def Rdy2 (v w8 : World) (ga gb : Nat) (A B : Int) : Prop :=
  Hid (PostW v (six (six w8 ga A) gb B) ga gb A B ∧ PostW v (six (six w8 gb A) ga B) gb ga A B) ∧ ga ≠ gb ∧ gb ≠ ga
theorem rdy2 {v W : World} {ga gb : Nat} (A B : Int) (hb : Below v.heap.size v W) (za : ZF W ga) (zb : ZF W gb) (ne : ga ≠ gb) (la : v.heap.size ≤ ga) (lb : v.heap.size ≤ gb) : Rdy2 v W ga gb A B :=
  ⟨⟨post_of A B hb za zb ne la lb, post_of A B hb zb za (Ne.symm ne) lb la⟩, ne, Ne.symm ne⟩
def Rdy1 (v w8 : World) (o : Nat) (A B : Int) : Prop :=
  Hid (PostW v ((six w8 o A).alloc (.cells (sm B) 46)) o w8.heap.size A B ∧ PostW v ((six w8 o B).alloc (.cells (sm A) 46)) w8.heap.size o A B) ∧ o ≠ w8.heap.size ∧ w8.heap.size ≠ o
theorem rdy1 {v W : World} {o : Nat} (A B : Int) (hb : Below v.heap.size v W) (z : ZF W o) (lo : v.heap.size ≤ o) : Rdy1 v W o A B :=
  ⟨⟨post1a A B hb z lo, post1b A B hb z lo⟩, by have := z.lt; omega, by have := z.lt; omega⟩
def Rdy0 (v w8 : World) (A B : Int) : Prop :=
  Hid (PostW v ((w8.alloc (.cells (sm A) 46)).alloc (.cells (sm B) 46)) w8.heap.size (w8.heap.size + 1) A B ∧ PostW v ((w8.alloc (.cells (sm B) 46)).alloc (.cells (sm A) 46)) (w8.heap.size + 1) w8.heap.size A B) ∧ True ∧ True
theorem rdy0 {v W : World} (A B : Int) (hb : Below v.heap.size v W) : Rdy0 v W A B := ⟨⟨post0a A B hb, post0b A B hb⟩, trivial, trivial⟩
def Zc (W : World) (ga : Nat) : Prop :=
  W.cell? ⟨ga, 0, none⟩ = some (.int .u64 0) ∧ W.cell? ⟨ga, 1, none⟩ = some (.int .u64 0) ∧ W.cell? ⟨ga, 2, none⟩ = some (.int .u64 0) ∧ W.cell? ⟨ga, 3, none⟩ = some (.int .u64 0) ∧ W.cell? ⟨ga, 4, none⟩ = some (.int .u64 0) ∧ W.cell? ⟨ga, 5, none⟩ = some (.int .u64 0) ∧ ∀ i, W.frozen? ⟨ga, i, none⟩ = false
theorem zc {W : World} {g : Nat} (za : ZF W g) : Zc W g :=
  ⟨za.cell (show 0 < 6 by omega), za.cell (show 1 < 6 by omega), za.cell (show 2 < 6 by omega), za.cell (show 3 < 6 by omega), za.cell (show 4 < 6 by omega), za.cell (show 5 < 6 by omega), fun i => za.frozen i⟩
theorem bl_call {v u w9 : World} (h : Below v.heap.size v u) (hw : Below u.heap.size u w9) : Below v.heap.size v w9 := below_chain h hw (Nat.le_refl _)
theorem bl_new {v u : World} (h : Below v.heap.size v u) : Below v.heap.size v (u.alloc (.cells #[.int .u64 0, .int .u64 0, .int .u64 0, .int .u64 0, .int .u64 0, .int .u64 0] 46)) := h.alloc h.size _
theorem bl_any {v u : World} (h : Below v.heap.size v u) (o : Obj) : Below v.heap.size v (u.alloc o) := h.alloc h.size _
theorem bl_d {v u : World} (h : Below v.heap.size v u) : Below v.heap.size v u.drew := h.drew
theorem bl_drew (v : World) : Below v.heap.size v v.drew := (Below.refl _ _).drew
theorem sz_new (u : World) : (u.alloc (.cells #[.int .u64 0, .int .u64 0, .int .u64 0, .int .u64 0, .int .u64 0, .int .u64 0] 46)).heap.size = u.heap.size + 1 := by simp
theorem zf_new1 (W : World) : ZF ((W.alloc (.cells #[.int .u64 0, .int .u64 0, .int .u64 0, .int .u64 0, .int .u64 0, .int .u64 0] 46)).alloc (.cells #[.int .u64 0, .int .u64 0, .int .u64 0, .int .u64 0, .int .u64 0, .int .u64 0] 46)) (W.heap.size + 1) := by
  have h := zf_new (W.alloc (.cells #[.int .u64 0, .int .u64 0, .int .u64 0, .int .u64 0, .int .u64 0, .int .u64 0] 46))
  rw [sz_new] at h; exact h
theorem f20 {v w9 w8 : World} (A B : Int) (hA : Below ((v.alloc (.cells #[.int .u64 0, .int .u64 0, .int .u64 0, .int .u64 0, .int .u64 0, .int .u64 0] 46)).alloc (.cells #[.int .u64 0, .int .u64 0, .int .u64 0, .int .u64 0, .int .u64 0, .int .u64 0] 46)).drew.heap.size ((v.alloc (.cells #[.int .u64 0, .int .u64 0, .int .u64 0, .int .u64 0, .int .u64 0, .int .u64 0] 46)).alloc (.cells #[.int .u64 0, .int .u64 0, .int .u64 0, .int .u64 0, .int .u64 0, .int .u64 0] 46)).drew w9) (hB : Below w9.heap.size w9 w8) : Rdy2 v w8 v.heap.size (v.heap.size + 1) A B ∧ Zc w8 v.heap.size ∧ Zc w8 (v.heap.size + 1) :=
  ⟨rdy2 A B (bl_call (bl_call (bl_d (bl_new (bl_new (Below.refl _ v)))) hA) hB) (zf_keep (zf_keep (zf_d (zf_more (zf_new v))) hA) hB) (zf_keep (zf_keep (zf_d (zf_new1 v)) hA) hB) (by omega) (by omega) (by omega), zc (zf_keep (zf_keep (zf_d (zf_more (zf_new v))) hA) hB), zc (zf_keep (zf_keep (zf_d (zf_new1 v)) hA) hB)⟩
theorem f11 {v w9 w8 : World} (A B : Int) (hA : Below (v.alloc (.cells #[.int .u64 0, .int .u64 0, .int .u64 0, .int .u64 0, .int .u64 0, .int .u64 0] 46)).drew.heap.size (v.alloc (.cells #[.int .u64 0, .int .u64 0, .int .u64 0, .int .u64 0, .int .u64 0, .int .u64 0] 46)).drew w9) (hB : Below (w9.alloc (.cells #[.int .u64 0, .int .u64 0, .int .u64 0, .int .u64 0, .int .u64 0, .int .u64 0] 46)).heap.size (w9.alloc (.cells #[.int .u64 0, .int .u64 0, .int .u64 0, .int .u64 0, .int .u64 0, .int .u64 0] 46)) w8) : Rdy2 v w8 v.heap.size w9.heap.size A B ∧ Zc w8 v.heap.size ∧ Zc w8 w9.heap.size :=
  have h1 := zf_keep (zf_d (zf_new v)) hA
  have h2 : v.heap.size < w9.heap.size := h1.lt
  ⟨rdy2 A B (bl_call (bl_new (bl_call (bl_d (bl_new (Below.refl _ v))) hA)) hB) (zf_keep (zf_more h1) hB) (zf_keep (zf_new w9) hB) (by omega) (by omega) (by omega), zc (zf_keep (zf_more h1) hB), zc (zf_keep (zf_new w9) hB)⟩
theorem f02 {v w9 w8 : World} (A B : Int) (hA : Below v.drew.heap.size v.drew w9) (hB : Below ((w9.alloc (.cells #[.int .u64 0, .int .u64 0, .int .u64 0, .int .u64 0, .int .u64 0, .int .u64 0] 46)).alloc (.cells #[.int .u64 0, .int .u64 0, .int .u64 0, .int .u64 0, .int .u64 0, .int .u64 0] 46)).heap.size ((w9.alloc (.cells #[.int .u64 0, .int .u64 0, .int .u64 0, .int .u64 0, .int .u64 0, .int .u64 0] 46)).alloc (.cells #[.int .u64 0, .int .u64 0, .int .u64 0, .int .u64 0, .int .u64 0, .int .u64 0] 46)) w8) : Rdy2 v w8 w9.heap.size (w9.heap.size + 1) A B ∧ Zc w8 w9.heap.size ∧ Zc w8 (w9.heap.size + 1) :=
  have h2 : v.heap.size ≤ w9.heap.size := hA.size
  ⟨rdy2 A B (bl_call (bl_new (bl_new (bl_call (bl_drew v) hA))) hB) (zf_keep (zf_more (zf_new w9)) hB) (zf_keep (zf_new1 w9) hB) (by omega) (by omega) (by omega), zc (zf_keep (zf_more (zf_new w9)) hB), zc (zf_keep (zf_new1 w9) hB)⟩
theorem f10 {v w9 w8 : World} (A B : Int) (hA : Below (v.alloc (.cells #[.int .u64 0, .int .u64 0, .int .u64 0, .int .u64 0, .int .u64 0, .int .u64 0] 46)).drew.heap.size (v.alloc (.cells #[.int .u64 0, .int .u64 0, .int .u64 0, .int .u64 0, .int .u64 0, .int .u64 0] 46)).drew w9) (hB : Below w9.heap.size w9 w8) : Rdy1 v w8 v.heap.size A B ∧ v.heap.size < w8.heap.size ∧ Zc w8 v.heap.size :=
  have h1 := zf_keep (zf_keep (zf_d (zf_new v)) hA) hB
  have h2 : v.heap.size < w8.heap.size := h1.lt
  ⟨rdy1 A B (bl_call (bl_call (bl_d (bl_new (Below.refl _ v))) hA) hB) h1 (by omega), h2, zc h1⟩
theorem f01 {v w9 w8 : World} (A B : Int) (hA : Below v.drew.heap.size v.drew w9) (hB : Below (w9.alloc (.cells #[.int .u64 0, .int .u64 0, .int .u64 0, .int .u64 0, .int .u64 0, .int .u64 0] 46)).heap.size (w9.alloc (.cells #[.int .u64 0, .int .u64 0, .int .u64 0, .int .u64 0, .int .u64 0, .int .u64 0] 46)) w8) : Rdy1 v w8 w9.heap.size A B ∧ w9.heap.size < w8.heap.size ∧ Zc w8 w9.heap.size :=
  have h1 := zf_keep (zf_new w9) hB
  have h2 : w9.heap.size < w8.heap.size := h1.lt
  have h3 : v.heap.size ≤ w9.heap.size := hA.size
  ⟨rdy1 A B (bl_call (bl_new (bl_call (bl_drew v) hA)) hB) h1 (by omega), h2, zc h1⟩
theorem f00 {v w9 w8 : World} (A B : Int) (hA : Below v.drew.heap.size v.drew w9) (hB : Below w9.heap.size w9 w8) : Rdy0 v w8 A B :=
  rdy0 A B (bl_call (bl_call (bl_drew v) hA) hB)
def SK (v W : World) (g : Nat) (Q : Int) : Prop := C6 W g Q ∧ Below v.heap.size v W
theorem sk {v W : World} {g : Nat} {Q : Int} (h : C6 v g Q) (hg : g < v.heap.size) (hb : Below v.heap.size v W) : C6 W g Q ∧ Below v.heap.size v W :=
  ⟨⟨(hb.cell (p := ⟨g, 0, none⟩) hg).trans h.1, (hb.cell (p := ⟨g, 1, none⟩) hg).trans h.2.1, (hb.cell (p := ⟨g, 2, none⟩) hg).trans h.2.2.1, (hb.cell (p := ⟨g, 3, none⟩) hg).trans h.2.2.2.1, (hb.cell (p := ⟨g, 4, none⟩) hg).trans h.2.2.2.2.1, (hb.cell (p := ⟨g, 5, none⟩) hg).trans h.2.2.2.2.2⟩, hb⟩
abbrev sets3 (w : World) (g : Nat) (a b c : Value) : World := ((w.setCell ⟨g, 0, none⟩ a).setCell ⟨g, 1, none⟩ b).setCell ⟨g, 2, none⟩ c
theorem three_row {w : World} {g : Nat} {t : TypeId} {a b c : Value} (h : w.heap[g]? = some (.cells #[a, b, c] t (0, 0))) : w.rowIs g t 3 (fun i => #[a, b, c].getD i undef) :=
  ⟨_, h, rfl, fun i hi => by
    match i, hi with
    | 0, _ => rfl
    | 1, _ => rfl
    | 2, _ => rfl⟩
theorem three_sets {w : World} {g : Nat} {t : TypeId} {f : Nat → Value} {a b c : Value} (h : w.rowIs g t 3 f) : (sets3 w g a b c).heap[g]? = some (.cells #[a, b, c] t (0, 0)) := by
  obtain ⟨k, hc, hs, hv⟩ := (((h.set 0 a).set 1 b).set 2 c)
  rw [hc]
  have e : k = #[a, b, c] := by
    apply Array.ext_getElem?
    intro i
    by_cases hi : i < 3
    · rw [hv i hi]
      match i, hi with
      | 0, _ => rfl
      | 1, _ => rfl
      | 2, _ => rfl
    · rw [Array.getElem?_eq_none (by omega), Array.getElem?_eq_none (by show 3 ≤ i; omega)]
  rw [e]
theorem sets3_below {B : Nat} {w0 w : World} {g : Nat} {a b c : Value} (h : Below B w0 w) (hg : B ≤ g) : Below B w0 (sets3 w g a b c) :=
  ((h.setCell (show B ≤ (⟨g, 0, none⟩ : Addr).block from hg) _).setCell (show B ≤ (⟨g, 1, none⟩ : Addr).block from hg) _).setCell (show B ≤ (⟨g, 2, none⟩ : Addr).block from hg) _
abbrev S4 (W : World) (g1 g2 gq : Nat) (A B Q : Int) : Prop := W.cell? ⟨g1, 0, none⟩ = some (.int .u64 (wd A 0)) ∧ C6 W g2 B ∧ C6 W gq Q
theorem s4_far {W : World} {g1 g2 gq : Nat} {A B Q : Int} (h : S4 W g1 g2 gq A B Q) (p : Addr) (v : Value) (h1 : p.block ≠ g1) (h2 : p.block ≠ g2) (hq : p.block ≠ gq) : S4 (W.setCell p v) g1 g2 gq A B Q :=
  ⟨(World.cell?_setCell_far _ _ _ _ h1).trans h.1, h.2.1.far p v h2, h.2.2.far p v hq⟩
theorem s4_on {W W' : World} {g1 g2 gq : Nat} {A B Q : Int} (h : S4 W g1 g2 gq A B Q) (hb : Below W.heap.size W W') : S4 W' g1 g2 gq A B Q :=
  ⟨(hb.cell (p := ⟨g1, 0, none⟩) (World.block_lt_of_cell? W ⟨g1, 0, none⟩ h.1)).trans h.1, C6.on h.2.1 hb, C6.on h.2.2 hb⟩
theorem bit_div (Q : Int) (k : Nat) : bit (Q / 2 ^ k) 0 = bit Q k := by unfold bit; simp
theorem same_un (X Y : Int) (x0 : 0 ≤ X) (x1 : X < 2 ^ (64 * 6)) (y0 : 0 ≤ Y) (y1 : Y < 2 ^ (64 * 6)) : same X Y = true ↔ X = Y := by
  constructor
  · intro h
    have e := low_eq X Y 6 (same_words X Y h)
    rw [Int.emod_eq_of_lt x0 x1, Int.emod_eq_of_lt y0 y1] at e; exact e
  · intro h; rw [h]; exact same_refl Y
theorem more_eq (Q : Int) (k : Nat) (q0 : 0 ≤ Q) (q1 : Q < 2 ^ (64 * 6)) : (!same (Q / 2 ^ k * 2 ^ k) Q) = (Q % 2 ^ k != 0) := by
  have hP := pw k
  have h1 := Int.mul_ediv_add_emod Q (2 ^ k)
  have h2 := Int.emod_nonneg Q (Int.ne_of_gt hP)
  have h3 : 0 ≤ Q / 2 ^ k * 2 ^ k := Int.mul_nonneg (Int.ediv_nonneg q0 (by omega)) (by omega)
  rw [Int.mul_comm] at h1
  have hs := same_un (Q / 2 ^ k * 2 ^ k) Q h3 (by omega) q0 q1
  by_cases hm : Q % 2 ^ k = 0
  · rw [hs.2 (by omega), hm]; rfl
  · have : same (Q / 2 ^ k * 2 ^ k) Q = false := by
      cases hb : same (Q / 2 ^ k * 2 ^ k) Q
      · rfl
      · have := hs.1 hb; omega
    rw [this]; simp [hm]
set_option maxHeartbeats 4000000 in
theorem lost_more (Q r n : Int) (d : Nat) (d0 : 0 < d) (d1 : d < 384) (q0 : 0 ≤ Q) (q1 : Q < 2 ^ (64 * 6)) (r0 : 0 ≤ r) (r1 : r < n) (n1 : n < 18446744073709551616) (w : World) :
    Calls Try.prog 39 #[.agg (sm Q), .int .u64 r, .int .u64 n, .int .i64 d] w fun e w' => e = .returned (.agg #[.bool (lst Q d), .bool (hlf Q r n d), .bool (mor Q r n d)]) ∧ Below w.heap.size w w' := by
  obtain ⟨v, hv, hvb, hvs, hv0, hv1⟩ := lost_start w Q
  have hd0 : ((d : Int) == 0) = false := beq_false_of_ne (by omega)
  obtain ⟨A, hA⟩ : ∃ A, A = Q / 2 ^ d := ⟨_, rfl⟩
  obtain ⟨B, hB⟩ : ∃ B, B = Q / 2 ^ (d - 1) := ⟨_, rfl⟩
  obtain ⟨D, hD⟩ : ∃ D : Int, D = (d : Int) := ⟨_, rfl⟩
  obtain ⟨D1, hD1⟩ : ∃ D1 : Int, D1 = ((d - 1 : Nat) : Int) := ⟨_, rfl⟩
  have hDD : D - 1 = D1 := by omega
  have hDb : 0 < D ∧ D < 384 := by omega
  have hD1b : 0 ≤ D1 ∧ D1 < 384 := by omega
  have hwD1 : IntKind.i64.wrap D1 = D1 := by rw [IntKind.wrap_i64]; omega
  have hf : ∀ i, 6 ≤ i → wd Q i = 0 := fun i hi => by
    unfold wd
    have h1 := pow_mono (64 * 6) (64 * i) (by omega)
    rw [Int.ediv_eq_zero_of_lt q0 (by omega)]; rfl
  have HA : Hid (∀ w, Calls Try.prog 38 #[.agg (sm Q), .int .i64 D, .int .u64 0] w fun e w' => e = .returned (.agg (sm A)) ∧ Below w.heap.size w w') := fun w => by
    rw [hA, hD]; exact down_any Q 0 d (by omega) hf w
  have HB : Hid (∀ w, Calls Try.prog 38 #[.agg (sm Q), .int .i64 D1, .int .u64 0] w fun e w' => e = .returned (.agg (sm B)) ∧ Below w.heap.size w w') := fun w => by
    rw [hB, hD1]; exact down_any Q 0 (d - 1) (by omega) hf w
  have HC : Hid (C6 v w.heap.size Q) := c6_row (row_sm hv0)
  have HW : Hid (v.heap.size = w.heap.size + 1 + 1) := hvs
  have hgl : w.heap.size < v.heap.size := by omega
  have HV0 : Hid (v.heap[w.heap.size]? = some (.cells (sm Q) 46 (0, 0)) ∧ v.heap[w.heap.size + 1]? = some (.cells #[.bool false, .bool false, .bool false] 71 (0, 0))) := ⟨hv0, hv1⟩
  have HVB : Hid (Below w.heap.size w v) := hvb
  have HX : Hid (A = Q / 2 ^ d ∧ B = Q / 2 ^ (d - 1) ∧ D = (d : Int) ∧ D1 = ((d - 1 : Nat) : Int)) := ⟨hA, hB, hD, hD1⟩
  have hsq : sm Q = #[.int .u64 (wd Q 0), .int .u64 (wd Q 1), .int .u64 (wd Q 2), .int .u64 (wd Q 3), .int .u64 (wd Q 4), .int .u64 (wd Q 5)] := rfl
  rw [← hD] at hd0
  rw [← hD]
  rw [hsq] at HA HB hv
  rw [hsq]
  clear hA hB hD hD1 hf hvs hv0 hv1 hvb hsq
  go_enter Try.func39, Try.ntmps39
  go_wp2
  clear hv
  go_cut [9, 10] (fun p1 p2 wx => ∃ g1 g2, p1 = .pointer (some ⟨g1, 0, none⟩) ∧ p2 = .pointer (some ⟨g2, 0, none⟩) ∧ PostW v wx g1 g2 A B)
  case first =>
    go_region_held3 (fun w' => C6 w' w.heap.size Q ∧ Below v.heap.size v w') ((refine sk HC.out hgl ?_; repeat' (first | with_reducible exact bl_drew _ | with_reducible exact Below.refl _ _ | with_reducible exact b8 | with_reducible exact b9 | with_reducible refine bl_any ?_ _ | with_reducible refine bl_d ?_ | (with_reducible refine Below.setCell ?_ ?_ _) | (dsimp only; omega) | omega)))
      ((first
        | (go_at_call_of 38 (Value.int .i64 D); refine (HA.out _).mono ?_; rintro e9 w9 ⟨he9, hwA⟩; have he9' : e9 = .returned (.agg #[.int .u64 (wd A 0), .int .u64 (wd A 1), .int .u64 (wd A 2), .int .u64 (wd A 3), .int .u64 (wd A 4), .int .u64 (wd A 5)]) := he9; subst he9'; clear he9; (first | (with_reducible have b9 := bl_call (bl_drew v) hwA) | (with_reducible have b9 := bl_call (bl_d (bl_new (Below.refl _ v))) hwA) | (with_reducible have b9 := bl_call (bl_d (bl_new (bl_new (Below.refl _ v)))) hwA)); have s9 := b9.size)
        | (go_at_call_of 38 (Value.int .i64 D1); refine (HB.out _).mono ?_; rintro e8 w8 ⟨he8, hwB⟩; have he8' : e8 = .returned (.agg #[.int .u64 (wd B 0), .int .u64 (wd B 1), .int .u64 (wd B 2), .int .u64 (wd B 3), .int .u64 (wd B 4), .int .u64 (wd B 5)]) := he8; subst he8'; clear he8; (first | (with_reducible have b8 := bl_call b9 hwB) | (with_reducible have b8 := bl_call (bl_new b9) hwB) | (with_reducible have b8 := bl_call (bl_new (bl_new b9)) hwB)); have s8 := b8.size; have s7 := hwB.size; first | ((with_reducible have F := f20 (v := v) A B hwA hwB); obtain ⟨⟨FP, ne1, ne2⟩, ⟨m0, m1, m2, m3, m4, m5, fz1⟩, ⟨n0, n1, n2, n3, n4, n5, fz2⟩⟩ := F) | ((with_reducible have F := f11 (v := v) A B hwA hwB); obtain ⟨⟨FP, ne1, ne2⟩, ⟨m0, m1, m2, m3, m4, m5, fz1⟩, ⟨n0, n1, n2, n3, n4, n5, fz2⟩⟩ := F) | ((with_reducible have F := f02 (v := v) A B hwA hwB); obtain ⟨⟨FP, ne1, ne2⟩, ⟨m0, m1, m2, m3, m4, m5, fz1⟩, ⟨n0, n1, n2, n3, n4, n5, fz2⟩⟩ := F) | ((with_reducible have F := f10 (v := v) A B hwA hwB); obtain ⟨⟨FP, ne1, ne2⟩, lt1, ⟨m0, m1, m2, m3, m4, m5, fz1⟩⟩ := F) | ((with_reducible have F := f01 (v := v) A B hwA hwB); obtain ⟨⟨FP, ne1, ne2⟩, lt1, ⟨m0, m1, m2, m3, m4, m5, fz1⟩⟩ := F) | ((with_reducible have F := f00 (v := v) A B hwA hwB); obtain ⟨FP, ne1, ne2⟩ := F))))
    all_goals (go_wp2_with fail; go_meet; obtain ⟨fp1, fp2⟩ := FP.out; simp only [six, sm] at fp1 fp2; refine ⟨_, _, rfl, rfl, ?_⟩; first | with_reducible exact fp1 | with_reducible exact fp2)
  case rest =>
    obtain ⟨g1, g2, rfl, rfl, hbx, hc1, hc2, lg1, lg2⟩ := hcut
    have hsz := HW.out
    have hq := sk HC.out hgl hbx
    have t1 := (hbx.block _ (show w.heap.size + 1 < v.heap.size by omega)).trans HV0.out.2
    have hS0 : Hid (S4 wc.drew g1 g2 w.heap.size A B Q) := ⟨hc1, hc2, hq.1⟩
    have hbw : Below w.heap.size w wc := below_chain HVB.out hbx (Nat.le_refl _)
    have HT : Hid (wc.heap[w.heap.size + 1]? = some (.cells #[.bool false, .bool false, .bool false] 71 (0, 0))) := t1
    have HU : Hid (∀ w, Calls Try.prog 48 #[.agg (sm B), .int .i64 D1] w fun e w' => e = .returned (.agg (sm (B * 2 ^ (d - 1)))) ∧ Below w.heap.size w w') := fun w => by
      rw [HX.out.2.2.2]; exact up_any B (d - 1) (by omega) w
    have hl : lst Q d = (bit A 0 == 1) := by unfold lst; rw [HX.out.1, bit_div]
    have hh : hlf Q r n d = (bit B 0 == 1) := by unfold hlf; rw [if_neg (by omega), HX.out.2.1, bit_div]
    have hm : mor Q r n d = (r != 0 || Q % 2 ^ (d - 1) != 0) := by unfold mor; rw [if_neg (by omega)]
    have hme := more_eq Q (d - 1) q0 q1
    rw [← HX.out.2.1] at hme
    have HM : Hid (lst Q d = (bit A 0 == 1) ∧ hlf Q r n d = (bit B 0 == 1) ∧ mor Q r n d = (r != 0 || !same (B * 2 ^ (d - 1)) Q)) := ⟨hl, hh, by rw [hm, hme]⟩
    have ha1 := and_bit A
    have ha2 := and_bit B
    have hEq := eq_sm 46 Try.underlying46 (B * 2 ^ (d - 1)) Q
    have hsb : sm B = #[.int .u64 (wd B 0), .int .u64 (wd B 1), .int .u64 (wd B 2), .int .u64 (wd B 3), .int .u64 (wd B 4), .int .u64 (wd B 5)] := rfl
    have hsq : sm Q = #[.int .u64 (wd Q 0), .int .u64 (wd Q 1), .int .u64 (wd Q 2), .int .u64 (wd Q 3), .int .u64 (wd Q 4), .int .u64 (wd Q 5)] := rfl
    rw [hsb] at HU
    rw [hsq] at hEq
    have ng1 : w.heap.size + 1 ≠ g1 := by omega
    have ng2 : w.heap.size + 1 ≠ g2 := by omega
    have ngq : w.heap.size + 1 ≠ w.heap.size := by omega
    obtain ⟨v0, v1, v2⟩ := three_cells t1
    have vf := (three_row t1).frozen
    have lw : w.heap.size + 1 < wc.heap.size := World.block_lt_of_cell? wc ⟨w.heap.size + 1, 0, none⟩ v0
    clear HA HB HC hl hh hm hme hq t1 hc1 hc2 hsb hsq
    generalize sm (B * 2 ^ (d - 1)) = cx at *
    generalize same (B * 2 ^ (d - 1)) Q = sb at *
    by_cases hz : r = 0
    · subst hz
      go_wp2_with (fail)
      go_region_held3 (fun w' => S4 w' g1 g2 w.heap.size A B Q) ((first | with_reducible exact hS0.out | with_reducible exact hS9.out | (with_reducible refine s4_far ?_ _ _ ng1 ng2 ngq; with_reducible refine s4_far ?_ _ _ ng1 ng2 ngq; with_reducible refine s4_far ?_ _ _ ng1 ng2 ngq; with_reducible exact hS9.out)))
        ((go_at_call 48; refine (HU.out _).mono ?_; rintro e9 w9 ⟨rfl, hwC⟩; have hS9 : Hid (S4 w9 g1 g2 w.heap.size A B Q) := s4_on hS0.out hwC; have x0 := (hwC.cell (p := ⟨w.heap.size + 1, 0, none⟩) lw).trans v0; have x1 := (hwC.cell (p := ⟨w.heap.size + 1, 1, none⟩) lw).trans v1; have x2 := (hwC.cell (p := ⟨w.heap.size + 1, 2, none⟩) lw).trans v2; have y0 := (hwC.frozen (p := ⟨w.heap.size + 1, 0, none⟩) lw).trans (vf 0); have y1 := (hwC.frozen (p := ⟨w.heap.size + 1, 1, none⟩) lw).trans (vf 1); have y2 := (hwC.frozen (p := ⟨w.heap.size + 1, 2, none⟩) lw).trans (vf 2)))
      all_goals
        have hr9 := (three_row HT.out).of_block (w' := w9) (hwC.block _ lw)
        have hh9 := three_sets (a := .bool (bit A 0 == 1)) (b := .bool (bit B 0 == 1)) (c := .bool (!sb)) hr9
        have hld := run_loadVar_row _ _ 71 71 _ (0, 0) _ hh9 Try.underlying71 rfl sizeRest
        have hbel := sets3_below (g := w.heap.size + 1) (a := .bool (bit A 0 == 1)) (b := .bool (bit B 0 == 1)) (c := .bool (!sb)) (below_chain hbw (((Below.refl _ _).drew).trans hwC) (Nat.le_refl _)) (by omega)
        obtain ⟨k1, k2, k3⟩ := HM.out
        clear x0 x1 x2 y0 y1 y2 hS9 hEq v0 v1 v2 vf hr9 hh9
        go_wp2
        refine bodyPost_ret (v := .agg #[.bool (bit A 0 == 1), .bool (bit B 0 == 1), .bool (!sb)]) ?_ rfl ⟨ret_rest k1.symm k2.symm (by rw [k3]; simp), hbel⟩
        simp [results, Try.results39, asAddr, hld]
    · have hzb : (r == 0) = false := beq_false_of_ne hz
      have hzn : (r != 0) = true := by simp [hz]
      obtain ⟨j0, ⟨j1, -, -, -, -, -⟩, -⟩ := hS0.out
      have j2 : wc.cell? ⟨g1, 0, none⟩ = some (.int .u64 (wd A 0)) := j0
      have j3 : wc.cell? ⟨g2, 0, none⟩ = some (.int .u64 (wd B 0)) := j1
      clear j0 j1 hEq HU
      go_wp2_with (fail)
      go_region
      all_goals
        have hr9 := three_row HT.out
        have hh9 : (sets3 wc (w.heap.size + 1) (.bool (bit A 0 == 1)) (.bool (bit B 0 == 1)) (.bool true)).drew.heap[w.heap.size + 1]? = _ := three_sets hr9
        have hld := run_loadVar_row _ _ 71 71 _ (0, 0) _ hh9 Try.underlying71 rfl sizeRest
        have hbel := sets3_below (g := w.heap.size + 1) (a := .bool (bit A 0 == 1)) (b := .bool (bit B 0 == 1)) (c := .bool true) hbw (by omega)
        obtain ⟨k1, k2, k3⟩ := HM.out
        clear v0 v1 v2 vf hr9 hh9 j2 j3
        go_wp2
        refine bodyPost_ret (v := .agg #[.bool (bit A 0 == 1), .bool (bit B 0 == 1), .bool true]) ?_ rfl ⟨ret_rest k1.symm k2.symm (by rw [k3, hzn]; rfl), hbel.drew⟩
        simp [results, Try.results39, asAddr, hld]
theorem lost_any (Q r n : Int) (d : Nat) (d1 : d < 384) (q0 : 0 ≤ Q) (q1 : Q < 2 ^ (64 * 6)) (r0 : 0 ≤ r) (r1 : r < n) (n1 : n < 18446744073709551616) (w : World) :
    Calls Try.prog 39 #[.agg (sm Q), .int .u64 r, .int .u64 n, .int .i64 d] w fun e w' => e = .returned (.agg #[.bool (lst Q d), .bool (hlf Q r n d), .bool (mor Q r n d)]) ∧ Below w.heap.size w w' := by
  by_cases h : d = 0
  · subst h; exact lost_zero Q r n r0 r1 n1 w
  · exact lost_more Q r n d (by omega) d1 q0 q1 r0 r1 n1 w

end Ty
end Go.Proofs.Ytobhmadckoemdaa
