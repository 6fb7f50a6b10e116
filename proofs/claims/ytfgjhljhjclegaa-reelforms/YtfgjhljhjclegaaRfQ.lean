import Derived.Test.YtfgjhljhjclegaaRfH
import Derived.Test.YtfgjhljhjclegaaRfI
import Derived.Test.YtfgjhljhjclegaaRfL
import Derived.Test.YtfgjhljhjclegaaRfM
import Derived.Test.YtfgjhljhjclegaaRfP
namespace Go.Proofs.Ytfgjhljhjclegaa
namespace Rt
open Go.RowKit
set_option linter.unusedVariables false
set_option maxRecDepth 8000
/-- The buffer of the law. -/
def N102 : List Int := List.replicate 102 99
theorem N102_len : N102.length = 102 := by simp [N102]
theorem N102_bytes : Bytes N102 := fun x hx => by rw [List.eq_of_mem_replicate hx]; omega
theorem N102_get (i : Nat) (h : i < 102) : N102.getD i 0 = 99 := by
  unfold N102; rw [List.getD_eq_getElem?_getD, List.getElem?_replicate, if_pos h]; rfl
theorem app_bytes (X Y : List Int) (hX : Bytes X) (hY : Bytes Y) : Bytes (X ++ Y) := fun x hx => by
  rcases List.mem_append.1 hx with h | h
  · exact hX x h
  · exact hY x h
theorem buffer100 (W : World) (G : Nat) (hG : W.heap.size = G) :
    Calls Try.prog 7 #[.int .i64 100] W fun e w' => e = .returned (.slice (some ⟨G, 0, none⟩) 100 102) ∧ Rw w' G N102 ∧ Below G W w' := by
  rw [← hG]; exact buffer_any 100 W (by omega) (by omega)
theorem laid_own (Z : List Int) (g h c m : Nat) (W : World) (hw : Rw W g (over N102 0 Z)) (ho : Own W h c Z) (hm : Z.length = m) (h100 : m ≤ 100) :
    Calls Try.prog 12 #[.slice (some ⟨g, 0, none⟩) 100 102, .slice (some ⟨h, 0, none⟩) m c] W fun e w' => e = .returned (.bool true) ∧ w' = W := by
  have hl : (over N102 0 Z).length = 102 := by rw [over_len _ _ _ (by rw [N102_len]; omega), N102_len]
  have hs := ho.src
  rw [hm] at hs
  refine laid_yes g 100 102 m c _ _ Z W hw (by omega) h100 (by omega) hs (fun i hi => ?_)
  rw [over_getD, hm]
  split
  · rfl
  · exact N102_get i (by omega)
theorem over_l (Z : List Int) (n : Nat) (h : Z.length ≤ 100) : (over N102 0 Z).length = 102 := by rw [over_len _ _ _ (by rw [N102_len]; omega), N102_len]
def Z8 (x y : Int) : List Int := lb x 4 ++ lb y 4
def Z12 (x y z : Int) : List Int := lb x 4 ++ lb y 4 ++ lb z 4
def Z20 (x y z : Int) : List Int := lb x 4 ++ lb y 8 ++ lb z 8
theorem Z8_len (x y : Int) : (Z8 x y).length = 8 := by simp [Z8, lb_len]
theorem Z12_len (x y z : Int) : (Z12 x y z).length = 12 := by simp [Z12, lb_len]
theorem Z20_len (x y z : Int) : (Z20 x y z).length = 20 := by simp [Z20, lb_len]
theorem Z8_b (x y : Int) : Bytes (Z8 x y) := app_bytes _ _ (lb_bytes _ _) (lb_bytes _ _)
theorem Z12_b (x y z : Int) : Bytes (Z12 x y z) := app_bytes _ _ (app_bytes _ _ (lb_bytes _ _) (lb_bytes _ _)) (lb_bytes _ _)
theorem Z20_b (x y z : Int) : Bytes (Z20 x y z) := app_bytes _ _ (app_bytes _ _ (lb_bytes _ _) (lb_bytes _ _)) (lb_bytes _ _)
theorem g8a (x y : Int) (h0 : 0 ≤ x) (h1 : x < 4294967296) : getL (over N102 0 (Z8 x y)) 0 4 = x := get_at N102 [] (lb y 4) 0 4 x rfl h0 (by simpa using h1)
theorem g8b (x y : Int) (h0 : 0 ≤ y) (h1 : y < 4294967296) : getL (over N102 0 (Z8 x y)) 4 4 = y := by
  have := get_at N102 (lb x 4) [] 4 4 y (lb_len _ _) h0 (by simpa using h1)
  simpa [Z8] using this
theorem g12a (x y z : Int) (h0 : 0 ≤ x) (h1 : x < 4294967296) : getL (over N102 0 (Z12 x y z)) 0 4 = x := by
  have := get_at N102 [] (lb y 4 ++ lb z 4) 0 4 x rfl h0 (by simpa using h1)
  simpa [Z12] using this
theorem g12b (x y z : Int) (h0 : 0 ≤ y) (h1 : y < 4294967296) : getL (over N102 0 (Z12 x y z)) 4 4 = y := by
  have := get_at N102 (lb x 4) (lb z 4) 4 4 y (lb_len _ _) h0 (by simpa using h1)
  simpa [Z12] using this
theorem g12c (x y z : Int) (h0 : 0 ≤ z) (h1 : z < 4294967296) : getL (over N102 0 (Z12 x y z)) 8 4 = z := by
  have := get_at N102 (lb x 4 ++ lb y 4) [] 8 4 z (by simp [lb_len]) h0 (by simpa using h1)
  simpa [Z12] using this
theorem g20a (x y z : Int) (h0 : 0 ≤ x) (h1 : x < 4294967296) : getL (over N102 0 (Z20 x y z)) 0 4 = x := by
  have := get_at N102 [] (lb y 8 ++ lb z 8) 0 4 x rfl h0 (by simpa using h1)
  simpa [Z20] using this
theorem g20b (x y z : Int) (h0 : 0 ≤ y) (h1 : y < 18446744073709551616) : getL (over N102 0 (Z20 x y z)) 4 8 = y := by
  have := get_at N102 (lb x 4) (lb z 8) 4 8 y (lb_len _ _) h0 (by simpa using h1)
  simpa [Z20] using this
theorem g20c (x y z : Int) (h0 : 0 ≤ z) (h1 : z < 18446744073709551616) : getL (over N102 0 (Z20 x y z)) 12 8 = z := by
  have := get_at N102 (lb x 4 ++ lb y 8) [] 12 8 z (by simp [lb_len]) h0 (by simpa using h1)
  simpa [Z20] using this
theorem ovb (Z : List Int) (h : Bytes Z) : Bytes (over N102 0 Z) := over_bytes _ _ _ N102_bytes h
theorem LayP100 (g : Nat) (x y z : Int) (W : World) (hw : Rw W g N102) (hx0 : 0 ≤ x) (hx1 : x < 4294967296) (hy0 : 0 ≤ y) (hy1 : y < 4294967296) :
    Calls Try.prog 15 #[fE 44 45 8, .slice (some ⟨g, 0, none⟩) 100 102, eV x y z] W fun e w' => e = .returned (.int .i64 0) ∧ Rw w' g (over N102 0 (Z8 x y)) ∧ Bx g W w' :=
  LayP_ok 8 g 100 102 x y z N102 _ W hw (by omega) (by omega) (by omega) (by omega) (by omega) fun W h => putPlain_ok g 8 8 x y z N102 W h (by omega) (by rw [N102_len]; omega) (by omega) (by omega) hx0 hx1 hy0 hy1
theorem TakeP100 (g : Nat) (x y : Int) (W : World) (hw : Rw W g (over N102 0 (Z8 x y))) (hx0 : 0 ≤ x) (hx1 : x < 4294967296) (hy0 : 0 ≤ y) (hy1 : y < 4294967296) :
    Calls Try.prog 17 #[fE 44 45 8, .slice (some ⟨g, 0, none⟩) 100 102] W fun e w' => e = .returned (.tuple #[eV x y 0, .int .i64 0]) ∧ Below W.heap.size W w' :=
  TakeP_ok 8 g 100 102 x y 0 _ W hw (by omega) (by omega) (by omega) (by omega) (by omega) fun W h => plain_ok g 8 8 x y _ W h (ovb _ (Z8_b x y)) (by omega) (by rw [over_l _ 0 (by rw [Z8_len]; omega)]; omega) (by omega) (g8a x y hx0 hx1) (g8b x y hy0 hy1) hx0 hx1 hy0 hy1
theorem LayW100 (g : Nat) (x y z : Int) (W : World) (hw : Rw W g N102) (hx0 : 0 ≤ x) (hx1 : x < 4294967296) (hy0 : 0 ≤ y) (hy1 : y < 4294967296) (hz0 : 0 ≤ z) (hz1 : z < 4294967296) :
    Calls Try.prog 15 #[fE 46 47 12, .slice (some ⟨g, 0, none⟩) 100 102, eV x y z] W fun e w' => e = .returned (.int .i64 0) ∧ Rw w' g (over N102 0 (Z12 x y z)) ∧ Bx g W w' :=
  LayW_ok 12 g 100 102 x y z N102 _ W hw (by omega) (by omega) (by omega) (by omega) (by omega) fun W h => putWeighted_ok g 12 12 x y z N102 W h (by omega) (by rw [N102_len]; omega) (by omega) (by omega) hx0 hx1 hy0 hy1 hz0 hz1
theorem TakeW100 (g : Nat) (x y z : Int) (W : World) (hw : Rw W g (over N102 0 (Z12 x y z))) (hx0 : 0 ≤ x) (hx1 : x < 4294967296) (hy0 : 0 ≤ y) (hy1 : y < 4294967296) (hz0 : 0 ≤ z) (hz1 : z < 4294967296) :
    Calls Try.prog 17 #[fE 46 47 12, .slice (some ⟨g, 0, none⟩) 100 102] W fun e w' => e = .returned (.tuple #[eV x y z, .int .i64 0]) ∧ Below W.heap.size W w' :=
  TakeW_ok 12 g 100 102 x y z _ W hw (by omega) (by omega) (by omega) (by omega) (by omega) fun W h => weighted_ok g 12 12 x y z _ W h (ovb _ (Z12_b x y z)) (by omega) (by rw [over_l _ 0 (by rw [Z12_len]; omega)]; omega) (by omega) (g12a x y z hx0 hx1) (g12b x y z hy0 hy1) (g12c x y z hz0 hz1) hx0 hx1 hy0 hy1 hz0 hz1
theorem LayU100 (g : Nat) (x y z : Int) (W : World) (hw : Rw W g N102) (hx0 : 0 ≤ x) (hx1 : x < 4294967296) (hy0 : 0 ≤ y) (hy1 : y < 18446744073709551616) (hz0 : 0 ≤ z) (hz1 : z < 18446744073709551616) :
    Calls Try.prog 20 #[fU 52 53 20, .slice (some ⟨g, 0, none⟩) 100 102, uV x y z] W fun e w' => e = .returned (.int .i64 0) ∧ Rw w' g (over N102 0 (Z20 x y z)) ∧ Bx g W w' :=
  LayU_ok 20 g 100 102 x y z N102 _ W hw (by omega) (by omega) (by omega) (by omega) (by omega) fun W h => putUpdate_ok g 20 20 x y z N102 W h (by omega) (by rw [N102_len]; omega) (by omega) (by omega) hx0 hx1 hy0 hy1 hz0 hz1
theorem TakeU100 (g : Nat) (x y z : Int) (W : World) (hw : Rw W g (over N102 0 (Z20 x y z))) (hx0 : 0 ≤ x) (hx1 : x < 4294967296) (hy0 : 0 ≤ y) (hy1 : y < 18446744073709551616) (hz0 : 0 ≤ z) (hz1 : z < 18446744073709551616) :
    Calls Try.prog 21 #[fU 52 53 20, .slice (some ⟨g, 0, none⟩) 100 102] W fun e w' => e = .returned (.tuple #[uV x y z, .int .i64 0]) ∧ Below W.heap.size W w' :=
  TakeU_ok 20 g 100 102 x y z _ W hw (by omega) (by omega) (by omega) (by omega) (by omega) fun W h => update_ok g 20 20 x y z _ W h (ovb _ (Z20_b x y z)) (by omega) (by rw [over_l _ 0 (by rw [Z20_len]; omega)]; omega) (by omega) (g20a x y z hx0 hx1) (g20b x y z hy0 hy1) (g20c x y z hz0 hz1) hx0 hx1 hy0 hy1 hz0 hz1
theorem LayU19 (a : Option Addr) (c : Nat) (x y z : Int) (W : World) :
    Calls Try.prog 20 #[fU 52 53 20, .slice a 19 c, uV x y z] W fun e w' => e = .returned (.int .i64 67) ∧ Below W.heap.size W w' :=
  LayU_short _ _ 20 19 c a x y z W (by omega) (by omega) (by omega) (by omega)
theorem TakeU19 (a : Option Addr) (c : Nat) (W : World) :
    Calls Try.prog 21 #[fU 52 53 20, .slice a 19 c] W fun e w' => e = .returned (.tuple #[uV 0 0 0, .int .i64 67]) ∧ Below W.heap.size W w' :=
  TakeU_short _ _ 20 19 c a W (by omega) (by omega) (by omega) (by omega)
theorem LayS100 (g m : Nat) (s : Nat → Int) (W : World) (hw : Rw W g N102) (h1 : 1 ≤ m) (h2 : m ≤ 8) (h0 : ∀ k, k < 8 → 0 ≤ s k ∧ s k < 18446744073709551616) :
    Calls Try.prog 25 #[fS 57 58 (8 * (m : Int)), .slice (some ⟨g, 0, none⟩) 100 102, sV s] W fun e w' => e = .returned (.int .i64 0) ∧ Rw w' g (over N102 0 (sb s m)) ∧ Bx g W w' := by
  have := LayS_ok (8 * m) g 100 102 s N102 _ W hw (by omega) (by omega) (by omega) (by omega) (by omega) fun W h => putState_ok g (8 * m) (8 * m) m s N102 W h rfl h2 (by rw [N102_len]; omega) (by omega) (by omega) h0
  rw [show (((8 * m : Nat) : Int)) = 8 * (m : Int) by omega] at this
  exact this
theorem TakeS100 (g m : Nat) (s : Nat → Int) (W : World) (hw : Rw W g (over N102 0 (sb s m))) (h1 : 1 ≤ m) (h2 : m ≤ 8) (h0 : ∀ k, k < 8 → 0 ≤ s k ∧ s k < 18446744073709551616) :
    Calls Try.prog 27 #[fS 57 58 (8 * (m : Int)), .slice (some ⟨g, 0, none⟩) 100 102] W fun e w' => e = .returned (.tuple #[sV (upto s m), .int .i64 0]) ∧ Below W.heap.size W w' := by
  have := TakeS_ok (8 * m) g 100 102 (upto s m) _ W hw (by omega) (by omega) (by omega) (by omega) (by omega) fun W h => state_ok g (8 * m) (8 * m) m (upto s m) _ W h (ovb _ (sb_bytes s m)) rfl h2 (by rw [over_l _ 0 (by rw [sb_len]; omega)]; omega) (by omega) (fun k hk => by rw [sb_get N102 s k m hk (h0 k (by omega)).1 (h0 k (by omega)).2]; unfold upto; rw [if_pos hk]) (fun k hk => by unfold upto; rw [if_neg (by omega)])
  rw [show (((8 * m : Nat) : Int)) = 8 * (m : Int) by omega] at this
  exact this
theorem sb_upto (s : Nat → Int) (m j : Nat) (h : j ≤ m) : sb (upto s m) j = sb s j := by
  induction j with
  | zero => rfl
  | succ j ih => rw [sb, sb, ih (by omega)]; unfold upto; rw [if_pos (by omega)]
/-- What the law holds in its three boxes. -/
structure Bs (b : Nat) (x y z p q r : Int) (s : Nat → Int) (W : World) : Prop where
  e : S3 b (.int .u32 x) (.int .u32 y) (.int .u32 z) W
  u : S3 (b + 1) (.int .u32 p) (.int .u64 q) (.int .u64 r) W
  s : S8 (b + 2) s W
  fe : ∀ j, W.frozen? ⟨b, j, none⟩ = false
  fs : ∀ j, W.frozen? ⟨b + 2, j, none⟩ = false
theorem Bs.lt {b : Nat} {x y z p q r : Int} {s : Nat → Int} {W : World} (h : Bs b x y z p q r s W) : b + 3 ≤ W.heap.size := h.s.lt
theorem Bs.of {b : Nat} {x y z p q r : Int} {s : Nat → Int} {W W' : World} (h : Bs b x y z p q r s W) (hb : ∀ k, k < b + 3 → W'.heap[k]? = W.heap[k]?) : Bs b x y z p q r s W' := by
  have e0 := hb b (by omega)
  have e1 := hb (b + 1) (by omega)
  have e2 := hb (b + 2) (by omega)
  refine ⟨⟨?_, ?_, ?_⟩, ⟨?_, ?_, ?_⟩, h.s.of e2, fun j => ?_, fun j => ?_⟩
  · exact (World.cell?_of_block (w := W) (a := ⟨b, 0, none⟩) e0).trans h.e.1
  · exact (World.cell?_of_block (w := W) (a := ⟨b, 1, none⟩) e0).trans h.e.2.1
  · exact (World.cell?_of_block (w := W) (a := ⟨b, 2, none⟩) e0).trans h.e.2.2
  · exact (World.cell?_of_block (w := W) (a := ⟨b + 1, 0, none⟩) e1).trans h.u.1
  · exact (World.cell?_of_block (w := W) (a := ⟨b + 1, 1, none⟩) e1).trans h.u.2.1
  · exact (World.cell?_of_block (w := W) (a := ⟨b + 1, 2, none⟩) e1).trans h.u.2.2
  · exact (World.frozen?_of_block (w := W) (a := ⟨b, j, none⟩) e0).trans (h.fe j)
  · exact (World.frozen?_of_block (w := W) (a := ⟨b + 2, j, none⟩) e2).trans (h.fs j)
theorem Bs.below {b B : Nat} {x y z p q r : Int} {s : Nat → Int} {W W' : World} (h : Bs b x y z p q r s W) (hb : Below B W W') (hB : b + 3 ≤ B) : Bs b x y z p q r s W' := h.of fun k hk => hb.block k (by omega)
theorem Bs.bx {b g : Nat} {x y z p q r : Int} {s : Nat → Int} {W W' : World} (h : Bs b x y z p q r s W) (hb : Bx g W W') (hB : b + 3 ≤ g) : Bs b x y z p q r s W' := h.of fun k hk => hb.block k (Nat.lt_of_lt_of_le hk h.lt) (by omega)
theorem Bs.alloc {b : Nat} {x y z p q r : Int} {s : Nat → Int} {W : World} (h : Bs b x y z p q r s W) (o : Obj) : Bs b x y z p q r s (W.alloc o) := h.of fun k hk => Below.heap_alloc W o k (Nat.lt_of_lt_of_le hk h.lt)
theorem Bs.setE {b : Nat} {x y z p q r : Int} {s : Nat → Int} {W : World} (h : Bs b x y z p q r s W) : Bs b x y 0 p q r s (W.setCell ⟨b, 2, none⟩ (.int .u32 0)) := by
  have o1 : ∀ k, k ≠ b → (W.setCell ⟨b, 2, none⟩ (.int .u32 0)).heap[k]? = W.heap[k]? := fun k hk => Below.heap_setCell W ⟨b, 2, none⟩ (.int .u32 0) k hk
  refine ⟨⟨?_, ?_, ?_⟩, ⟨?_, ?_, ?_⟩, h.s.of (o1 _ (by omega)), fun j => ?_, fun j => ?_⟩
  · rw [World.cell?_setCell_other _ _ _ _ (by simp)]; exact h.e.1
  · rw [World.cell?_setCell_other _ _ _ _ (by simp)]; exact h.e.2.1
  · exact World.cell?_setCell_same W _ _ h.e.2.2
  · exact (World.cell?_of_block (w := W) (a := ⟨b + 1, 0, none⟩) (o1 _ (by simp))).trans h.u.1
  · exact (World.cell?_of_block (w := W) (a := ⟨b + 1, 1, none⟩) (o1 _ (by simp))).trans h.u.2.1
  · exact (World.cell?_of_block (w := W) (a := ⟨b + 1, 2, none⟩) (o1 _ (by simp))).trans h.u.2.2
  · rw [World.frozen?_setCell]; exact h.fe j
  · rw [World.frozen?_setCell]; exact h.fs j
theorem Bs.new (w : World) (x y z p q r : Int) (s : Nat → Int) :
    Bs w.heap.size x y z p q r s (((w.alloc (.cells #[.int .u32 x, .int .u32 y, .int .u32 z] 40)).alloc (.cells #[.int .u32 p, .int .u64 q, .int .u64 r] 43)).alloc (.cells (sA s) 45)) := by
  have h1 := ((S3.new w (.int .u32 x) (.int .u32 y) (.int .u32 z) 40).alloc (.cells #[.int .u32 p, .int .u64 q, .int .u64 r] 43)).alloc (.cells (sA s) 45)
  have h2 := (S3.new (w.alloc (.cells #[.int .u32 x, .int .u32 y, .int .u32 z] 40)) (.int .u32 p) (.int .u64 q) (.int .u64 r) 43).alloc (.cells (sA s) 45)
  have h3 := S8.new ((w.alloc (.cells #[.int .u32 x, .int .u32 y, .int .u32 z] 40)).alloc (.cells #[.int .u32 p, .int .u64 q, .int .u64 r] 43)) s 45
  have f3 := frozen_new ((w.alloc (.cells #[.int .u32 x, .int .u32 y, .int .u32 z] 40)).alloc (.cells #[.int .u32 p, .int .u64 q, .int .u64 r] 43)) (sA s) 45
  have e1 : (w.alloc (.cells #[.int .u32 x, .int .u32 y, .int .u32 z] 40)).heap.size = w.heap.size + 1 := by simp
  have e2 : ((w.alloc (.cells #[.int .u32 x, .int .u32 y, .int .u32 z] 40)).alloc (.cells #[.int .u32 p, .int .u64 q, .int .u64 r] 43)).heap.size = w.heap.size + 2 := by simp
  rw [e1] at h2
  rw [e2] at h3 f3
  refine ⟨h1, h2, h3, fun j => ?_, f3⟩
  rw [World.frozen?_of_block (Below.heap_alloc _ _ _ (by simp; omega)), World.frozen?_of_block (Below.heap_alloc _ _ _ (by simp))]
  exact frozen_new w _ _ j
end Rt
end Go.Proofs.Ytfgjhljhjclegaa
