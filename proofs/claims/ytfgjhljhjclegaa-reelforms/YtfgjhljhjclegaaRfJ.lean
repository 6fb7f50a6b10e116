import Derived.Test.YtfgjhljhjclegaaRfC
import Derived.Deep.RegionHeld3
namespace Go.Proofs.Ytfgjhljhjclegaa
namespace Rt
open Go.RowKit
set_option linter.unusedVariables false
set_option maxRecDepth 8000
/-- What an append of one list of bytes to another answers. -/
theorem own_app {w : World} {g cap B n m : Nat} {X Y : List Int} (hn : X.length = n) (hm : Y.length = m) (h : w.ownsRow B 5 1 (.slice (some ⟨g, 0, none⟩) (n + m) cap) (n + m) (vals X ++ vals Y)) : Own w g cap (X ++ Y) := by
  rw [← vals_app] at h
  exact Own.of_row (by simp [hn, hm]) h
theorem Own.row' {w : World} {g cap B n : Nat} {L : List Int} (h : Own w g cap L) (hB : B ≤ g) (hn : L.length = n) : w.ownsRow B 5 1 (.slice (some ⟨g, 0, none⟩) n cap) n (vals L) := by
  subst hn; exact h.row hB
set_option maxHeartbeats 3200000 in
theorem edgeBytes_1 (x y z : Int) (w : World) (hx0 : 0 ≤ x) (hx1 : x < 4294967296) (hy0 : 0 ≤ y) (hy1 : y < 4294967296) :
    Calls Try.prog 18 #[.int .i64 1, eV x y z] w fun e w' => ∃ g c, e = .returned (.slice (some ⟨g, 0, none⟩) 8 c) ∧ Own w' g c (lb x 4 ++ lb y 4) ∧ Below w.heap.size w w' := by
  obtain ⟨i0, hi, hz0, hz1, hz2⟩ := i0x
  have u1 : IntKind.u64.wrap x = x := by rw [IntKind.wrap_u64]; omega
  have u2 : IntKind.u64.wrap y = y := by rw [IntKind.wrap_u64]; omega
  have HX : Hid (∀ W, Calls Try.prog 51 #[.int .u64 x, .int .i64 4] W fun e w' => ∃ g c, e = .returned (.slice (some ⟨g, 0, none⟩) 4 c) ∧ W.heap.size ≤ g ∧ Own w' g c (lb x 4) ∧ Below W.heap.size W w') := fun W => le_ok 4 x W (by omega) (by omega) hx0 (by omega)
  have HY : Hid (∀ W, Calls Try.prog 51 #[.int .u64 y, .int .i64 4] W fun e w' => ∃ g c, e = .returned (.slice (some ⟨g, 0, none⟩) 4 c) ∧ W.heap.size ≤ g ∧ Own w' g c (lb y 4) ∧ Below W.heap.size W w') := fun W => le_ok 4 y W (by omega) (by omega) hy0 (by omega)
  have hS1 := S3.new w (.int .u32 x) (.int .u32 y) (.int .u32 z) 40
  obtain ⟨b, hb⟩ : ∃ b, b = w.heap.size := ⟨_, rfl⟩
  obtain ⟨W, hW⟩ : ∃ W, W = w.alloc (.cells #[.int .u32 x, .int .u32 y, .int .u32 z] 40) := ⟨_, rfl⟩
  have hbW : Below w.heap.size w W := by rw [hW]; exact (Below.refl _ _).alloc (Nat.le_refl _) _
  rw [← hW, ← hb] at hS1
  have HW : Hid (W = w.alloc (.cells #[.int .u32 x, .int .u32 y, .int .u32 z] 40)) := hW
  have HB : Hid (b = w.heap.size) := hb
  have hS : Hid (S3 b (.int .u32 x) (.int .u32 y) (.int .u32 z) W.drew) := hS1
  have hS0 : Hid (S3 b (.int .u32 x) (.int .u32 y) (.int .u32 z) W) := hS1
  have hd : Below W.heap.size W W.drew := (Below.refl _ _).drew
  have hl : b < W.heap.size := hS1.lt
  clear hW hb hS1
  go_enter Try.func18, Try.ntmps18
  go_wp2
  rw [← HW.out, ← HB.out]
  clear HW HB
  go_region_held3 (S3 b (.int .u32 x) (.int .u32 y) (.int .u32 z)) ((with_reducible exact hS.out))
    ((first
      | (have hg := o6; clear hg; refine step_append_lies _ (by rfl) _ _ 27 (by rfl) W.heap.size 5 i0 (.int .u8 0) 1 1 Try.underlying27 hi hz0 hz1 hz2 rfl (by decide) _ 4 (vals (lb x 4)) (by rfl) (o5.row' q5' (lb_len _ _)) ⟨g6, 0, none⟩ 4 c6 (vals (lb y 4)) (by rfl) (by rw [vals_len, lb_len]) o6.news (vals_one _) (by omega) (by unfold maxLen; omega) (by omega) hd.size _ rfl ?_; intro g7 c7 w7 o7 r7 a7 l7; (replace hd := hd.grown r7 hd.size (fun k hk => by (have e : g5 = k := by simpa [Value.ownBlock] using hk); omega)); (replace hS : Hid (S3 b (.int .u32 x) (.int .u32 y) (.int .u32 z) w7) := S3.below hS0.out hd hl))
      | (have hg := o5; clear hg; go_at_call 51; refine (HY.out _).mono ?_; rintro e6 w6 ⟨g6, c6, rfl, q6, o6, b6⟩; (have q6' : W.heap.size ≤ g6 := Nat.le_trans hd.size q6); (replace o5 := o5.kept b6 o5.lt); (replace hS : Hid (S3 b (.int .u32 x) (.int .u32 y) (.int .u32 z) w6) := S3.below hS.out b6 (S3.lt hS.out)); (replace hd := hd.trans (b6.mono hd.size)); clear b6 q6)
      | (go_at_call 51; refine (HX.out _).mono ?_; rintro e5 w5 ⟨g5, c5, rfl, q5, o5, b5⟩; (have q5' : W.heap.size ≤ g5 := Nat.le_trans hd.size q5); (replace hS : Hid (S3 b (.int .u32 x) (.int .u32 y) (.int .u32 z) w5) := S3.below hS.out b5 (S3.lt hS.out)); (replace hd := hd.trans (b5.mono hd.size)); clear b5 q5)))
  have o8 : Own w7 g7 c7 (lb x 4 ++ lb y 4) := own_app (lb_len _ _) (lb_len _ _) o7
  have q7 : W.heap.size ≤ g7 := (World.ownsRow.lt o7 g7 rfl).1
  clear a7 r7 o7 o5 o6 q5' q6' u1 u2 HX HY
  go_wp2
  go_ret
  exact ⟨g7, c7, rfl, o8, hbW.trans (hd.mono hbW.size)⟩
set_option maxHeartbeats 3200000 in
theorem edgeBytes_23 (k : Int) (x y z : Int) (w : World) (hx0 : 0 ≤ x) (hx1 : x < 4294967296) (hy0 : 0 ≤ y) (hy1 : y < 4294967296) (hz0' : 0 ≤ z) (hz1' : z < 4294967296) (hk : (k == 1) = false) :
    Calls Try.prog 18 #[.int .i64 k, eV x y z] w fun e w' => ∃ g c, e = .returned (.slice (some ⟨g, 0, none⟩) 12 c) ∧ Own w' g c (lb x 4 ++ lb y 4 ++ lb z 4) ∧ Below w.heap.size w w' := by
  obtain ⟨i0, hi, hz0, hz1, hz2⟩ := i0x
  have u1 : IntKind.u64.wrap x = x := by rw [IntKind.wrap_u64]; omega
  have u2 : IntKind.u64.wrap y = y := by rw [IntKind.wrap_u64]; omega
  have HX : Hid (∀ W, Calls Try.prog 51 #[.int .u64 x, .int .i64 4] W fun e w' => ∃ g c, e = .returned (.slice (some ⟨g, 0, none⟩) 4 c) ∧ W.heap.size ≤ g ∧ Own w' g c (lb x 4) ∧ Below W.heap.size W w') := fun W => le_ok 4 x W (by omega) (by omega) hx0 (by omega)
  have HY : Hid (∀ W, Calls Try.prog 51 #[.int .u64 y, .int .i64 4] W fun e w' => ∃ g c, e = .returned (.slice (some ⟨g, 0, none⟩) 4 c) ∧ W.heap.size ≤ g ∧ Own w' g c (lb y 4) ∧ Below W.heap.size W w') := fun W => le_ok 4 y W (by omega) (by omega) hy0 (by omega)
  have HZ : Hid (∀ W, Calls Try.prog 51 #[.int .u64 z, .int .i64 4] W fun e w' => ∃ g c, e = .returned (.slice (some ⟨g, 0, none⟩) 4 c) ∧ W.heap.size ≤ g ∧ Own w' g c (lb z 4) ∧ Below W.heap.size W w') := fun W => le_ok 4 z W (by omega) (by omega) hz0' (by omega)
  have hS1 := S3.new w (.int .u32 x) (.int .u32 y) (.int .u32 z) 40
  obtain ⟨b, hb⟩ : ∃ b, b = w.heap.size := ⟨_, rfl⟩
  obtain ⟨W, hW⟩ : ∃ W, W = w.alloc (.cells #[.int .u32 x, .int .u32 y, .int .u32 z] 40) := ⟨_, rfl⟩
  have hbW : Below w.heap.size w W := by rw [hW]; exact (Below.refl _ _).alloc (Nat.le_refl _) _
  rw [← hW, ← hb] at hS1
  have HW : Hid (W = w.alloc (.cells #[.int .u32 x, .int .u32 y, .int .u32 z] 40)) := hW
  have HB : Hid (b = w.heap.size) := hb
  have hS : Hid (S3 b (.int .u32 x) (.int .u32 y) (.int .u32 z) W.drew) := hS1
  have hS0 : Hid (S3 b (.int .u32 x) (.int .u32 y) (.int .u32 z) W) := hS1
  have hd : Below W.heap.size W W.drew := (Below.refl _ _).drew
  have hl : b < W.heap.size := hS1.lt
  clear hW hb hS1
  go_enter Try.func18, Try.ntmps18
  go_wp2
  rw [← HW.out, ← HB.out]
  clear HW HB
  go_region_held3 (S3 b (.int .u32 x) (.int .u32 y) (.int .u32 z)) ((with_reducible exact hS.out))
    ((first
      | (have hg := o6; clear hg; refine step_append_lies _ (by rfl) _ _ 27 (by rfl) W.heap.size 5 i0 (.int .u8 0) 1 1 Try.underlying27 hi hz0 hz1 hz2 rfl (by decide) _ 4 (vals (lb x 4)) (by rfl) (o5.row' q5' (lb_len _ _)) ⟨g6, 0, none⟩ 4 c6 (vals (lb y 4)) (by rfl) (by rw [vals_len, lb_len]) o6.news (vals_one _) (by omega) (by unfold maxLen; omega) (by omega) hd.size _ rfl ?_; intro g7 c7 w7 o7 r7 a7 l7; (replace hd := hd.grown r7 hd.size (fun k hk => by (have e : g5 = k := by simpa [Value.ownBlock] using hk); omega)); (replace hS : Hid (S3 b (.int .u32 x) (.int .u32 y) (.int .u32 z) w7) := S3.below hS0.out hd hl))
      | (have hg := o5; clear hg; go_at_call 51; refine (HY.out _).mono ?_; rintro e6 w6 ⟨g6, c6, rfl, q6, o6, b6⟩; (have q6' : W.heap.size ≤ g6 := Nat.le_trans hd.size q6); (replace o5 := o5.kept b6 o5.lt); (replace hS : Hid (S3 b (.int .u32 x) (.int .u32 y) (.int .u32 z) w6) := S3.below hS.out b6 (S3.lt hS.out)); (replace hd := hd.trans (b6.mono hd.size)); clear b6 q6)
      | (go_at_call 51; refine (HX.out _).mono ?_; rintro e5 w5 ⟨g5, c5, rfl, q5, o5, b5⟩; (have q5' : W.heap.size ≤ g5 := Nat.le_trans hd.size q5); (replace hS : Hid (S3 b (.int .u32 x) (.int .u32 y) (.int .u32 z) w5) := S3.below hS.out b5 (S3.lt hS.out)); (replace hd := hd.trans (b5.mono hd.size)); clear b5 q5)))
  have o8 : Own w7 g7 c7 (lb x 4 ++ lb y 4) := own_app (lb_len _ _) (lb_len _ _) o7
  have q7 : W.heap.size ≤ g7 := (World.ownsRow.lt o7 g7 rfl).1
  clear a7 r7 o7 o5 o6 q5' q6' u1 u2 HX HY
  obtain ⟨s70, s71, s72⟩ := hS.out
  go_wp2_with (fail)
  refine (HZ.out _).mono ?_
  rintro e9 w9 ⟨g9, c9, rfl, q9, o9, b9⟩
  have o10 := o8.kept b9 o8.lt
  have d9 := hd.trans (b9.mono hd.size)
  clear b9 hd o8 s70 s71 s72 hS q9 l7
  go_wp2_with (at_builtin; refine wpList_append_lies _ rfl _ _ 27 rfl W.heap.size 5 i0 (.int .u8 0) 1 1 Try.underlying27 hi hz0 hz1 hz2 rfl (by decide) _ 8 _ rfl (o10.row' q7 (by simp [lb_len])) ⟨g9, 0, none⟩ 4 c9 (vals (lb z 4)) rfl (by rw [vals_len, lb_len]) o9.news (vals_one _) (by omega) (by unfold maxLen; omega) (by omega) d9.size _ rfl ?_; intro g11 c11 w11 o11 r11 a11 l11)
  have r12 : w9.grownBy w11 (some g7) := r11
  have d11 := d9.grown r12 d9.size (fun k hk => by
    have e : g7 = k := by simpa using hk
    omega)
  have o12 := own_app (by simp [lb_len]) (lb_len _ _) o11
  clear r11 r12 a11 o11 o9 o10 d9
  go_wp2
  go_ret
  exact ⟨g11, c11, rfl, o12, hbW.trans (d11.mono hbW.size)⟩
set_option maxHeartbeats 3200000 in
theorem updateBytes_ok (x y z : Int) (w : World) (hx0 : 0 ≤ x) (hx1 : x < 4294967296) (hy0 : 0 ≤ y) (hy1 : y < 18446744073709551616) (hz0' : 0 ≤ z) (hz1' : z < 18446744073709551616) :
    Calls Try.prog 22 #[uV x y z] w fun e w' => ∃ g c, e = .returned (.slice (some ⟨g, 0, none⟩) 20 c) ∧ Own w' g c (lb x 4 ++ lb y 8 ++ lb z 8) ∧ Below w.heap.size w w' := by
  obtain ⟨i0, hi, hz0, hz1, hz2⟩ := i0x
  have u1 : IntKind.u64.wrap x = x := by rw [IntKind.wrap_u64]; omega
  have u2 : IntKind.u64.wrap y = y := by rw [IntKind.wrap_u64]; omega
  have HX : Hid (∀ W, Calls Try.prog 51 #[.int .u64 x, .int .i64 4] W fun e w' => ∃ g c, e = .returned (.slice (some ⟨g, 0, none⟩) 4 c) ∧ W.heap.size ≤ g ∧ Own w' g c (lb x 4) ∧ Below W.heap.size W w') := fun W => le_ok 4 x W (by omega) (by omega) hx0 (by omega)
  have HY : Hid (∀ W, Calls Try.prog 51 #[.int .u64 y, .int .i64 8] W fun e w' => ∃ g c, e = .returned (.slice (some ⟨g, 0, none⟩) 8 c) ∧ W.heap.size ≤ g ∧ Own w' g c (lb y 8) ∧ Below W.heap.size W w') := fun W => le_ok 8 y W (by omega) (by omega) hy0 (by omega)
  have HZ : Hid (∀ W, Calls Try.prog 51 #[.int .u64 z, .int .i64 8] W fun e w' => ∃ g c, e = .returned (.slice (some ⟨g, 0, none⟩) 8 c) ∧ W.heap.size ≤ g ∧ Own w' g c (lb z 8) ∧ Below W.heap.size W w') := fun W => le_ok 8 z W (by omega) (by omega) hz0' (by omega)
  have hS1 := S3.new w (.int .u32 x) (.int .u64 y) (.int .u64 z) 43
  obtain ⟨b, hb⟩ : ∃ b, b = w.heap.size := ⟨_, rfl⟩
  obtain ⟨W, hW⟩ : ∃ W, W = w.alloc (.cells #[.int .u32 x, .int .u64 y, .int .u64 z] 43) := ⟨_, rfl⟩
  have hbW : Below w.heap.size w W := by rw [hW]; exact (Below.refl _ _).alloc (Nat.le_refl _) _
  rw [← hW, ← hb] at hS1
  have HW : Hid (W = w.alloc (.cells #[.int .u32 x, .int .u64 y, .int .u64 z] 43)) := hW
  have HB : Hid (b = w.heap.size) := hb
  have hS : Hid (S3 b (.int .u32 x) (.int .u64 y) (.int .u64 z) W.drew) := hS1
  have hS0 : Hid (S3 b (.int .u32 x) (.int .u64 y) (.int .u64 z) W) := hS1
  have hd : Below W.heap.size W W.drew := (Below.refl _ _).drew
  have hl : b < W.heap.size := hS1.lt
  clear hW hb hS1
  go_enter Try.func22, Try.ntmps22
  go_wp2
  rw [← HW.out, ← HB.out]
  clear HW HB
  go_region_held3 (S3 b (.int .u32 x) (.int .u64 y) (.int .u64 z)) ((with_reducible exact hS.out))
    ((first
      | (have hg := o6; clear hg; refine step_append_lies _ (by rfl) _ _ 27 (by rfl) W.heap.size 5 i0 (.int .u8 0) 1 1 Try.underlying27 hi hz0 hz1 hz2 rfl (by decide) _ 4 (vals (lb x 4)) (by rfl) (o5.row' q5' (lb_len _ _)) ⟨g6, 0, none⟩ 8 c6 (vals (lb y 8)) (by rfl) (by rw [vals_len, lb_len]) o6.news (vals_one _) (by omega) (by unfold maxLen; omega) (by omega) hd.size _ rfl ?_; intro g7 c7 w7 o7 r7 a7 l7; (replace hd := hd.grown r7 hd.size (fun k hk => by (have e : g5 = k := by simpa [Value.ownBlock] using hk); omega)); (replace hS : Hid (S3 b (.int .u32 x) (.int .u64 y) (.int .u64 z) w7) := S3.below hS0.out hd hl))
      | (have hg := o5; clear hg; go_at_call 51; refine (HY.out _).mono ?_; rintro e6 w6 ⟨g6, c6, rfl, q6, o6, b6⟩; (have q6' : W.heap.size ≤ g6 := Nat.le_trans hd.size q6); (replace o5 := o5.kept b6 o5.lt); (replace hS : Hid (S3 b (.int .u32 x) (.int .u64 y) (.int .u64 z) w6) := S3.below hS.out b6 (S3.lt hS.out)); (replace hd := hd.trans (b6.mono hd.size)); clear b6 q6)
      | (go_at_call 51; refine (HX.out _).mono ?_; rintro e5 w5 ⟨g5, c5, rfl, q5, o5, b5⟩; (have q5' : W.heap.size ≤ g5 := Nat.le_trans hd.size q5); (replace hS : Hid (S3 b (.int .u32 x) (.int .u64 y) (.int .u64 z) w5) := S3.below hS.out b5 (S3.lt hS.out)); (replace hd := hd.trans (b5.mono hd.size)); clear b5 q5)))
  have o8 : Own w7 g7 c7 (lb x 4 ++ lb y 8) := own_app (lb_len _ _) (lb_len _ _) o7
  have q7 : W.heap.size ≤ g7 := (World.ownsRow.lt o7 g7 rfl).1
  clear a7 r7 o7 o5 o6 q5' q6' u1 u2 HX HY
  obtain ⟨s70, s71, s72⟩ := hS.out
  go_wp2_with (fail)
  refine (HZ.out _).mono ?_
  rintro e9 w9 ⟨g9, c9, rfl, q9, o9, b9⟩
  have o10 := o8.kept b9 o8.lt
  have d9 := hd.trans (b9.mono hd.size)
  clear b9 hd o8 s70 s71 s72 hS q9 l7
  go_wp2_with (at_builtin; refine wpList_append_lies _ rfl _ _ 27 rfl W.heap.size 5 i0 (.int .u8 0) 1 1 Try.underlying27 hi hz0 hz1 hz2 rfl (by decide) _ 12 _ rfl (o10.row' q7 (by simp [lb_len])) ⟨g9, 0, none⟩ 8 c9 (vals (lb z 8)) rfl (by rw [vals_len, lb_len]) o9.news (vals_one _) (by omega) (by unfold maxLen; omega) (by omega) d9.size _ rfl ?_; intro g11 c11 w11 o11 r11 a11 l11)
  have r12 : w9.grownBy w11 (some g7) := r11
  have d11 := d9.grown r12 d9.size (fun k hk => by
    have e : g7 = k := by simpa using hk
    omega)
  have o12 := own_app (by simp [lb_len]) (lb_len _ _) o11
  clear r11 r12 a11 o11 o9 o10 d9
  go_wp2
  go_ret
  exact ⟨g11, c11, rfl, o12, hbW.trans (d11.mono hbW.size)⟩
end Rt
end Go.Proofs.Ytfgjhljhjclegaa
