import Derived.Test.YtfgjhljhjclegaaRfR
import Derived.Deep.DeepCutAuto
namespace Go.Proofs.Ytfgjhljhjclegaa
namespace Rt
open Go.RowKit
set_option linter.unusedVariables false
set_option maxRecDepth 10000
set_option maxHeartbeats 8000000 in
theorem law_dl (k : Int) (m : Int) (x y z p q r : Int) (s : Nat → Int) (w : World) (hx0 : 0 ≤ x) (hx1 : x < 4294967296) (hy0 : 0 ≤ y) (hy1 : y < 4294967296) (hz0 : 0 ≤ z) (hz1 : z < 4294967296) (hp0 : 0 ≤ p) (hp1 : p < 4294967296) (hq0 : 0 ≤ q) (hq1 : q < 18446744073709551616) (hr0 : 0 ≤ r) (hr1 : r < 18446744073709551616) (h0 : ∀ k, k < 8 → 0 ≤ s k ∧ s k < 18446744073709551616) (hk2 : k = 2 ∨ k = 3) (hk : 1 < k) (hk3 : k ≤ 3) (hm : m < 1) :
    Calls Try.prog 4 #[.int .i64 k, eV x y z, uV p q r, .int .i64 m, sV s] w fun e w' => e = .returned (.bool true) ∧ Below w.heap.size w w' := by
  have B0 := Bs.new w x y z p q r s
  have D0 : Below w.heap.size w (((w.alloc (.cells #[.int .u32 x, .int .u32 y, .int .u32 z] 40)).alloc (.cells #[.int .u32 p, .int .u64 q, .int .u64 r] 43)).alloc (.cells (sA s) 45)) := b3 w _ _ _
  have HK2 : Hid (k = 2 ∨ k = 3) := hk2
  clear hk2
  have H0 : Hid (∀ k, k < 8 → 0 ≤ s k ∧ s k < 18446744073709551616) := h0
  clear h0
  go_enter Try.func4, Try.ntmps4
  go_wp2_with (fail)
  refine (edgeForm_23 _ HK2.out _).mono ?_
  rintro e1 w1 ⟨rfl, b1⟩
  have B1 := B0.below b1 B0.lt
  have D1 := D0.trans (b1.mono D0.size)
  clear B0 D0 b1
  obtain ⟨F, hF⟩ : ∃ F, F = w1.heap.size := ⟨_, rfl⟩
  have F1 := S3.new w1 (.int .i64 12) (.func (.func 46) #[] #[]) (.func (.func 47) #[] #[]) 49
  have lF : w.heap.size + 3 ≤ F := by rw [hF]; exact B1.lt
  go_wp2_with (fail)
  rw [← hF] at F1 ⊢
  refine (buffer100 _ (F + 1) (by simp [hF])).mono ?_
  rintro e2 w2 ⟨rfl, r2, b2⟩
  have F2 := F1.below b2 (by omega)
  have B2 := (B1.alloc _).below b2 (by omega)
  have D2 := (D1.alloc D1.size _).trans (b2.mono (by omega))
  clear F1 B1 D1 b2 hF w1
  obtain ⟨f20, f21, f22⟩ := F2
  obtain ⟨e20, e21, e22⟩ := B2.e
  go_wp2_with (fail)
  refine (LayW100 (F + 1) x y z _ r2 hx0 hx1 hy0 hy1 hz0 hz1).mono ?_
  rintro e3 w3 ⟨rfl, r3, b3⟩
  have F3 := S3.on ⟨f20, f21, f22⟩ b3 (World.block_lt_of_cell? _ _ f20) (by omega)
  have B3 := B2.bx b3 (by omega)
  have D3 := D2.trans (b3.below (by omega) (by have := r2.lt; omega))
  clear B2 D2 b3 f20 f21 f22 e20 e21 e22 r2
  have r4 := r3
  have B4 := B3
  have D4 := D3
  obtain ⟨f40, f41, f42⟩ := F3
  obtain ⟨e40, e41, e42⟩ := B4.e
  clear r3 B3 D3
  go_wp2_with (fail)
  refine (TakeW100 (F + 1) x y z _ r4 hx0 hx1 hy0 hy1 hz0 hz1).mono ?_
  rintro e5 w5 ⟨rfl, b5⟩
  have l4 := r4.lt
  have r5 := r4.kept b5 l4
  have B5 := B4.below b5 B4.lt
  have D5 := D4.trans (b5.mono D4.size)
  clear B4 D4 b5 r4 f40 f41 f42 e40 e41 e42 l4
  obtain ⟨X, hX⟩ : ∃ X, X = w5.heap.size := ⟨_, rfl⟩
  have X5 := S3.new w5 (.int .u32 x) (.int .u32 y) (.int .u32 z) 40
  have r6 := r5.alloc (.cells #[.int .u32 x, .int .u32 y, .int .u32 z] 40)
  have B6 := B5.alloc (.cells #[.int .u32 x, .int .u32 y, .int .u32 z] 40)
  have D6 := D5.alloc D5.size (.cells #[.int .u32 x, .int .u32 y, .int .u32 z] 40)
  have lX : F + 1 < X := by rw [hX]; exact r5.lt
  have sX : (w5.alloc (.cells #[.int .u32 x, .int .u32 y, .int .u32 z] 40)).heap.size = X + 1 := by simp [hX]
  obtain ⟨e50, e51, e52⟩ := B6.e
  clear B5 D5 r5
  go_wp2_with (fail)
  rw [← hX] at X5 ⊢
  refine (edgeBytes_23 k x y z _ hx0 hx1 hy0 hy1 hz0 hz1 (by simp; omega)).mono ?_
  rintro e7 w7 ⟨g7, c7, rfl, o7, b7⟩
  have r7 := r6.kept b7 r6.lt
  have X7 := X5.below b7 X5.lt
  have B7 := B6.below b7 B6.lt
  have D7 := D6.trans (b7.mono D6.size)
  clear X5 r6 B6 D6 b7 e50 e51 e52 hX sX w5
  go_wp2_with (fail)
  refine (laid_own (Z12 x y z) (F + 1) g7 c7 12 _ r7 o7 (Z12_len x y z) (by omega)).mono ?_
  rintro e8 w8 ⟨rfl, h8⟩
  subst w8
  obtain ⟨x70, x71, x72⟩ := X7
  obtain ⟨e70, e71, e72⟩ := B7.e
  clear o7 r7
  go_wp2_with (go_at_call 11; refine (num_any _ _).mono ?_; rintro e9 w9 ⟨rfl, h9⟩; subst w9)
  clear lF lX x70 x71 x72 e70 e71 e72
  obtain ⟨G, hG⟩ : ∃ G, G = w7.heap.size := ⟨_, rfl⟩
  have lG : w.heap.size + 3 ≤ G := by rw [hG]; exact B7.lt
  refine (buffer100 _ G hG.symm).mono ?_
  rintro e10 w10 ⟨rfl, r10, b10⟩
  have B10 := B7.below b10 lG
  have D10 := D7.trans (b10.mono (by omega))
  clear b10 B7 D7 hG
  go_wp2_with (fail)
  refine (updateForm_any _).mono ?_
  rintro e11 w11 ⟨rfl, b11⟩
  have r11 := r10.kept b11 r10.lt
  have B11 := B10.below b11 B10.lt
  have D11 := D10.trans (b11.mono D10.size)
  clear b11 r10 B10 D10
  obtain ⟨H, hH⟩ : ∃ H, H = w11.heap.size := ⟨_, rfl⟩
  have H12 := S3.new w11 (.int .i64 20) (.func (.func 52) #[] #[]) (.func (.func 53) #[] #[]) 60
  have r12 := r11.alloc (oU 52 53 20)
  have B12 := B11.alloc (oU 52 53 20)
  have D12 := D11.alloc D11.size (oU 52 53 20)
  have lH : G < H := by rw [hH]; exact r11.lt
  obtain ⟨u0, u1, u2⟩ := B12.u
  clear r11 B11 D11
  go_wp2_with (fail)
  rw [← hH] at H12 ⊢
  refine (LayU100 G p q r _ r12 hp0 hp1 hq0 hq1 hr0 hr1).mono ?_
  rintro e13 w13 ⟨rfl, r13, b13⟩
  have H13 := H12.on b13 H12.lt (by omega)
  have B13 := B12.bx b13 lG
  have D13 := D12.trans (b13.below (by omega) (by have := r12.lt; omega))
  clear b13 H12 r12 B12 D12 hH u0 u1 u2 w11
  obtain ⟨h0_, h1_, h2_⟩ := H13
  go_wp2_with (fail)
  refine (TakeU100 G p q r _ r13 hp0 hp1 hq0 hq1 hr0 hr1).mono ?_
  rintro e14 w14 ⟨rfl, b14⟩
  have H14 := S3.below ⟨h0_, h1_, h2_⟩ b14 (World.block_lt_of_cell? _ _ h0_)
  have r14 := r13.kept b14 r13.lt
  have B14 := B13.below b14 B13.lt
  have D14 := D13.trans (b14.mono D13.size)
  clear b14 r13 B13 D13 h0_ h1_ h2_
  obtain ⟨Y, hY⟩ : ∃ Y, Y = w14.heap.size := ⟨_, rfl⟩
  have Y15 := S3.new w14 (.int .u32 p) (.int .u64 q) (.int .u64 r) 43
  have H15 := H14.alloc (.cells #[.int .u32 p, .int .u64 q, .int .u64 r] 43)
  have r15 := r14.alloc (.cells #[.int .u32 p, .int .u64 q, .int .u64 r] 43)
  have B15 := B14.alloc (.cells #[.int .u32 p, .int .u64 q, .int .u64 r] 43)
  have D15 := D14.alloc D14.size (.cells #[.int .u32 p, .int .u64 q, .int .u64 r] 43)
  have lY : H < Y := by rw [hY]; exact H14.lt
  obtain ⟨u0, u1, u2⟩ := B15.u
  clear r14 B14 D14 H14
  go_wp2_with (fail)
  rw [← hY] at Y15 ⊢
  refine (updateBytes_ok p q r _ hp0 hp1 hq0 hq1 hr0 hr1).mono ?_
  rintro e16 w16 ⟨g16, c16, rfl, o16, b16⟩
  have r16 := r15.kept b16 r15.lt
  have Y16 := Y15.below b16 Y15.lt
  have H16 := H15.below b16 H15.lt
  have B16 := B15.below b16 B15.lt
  have D16 := D15.trans (b16.mono D15.size)
  clear b16 r15 Y15 H15 B15 D15 u0 u1 u2 hY w14
  go_wp2_with (fail)
  refine (laid_own (Z20 p q r) G g16 c16 20 _ r16 o16 (Z20_len p q r) (by omega)).mono ?_
  rintro e17 w17 ⟨rfl, h17⟩
  subst w17
  clear o16
  go_wp2
  have hS : Hid (SU H (w.heap.size + 1) p q r w16.drew) := ⟨H16, B16.u⟩
  have l1 : H < w16.heap.size := H16.lt
  have l2 : w.heap.size + 1 < w16.heap.size := S3.lt B16.u
  go_region_held3 (SU H (w.heap.size + 1) p q r) ((with_reducible exact hS.out))
    ((go_at_call 20; refine (LayU19 _ _ p q r _).mono ?_; rintro e18 w18 ⟨rfl, b18⟩; (replace hS : Hid (SU H (w.heap.size + 1) p q r w18) := ⟨S3.below hS.out.1 b18 (by exact l1), S3.below hS.out.2 b18 (by exact l2)⟩)))
  have b19 : Below w16.heap.size w16 w18 := ⟨b18.os, b18.tape, b18.output, b18.size, b18.block⟩
  have r18 := r16.kept b19 r16.lt
  have Y18 := Y16.below b19 Y16.lt
  have H18 := hS.out.1
  have B18 := B16.below b19 B16.lt
  have D18 := D16.trans (b19.mono D16.size)
  clear b18 b19 r16 Y16 H16 B16 D16 hS l1 l2
  have HST : Hid (ST H w18) := H18
  have l1 : H < w18.heap.size := H18.lt
  go_wp2
  go_cut [26] (fun c wx => c = .int .i64 67 ∧ Below w18.heap.size w18 wx)
  case first =>
    clear r18 Y18 B18 D18 H18
    go_region_held3 (fun X => ST H X ∧ Below w18.heap.size w18 X) ((refine skp HST.out l1 ?_; first | (with_reducible exact hb20) | (with_reducible exact (Below.refl _ _).drew) | (with_reducible exact ((Below.refl _ _).alloc (Nat.le_refl _) _).drew) | (with_reducible exact hb20.alloc hb20.size _) | (with_reducible exact ((hb20.setCell (Nat.le_refl _) _).setCell (Nat.le_refl _) _).setCell (Nat.le_refl _) _)))
      ((go_at_call 21; refine (TakeU19 _ _ _).mono ?_; rintro e20 w20 ⟨rfl, b20⟩; (first | (have hb20 : Below w18.heap.size w18 w20 := ⟨b20.os, b20.tape, b20.output, b20.size, b20.block⟩) | (obtain ⟨hb20, ⟨z0, z1, z2⟩, zf20⟩ := bz b20))))
    all_goals
      go_wp2_with fail
      go_meet
      refine ⟨rfl, ?_⟩
      first | exact hb20.alloc hb20.size _ | exact ((hb20.setCell (Nat.le_refl _) _).setCell (Nat.le_refl _) _).setCell (Nat.le_refl _) _
  case rest =>
    obtain ⟨rfl, b20⟩ := hcut
    have H20 := H18.below b20 l1
    have Y20 := Y18.below b20 Y18.lt
    have B20 := B18.below b20 B18.lt
    have D20 := D18.trans (b20.mono D18.size)
    clear b20 H18 Y18 B18 D18 r18 HST l1
    obtain ⟨h20, h21, h22⟩ := H20
    go_wp2_with (fail)
    refine (widthU_any _ _ 20 _).mono ?_
    rintro e21 w21 ⟨rfl, b21⟩
    have Y21 := Y20.below b21 Y20.lt
    have B21 := B20.below b21 B20.lt
    have D21 := D20.trans (b21.mono D20.size)
    clear b21 Y20 B20 D20 h20 h21 h22
    obtain ⟨y0, y1, y2⟩ := Y21
    obtain ⟨v0, v1, v2⟩ := B21.u
    go_wp2_with (go_at_call 11; refine (num_any _ _).mono ?_; rintro e9 w9 ⟨rfl, h9⟩; subst w9)
    clear y0 y1 y2 v0 v1 v2 lG lH lY
    obtain ⟨J, hJ⟩ : ∃ J, J = w21.heap.size := ⟨_, rfl⟩
    have lJ : w.heap.size + 3 ≤ J := by rw [hJ]; exact B21.lt
    refine (buffer100 _ J hJ.symm).mono ?_
    rintro e22 w22 ⟨rfl, r22, b22⟩
    have B22 := B21.below b22 lJ
    have D22 := D21.trans (b22.mono (by omega))
    clear b22 B21 D21 hJ
    go_wp2_with (fail)
    refine (stateForm_no _ (.inl hm) _).mono ?_
    rintro e23 w23 ⟨rfl, b23⟩
    have B23 := B22.below b23 B22.lt
    have D23 := D22.trans (b23.mono D22.size)
    clear b23 B22 D22 r22
    obtain ⟨K, hK⟩ : ∃ K, K = w23.heap.size := ⟨_, rfl⟩
    have K24 := S3.new w23 (.int .i64 0) .nilFunc .nilFunc 69
    have B24 := B23.alloc (.cells #[.int .i64 0, .nilFunc, .nilFunc] 69)
    have D24 := D23.alloc D23.size (.cells #[.int .i64 0, .nilFunc, .nilFunc] 69)
    obtain ⟨s0, s1, s2, s3, s4, s5, s6, s7⟩ := B24.s
    clear B23 D23
    go_wp2_with (fail)
    rw [← hK] at K24 ⊢
    refine (LayS_zero _ _ _ s _).mono ?_
    rintro e25 w25 ⟨rfl, b25⟩
    have K25 := K24.below b25 K24.lt
    have D25 := D24.trans (b25.mono D24.size)
    clear b25 K24 B24 D24 hK s0 s1 s2 s3 s4 s5 s6 s7 w23
    obtain ⟨k0, k1, k2⟩ := K25
    go_wp2_with (go_at_call 11; refine (num_any _ _).mono ?_; rintro e9 w9 ⟨rfl, h9⟩; subst w9)
    refine (widthS_zero _).mono ?_
    rintro e26 w26 ⟨rfl, b26⟩
    have D26 := D25.trans (b26.mono D25.size)
    clear b26 D25 k0 k1 k2
    go_wp2_with (go_at_call 11; refine (num_any _ _).mono ?_; rintro e9 w9 ⟨rfl, h9⟩; subst w9)
    go_ret
    exact ⟨rfl, D26⟩
end Rt
end Go.Proofs.Ytfgjhljhjclegaa
