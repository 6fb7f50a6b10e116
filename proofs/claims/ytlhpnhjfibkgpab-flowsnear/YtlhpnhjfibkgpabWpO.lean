import Derived.Test.YtlhpnhjfibkgpabWpM
import Derived.Test.YtlhpnhjfibkgpabWpK
import Derived.Test.YtlhpnhjfibkgpabWpN
namespace Go.Proofs.Ytlhpnhjfibkgpab
namespace Wp
open Go.RowKit
set_option linter.unusedVariables false
set_option maxRecDepth 8000
/-- Ctl and states behind r rounds. -/
def rn (g : Pg) (E : Nat → Int × Int × Int) (m n : Nat) : Nat → (Nat → Int) × (Nat → Nat → Int)
  | 0 => (fun _ => 0, S0 g)
  | r + 1 => ((g.tu (rn g E m n r).1 (chg g (rn g E m n r).1 (rn g E m n r).2 E m n : Int) ((r : Int) + 1)).1, nx g (rn g E m n r).1 (rn g E m n r).2 E m)
/-- Is the run done behind round r + 1? -/
def dn (g : Pg) (E : Nat → Int × Int × Int) (m n r : Nat) : Bool := (g.tu (rn g E m n r).1 (chg g (rn g E m n r).1 (rn g E m n r).2 E m n : Int) ((r : Int) + 1)).2
/-- What a run asks for: no error, numbers that are not great, an end at round R + 1. -/
structure Fine (g : Pg) (E : Nat → Int × Int × Int) (m n R : Nat) : Prop where
  c : ∀ r, r ≤ R → 0 ≤ (rn g E m n r).1 0 ∧ (rn g E m n r).1 0 ≤ 1000000
  ok : ∀ r, r ≤ R → ∀ i, i < m → g.okS (rn g E m n r).1 ((rn g E m n r).2 (E i).1.toNat) (E i).1 (E i).2.1 (E i).2.2 ∧ g.okS (rn g E m n r).1 ((rn g E m n r).2 (E i).2.1.toNat) (E i).1 (E i).2.1 (E i).2.2
  a : ∀ r, r ≤ R + 1 → ∀ v, v ≤ n → 0 ≤ fs g (rn g E m n r).2 v 0 ∧ fs g (rn g E m n r).2 v 0 ≤ 1000000
  no : ∀ r, r < R → dn g E m n r = false
  yes : dn g E m n R = true
/-- What play answers. -/
def Pl (g : Pg) (E : Nat → Int × Int × Int) (m n R : Nat) (w : World) (e : Ending) (w' : World) : Prop :=
  ∃ sb cap u, e = .returned (.tuple #[.agg (rc (.slice (some ⟨sb, 0, none⟩) n cap) (fs g (rn g E m n (R + 1)).2 n) (rn g E m n (R + 1)).1 ((R : Int) + 1) u), .bool true]) ∧ w.heap.size ≤ sb ∧ SR w' sb n (rn g E m n (R + 1)).2 ∧ Below w.heap.size w w'
theorem Pl.mk {g : Pg} {E : Nat → Int × Int × Int} {m n R sb cap : Nat} {u : Int} {w w' : World} (h1 : w.heap.size ≤ sb) (h2 : SR w' sb n (rn g E m n (R + 1)).2) (h3 : Below w.heap.size w w') : Pl g E m n R w (.returned (.tuple #[.agg (rc (.slice (some ⟨sb, 0, none⟩) n cap) (fs g (rn g E m n (R + 1)).2 n) (rn g E m n (R + 1)).1 ((R : Int) + 1) u), .bool true])) w' := ⟨sb, cap, u, rfl, h1, h2, h3⟩
theorem Ob.mono {g : Pg} {fb B B' : Nat} {w : World} (h : Ob g fb B w) (hB : B ≤ B') : Ob g fb B' w := by
  have hh : ∀ W, Below B' w W → Below B w W := fun W k => k.mono hB
  exact ⟨fun W k => h.words W (hh W k), fun W k => h.both W (hh W k), fun W k => h.sink W (hh W k), fun v a b h0 h1 W k => h.start v a b h0 h1 W (hh W k), fun c s x y z b ok W k => h.scatter c s x y z b ok W (hh W k), fun c a v s h0 h1 W k => h.apply c a v s h0 h1 W (hh W k), fun c a v s h0 h1 h2 h3 W k => h.fold c a v s h0 h1 h2 h3 W (hh W k), fun c a ch r h0 h1 W k => h.turn c a ch r h0 h1 W (hh W k), h.mon⟩
theorem pneq (x : Addr) (W : World) : (binOp .neq 29 (.pointer (some x)) (.pointer none)).run Try.prog W = .ok (.bool true) W := rfl
/-- The loop of play: what lies where. -/
structure L2 (g : Pg) (E : Nat → Int × Int × Int) (m n cap N rb sb r : Nat) (w wr : World) : Prop where
  rr : ∃ A u, Rn wr rb (.slice (some ⟨sb, 0, none⟩) n cap) A (rn g E m n r).1 (r : Int) u ∧ (0 < r → A = fs g (rn g E m n r).2 n)
  ss : SR wr sb n (rn g E m n r).2
  bb : Rn wr N (.slice none 0 0) (fun _ => 0) (fun _ => 0) 0 0
  tt : Below N w wr
set_option maxHeartbeats 4000000 in
theorem play_any (g : Pg) (fb n m c R : Nat) (a : Option Addr) (E : Nat → Int × Int × Int) (most : Int) (h1 : 1 ≤ n) (hn : n ≤ 1000) (hm : m ≤ 140737488351232) (hW : g.W ≤ 8) (hR : R ≤ 5000) (hmo : (R : Int) < most) (w : World)
    (hO : Ob g fb w.heap.size w) (hSa : ∀ W, Below w.heap.size w W → Calls Try.prog 15 #[.pointer (some ⟨fb, 0, none⟩)] W fun e w' => e = .returned (.bool true) ∧ Below W.heap.size W w') (hE : ERow w a m E) (hI : EIn n m E) (hFi : Fine g E m n R) :
    Calls Try.prog 7 #[.pointer (some ⟨fb, 0, none⟩), .int .u32 (n : Int), .slice a m c, .int .i64 most] w fun e w' => Pl g E m n R w e w' := by
  have HO := hide hO
  have HSa := hide hSa
  have HE := hide hE
  have HI := hide hI
  have HF := hide hFi
  have HMo := hide hmo
  have hp := pneq
  have HX : Hid (Below w.heap.size w (w.alloc (.cells z15 40))) := b1 _ _ _
  have HXr : Hid (Rn (w.alloc (.cells z15 40)) w.heap.size (.slice none 0 0) (fun _ => 0) (fun _ => 0) 0 0) := at0 _ _
  clear hO hSa hE hI hFi hmo
  go_enter Try.func7, Try.ntmps7
  go_wp2_with (fail)
  refine (HSa.out _ HX.out).mono ?_
  rintro e1 w1 ⟨rfl, hw1⟩
  have HB1 : Hid (Below w.heap.size w w1) := HX.out.trans (hw1.mono HX.out.size)
  have HN1 : Hid (Rn w1 w.heap.size (.slice none 0 0) (fun _ => 0) (fun _ => 0) 0 0) := HXr.out.on hw1
  clear hw1 hp HX HXr
  have HBg := hide (begin_any g fb n m c a E h1 hn hm hW w1 ((HO.out.on HB1.out).mono HB1.out.size) (HE.out.on HB1.out) HI.out (HF.out.a 0 (Nat.zero_le _)))
  go_wp2_with (fail)
  refine HBg.out.mono ?_
  rintro e2 w2 ⟨sb, cap, A, rfl, hsb, hS2, hB2⟩
  have HSB := hide hsb
  have HS2 := hide hS2
  have HB2 : Hid (Below w.heap.size w w2) := HB1.out.trans (hB2.mono HB1.out.size)
  have HN2 := hide (HN1.out.on hB2)
  have HZ1 := hide HN1.out.lt
  clear hsb hS2 hB2 HBg HN1
  have HY : Hid (Below w2.heap.size w2 (w2.alloc (.cells (rc (.slice (some ⟨sb, 0, none⟩) n cap) A (fun _ => 0) 0 0) 40))) := b1 _ _ _
  have HL0 : Hid (L2 g E m n cap w.heap.size w2.heap.size sb 0 w (w2.alloc (.cells (rc (.slice (some ⟨sb, 0, none⟩) n cap) A (fun _ => 0) 0 0) 40))) := ⟨⟨A, 0, at0 _ _, fun h => absurd h (by decide)⟩, HS2.out.on HY.out, HN2.out.on HY.out, HB2.out.trans (HY.out.mono HB2.out.size)⟩
  have HRb : Hid (w.heap.size < w2.heap.size ∧ sb < w2.heap.size ∧ w.heap.size < sb) := ⟨HN2.out.lt, HS2.out.lt, Nat.lt_of_lt_of_le HZ1.out HSB.out⟩
  go_wp2_with (fail)
  generalize w2.alloc (.cells (rc (.slice (some ⟨sb, 0, none⟩) n cap) A (fun _ => 0) 0 0) 40) = w3 at *
  generalize w2.heap.size = rb at *
  clear HY HS2 HN2 HB2 HSB
  go_loopw [12] (fun ok wr => ∃ r : Nat, r ≤ R ∧ ok = .bool true ∧ Hid (L2 g E m n cap w.heap.size rb sb r w wr)) (fun _ wr => (5001 - (intOf ((wr.cell? ⟨rb, 13, none⟩).getD undef)).toNat))
  case atStart => exact ⟨0, Nat.zero_le _, rfl, HL0⟩
  case round =>
    clear HL0
    obtain ⟨r, hr, rfl, HL⟩ := hrel
    obtain ⟨A1, u1, hRn, hA1⟩ := HL.out.rr
    have HRn := hide hRn
    have hk13 := hRn.k13
    have hlt : ((r : Int) < most) := by have := HMo.out; omega
    have HRr := hide hr
    have HRd := hide (round_any g fb w.heap.size rb sb n cap m c a E A1 (rn g E m n r).1 (r : Int) u1 (rn g E m n r).2 h1 hn hm hW wr (HO.out.on HL.out.tt) HL.out.tt.size (Nat.le_of_lt HRb.out.1) (Nat.le_of_lt HRb.out.2.2) (Nat.ne_of_lt HRb.out.2.1) HRn.out HL.out.ss (fun W hB => HE.out.on (HL.out.tt.trans hB)) HI.out (HF.out.c r hr).1 (HF.out.c r hr).2 (by omega) (by omega) (HF.out.ok r hr) (HF.out.a (r + 1) (by omega)))
    have HDn : Hid (dn g E m n r = (g.tu (rn g E m n r).1 (chg g (rn g E m n r).1 (rn g E m n r).2 E m n : Int) ((r : Int) + 1)).2) := rfl
    have HCn : Hid ((rn g E m n (r + 1)).1 = (g.tu (rn g E m n r).1 (chg g (rn g E m n r).1 (rn g E m n r).2 E m n : Int) ((r : Int) + 1)).1) := rfl
    have HSn : Hid ((rn g E m n (r + 1)).2 = nx g (rn g E m n r).1 (rn g E m n r).2 E m) := rfl
    have HZr : Hid (w.heap.size < wr.heap.size) := HL.out.bb.lt
    clear hRn hA1
    go_wp2_with (fail)
    refine HRd.out.mono ?_
    rintro e4 w4 ⟨u2, rfl, hR4, hS4, hT4⟩
    rw [← HDn.out]
    rw [← HCn.out, ← HSn.out] at hR4
    rw [← HSn.out] at hS4
    have HT4 := hide hT4
    have HR4 := hide hR4
    have HS4 := hide hS4
    have HN4 : Hid (Rn w4 w.heap.size (.slice none 0 0) (fun _ => 0) (fun _ => 0) 0 0) := HL.out.bb.of (hT4.block _ HZr.out (Nat.ne_of_lt HRb.out.1) (Nat.ne_of_lt HRb.out.2.2))
    have HB4 : Hid (Below w.heap.size w w4) := HL.out.tt.trans (hT4.below (Nat.le_of_lt HRb.out.1) (Nat.le_of_lt HRb.out.2.2) (Nat.le_of_lt HZr.out))
    have hk13' := hR4.k13
    clear hR4 hS4 hT4 HRd
    by_cases hrR : r < R
    · have hd := HF.out.no r hrR
      rw [hd]
      have HL4 : Hid (L2 g E m n cap w.heap.size rb sb (r + 1) w w4) := ⟨⟨_, u2, by push_cast; exact HR4.out, fun _ => rfl⟩, HS4.out, HN4.out, HB4.out⟩
      clear hd
      go_wp2
      exact ⟨⟨r + 1, hrR, rfl, HL4⟩, by rw [hk13, hk13']; simp [intOf]; omega⟩
    · have hrR2 : r = R := by omega
      subst hrR2
      have hd := HF.out.yes
      rw [hd]
      have hka := HR4.out.ka
      have hkn := HN4.out.ka
      have hfn := HN4.out.f15
      have HRf := hide (setRow_heap w4 w.heap.size _ (rc (.slice (some ⟨sb, 0, none⟩) n cap) (fs g (rn g E m n (r + 1)).2 n) (rn g E m n (r + 1)).1 ((r : Int) + 1) u2) 40 (0, 0) HN4.out)
      have HSf : Hid (SR (w4.setRow w.heap.size (rc (.slice (some ⟨sb, 0, none⟩) n cap) (fs g (rn g E m n (r + 1)).2 n) (rn g E m n (r + 1)).1 ((r : Int) + 1) u2)) sb n (rn g E m n (r + 1)).2) := HS4.out.of (setRow_other _ _ _ _ (Nat.ne_of_gt HRb.out.2.2))
      have HBf : Hid (Below w.heap.size w (w4.setRow w.heap.size (rc (.slice (some ⟨sb, 0, none⟩) n cap) (fs g (rn g E m n (r + 1)).2 n) (rn g E m n (r + 1)).1 ((r : Int) + 1) u2))) := below_setRow HB4.out (Nat.le_refl _) _
      clear hd hk13 hk13' hrR
      go_wp2_with (fail)
      rw [sets15 HN4.out rfl]
      refine bodyPost_ret (v := .tuple #[.agg (rc (.slice (some ⟨sb, 0, none⟩) n cap) (fs g (rn g E m n (r + 1)).2 n) (rn g E m n (r + 1)).1 ((r : Int) + 1) u2), .bool true]) ?_ rfl (Pl.mk (Nat.le_of_lt HRb.out.2.2) HSf.out HBf.out)
      simp only [results, Try.results7, asAddr]
      simp [run_loadVar_row _ _ 40 40 _ (0, 0) _ HRf.out Try.underlying40 rfl size39]
end Wp
end Go.Proofs.Ytlhpnhjfibkgpab
