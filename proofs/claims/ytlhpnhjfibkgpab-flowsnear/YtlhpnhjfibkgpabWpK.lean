import Derived.Test.YtlhpnhjfibkgpabWpJ2
import Derived.Deep.RegionLaw
namespace Go.Proofs.Ytlhpnhjfibkgpab
namespace Wp
open Go.RowKit
set_option linter.unusedVariables false
set_option maxRecDepth 8000
/-- The states at the start. -/
def S0 (g : Pg) : Nat → Nat → Int := fun v => ct (g.start (v : Int)) g.W
/-- What begin answers. -/
def Bg (g : Pg) (n : Nat) (w : World) (e : Ending) (w' : World) : Prop := ∃ sb cap A, e = .returned (.tuple #[.agg (rc (.slice (some ⟨sb, 0, none⟩) n cap) A (fun _ => 0) 0 0), .bool true]) ∧ w.heap.size ≤ sb ∧ SR w' sb n (S0 g) ∧ Below w.heap.size w w'
theorem Bg.mk {g : Pg} {n : Nat} {w w' : World} {sb cap : Nat} {A : Nat → Int} (h1 : w.heap.size ≤ sb) (h2 : SR w' sb n (S0 g)) (h3 : Below w.heap.size w w') : Bg g n w (.returned (.tuple #[.agg (rc (.slice (some ⟨sb, 0, none⟩) n cap) A (fun _ => 0) 0 0), .bool true])) w' := ⟨sb, cap, A, rfl, h1, h2, h3⟩
abbrev z15 : Array Value := #[.slice none 0 0, .int .u64 0, .int .u64 0, .int .u64 0, .int .u64 0, .int .u64 0, .int .u64 0, .int .u64 0, .int .u64 0, .int .u64 0, .int .u64 0, .int .u64 0, .int .u64 0, .int .i64 0, .int .u64 0]
theorem z15_rc : z15 = rc (.slice none 0 0) (fun _ => 0) (fun _ => 0) 0 0 := rfl
theorem own_succ {w : World} {B : Nat} {t : TypeId} {q n : Nat} {v : Value} {xs : List Value} (h : w.ownsRow B t q v (n + 1) xs) : ∃ g cap, v = .slice (some ⟨g, 0, none⟩) (n + 1) cap := by
  rcases h.2 with ⟨_, h0⟩ | ⟨g, cap, cur, h1, _⟩
  · omega
  · exact ⟨g, cap, h1⟩
theorem own_row {w : World} {B : Nat} {t : TypeId} {q n g : Nat} {v : Value} {xs : List Value} (h : w.ownsRow B t q v n xs) (C : Array Value) (hg : g < B) : (w.setRow g C).ownsRow B t q v n xs := by
  refine ⟨h.1, ?_⟩
  rcases h.2 with h0 | ⟨b, cap, cur, h1, h2, h3, h4⟩
  · exact .inl h0
  · exact .inr ⟨b, cap, cur, h1, h2, (setRow_other _ _ _ _ (by omega)).trans h3, h4⟩
theorem own_below {w w' : World} {B : Nat} {t : TypeId} {q : Nat} {v : Value} {n : Nat} {xs : List Value} (h : w.ownsRow B t q v n xs) (hb : Below w.heap.size w w') : w'.ownsRow B t q v n xs := by
  refine ⟨h.1, ?_⟩
  rcases h.2 with h0 | ⟨g, cap, cur, h1, h2, h3, h4⟩
  · exact .inl h0
  · exact .inr ⟨g, cap, cur, h1, h2, (hb.block g (Array.getElem?_eq_some_iff.1 h3).1).trans h3, h4⟩
set_option maxHeartbeats 4000000 in
theorem begin_any (g : Pg) (fb n m c : Nat) (a : Option Addr) (E : Nat → Int × Int × Int) (h1 : 1 ≤ n) (hn : n ≤ 1000) (hm : m ≤ 140737488351232) (hW : g.W ≤ 8) (w : World) (hO : Ob g fb w.heap.size w) (hE : ERow w a m E) (hI : EIn n m E)
    (hA : ∀ v, v ≤ n → 0 ≤ fs g (S0 g) v 0 ∧ fs g (S0 g) v 0 ≤ 1000000) :
    Calls Try.prog 16 #[.pointer (some ⟨fb, 0, none⟩), .int .u32 (n : Int), .slice a m c] w fun e w' => Bg g n w e w' := by
  have HO := hide hO
  have HA := hide hA
  have HD := hide (degrees_any n m c a E hn hm ((w.alloc (.cells z15 40)).alloc (.cells z15 40)) (hE.on (by repeat first | exact Below.refl _ _ | refine bA ?_ (by first | exact Nat.le_refl _ | (simp only [World.size_alloc]; omega)) _)) hI)
  have HB0 : Hid (Below w.heap.size w ((w.alloc (.cells z15 40)).alloc (.cells z15 40))) := by repeat first | exact Below.refl _ _ | refine bA ?_ (by first | exact Nat.le_refl _ | (simp only [World.size_alloc]; omega)) _
  have h6 : Hid (((w.alloc (.cells z15 40)).alloc (.cells z15 40)).heap[w.heap.size]? = some (.cells z15 40 (0, 0))) := keep _ (at0 _ _)
  have h8 : Hid (((w.alloc (.cells z15 40)).alloc (.cells z15 40)).heap[w.heap.size + 1]? = some (.cells z15 40 (0, 0))) := by
    have := at0 (w.alloc (.cells z15 40)) (.cells z15 40)
    rw [World.size_alloc] at this; exact this
  clear hO hA hE hI
  go_enter Try.func16, Try.ntmps16
  go_wp2_with (fail)
  refine HD.out.mono ?_
  rintro e1 w1 ⟨rfl, hD1, hB1⟩
  have HD1 := hide hD1
  have HB1 := hide hB1
  clear hD1 hB1 HD
  have hz2 : ((w.alloc (.cells z15 40)).alloc (.cells z15 40)).heap.size = w.heap.size + 2 := by simp only [World.size_alloc]
  rw [hz2] at HD1
  rw [hz2]
  have HW6 : Hid (w1.heap[w.heap.size]? = some (.cells z15 40 (0, 0))) := (HB1.out.block _ (by rw [hz2]; omega)).trans h6.out
  have HR1 : Hid (Rn w1 (w.heap.size + 1) (.slice none 0 0) (fun _ => 0) (fun _ => 0) 0 0) := (HB1.out.block _ (by rw [hz2]; omega)).trans h8.out
  have HBw : Hid (Below w.heap.size w w1) := HB0.out.trans (HB1.out.mono HB0.out.size)
  have HZ1 : Hid (w.heap.size + 2 < w1.heap.size) := HD1.out.lt
  clear hz2 HB1 h6 h8 HB0
  go_wp2_with (fail)
  go_loopw [10] (fun v wr => ∃ (j : Nat) (st : Value), j ≤ n ∧ v = .int .u32 j ∧ Hid (Rn wr (w.heap.size + 1) st (fun _ => 0) (fun _ => 0) 0 0) ∧ Hid (wr.heap[w.heap.size]? = some (.cells z15 40 (0, 0))) ∧ Hid (DR wr (w.heap.size + 2) n) ∧ Hid (wr.ownsRow w1.heap.size 36 8 st j (cs (S0 g) j)) ∧ Hid (Below w.heap.size w wr) ∧ Hid (w1.heap.size ≤ wr.heap.size)) (fun v _ => n - (intOf v).toNat)
  case atStart => exact ⟨0, _, Nat.zero_le _, rfl, HR1, HW6, HD1, World.ownsRow_nil _ _ _ _, HBw, Nat.le_refl _⟩
  case round =>
    clear HW6 HR1 HBw HD1
    obtain ⟨j, st, hj, rfl, HR, H6, HDr, HOw, HB, HZ⟩ := hrel
    by_cases cc : j < n
    · obtain ⟨d1, hd1⟩ := HDr.out.cell (j * 2) (by omega)
      obtain ⟨d2, hd2⟩ := HDr.out.cell (j * 2 + 1) (by omega)
      have HOj := hide (HO.out.on HB.out)
      have HC := hide cc
      have HJ := hide hj
      have HSt := hide (HOj.out.start (j : Int) d1 d2 (by omega) (by omega) wr (Below.refl _ _))
      clear hj
      go_wp2_with (fail)
      refine HSt.out.mono ?_
      rintro e2 w2 ⟨rfl, hB2⟩
      have HB2 := hide hB2
      clear hB2 HSt hd1 hd2
      go_wp2_with (fail)
      refine (num_any _ _).mono ?_
      rintro e3 w3 ⟨rfl, hw3⟩
      subst w3
      go_wp2_with (fail)
      obtain ⟨s, hs⟩ : ∃ s, g.start (j : Int) = s := ⟨_, rfl⟩
      rw [hs]
      have HSe : Hid (S0 g j = ct s g.W) := by show _ = _; unfold S0; rw [hs]
      clear hs
      have HBx : Hid ((w2.alloc (.cells (sv s) 36)).heap[w2.heap.size]? = some (.cells (sv s) 36 (0, 0))) := at0 _ _
      have HB3 : Hid (Below wr.heap.size wr (w2.alloc (.cells (sv s) 36))) := bA HB2.out HB2.out.size _
      have HBz : Hid (w2.heap.size < (w2.alloc (.cells (sv s) 36)).heap.size) := by show _ < _; simp
      have HBy : Hid (wr.heap.size ≤ w2.heap.size) := HB2.out.size
      generalize w2.alloc (.cells (sv s) 36) = w3 at *
      generalize w2.heap.size = bx at *
      have HR3 : Hid (Rn w3.drew (w.heap.size + 1) st (fun _ => 0) (fun _ => 0) 0 0) := HR.out.on (belowD HB3.out)
      have HB3w : Hid (Below w.heap.size w w3.drew) := belowD (HB.out.trans (HB3.out.mono HB.out.size))
      have HO3 : Hid (w3.drew.ownsRow w1.heap.size 36 8 st j (cs (S0 g) j)) := own_below HOw.out (belowD HB3.out)
      have HZ3 : Hid (w1.heap.size ≤ w3.heap.size) := Nat.le_trans HZ.out HB3.out.size
      have hc3 := HR3.out.kr.1
      have hk3 : K8 bx s w3.drew := k8 HBx.out
      have HBx3 : Hid (w3.drew.heap[bx]? = some (.cells (sv s) 36 (0, 0))) := HBx.out
      have HNE : Hid (some (w.heap.size + 1) ≠ st.ownBlock) := fun e => by have := (World.ownsRow.lt HO3.out _ e.symm).1; have := HZ1.out; omega
      clear HBx HOw HB2 HR HOj
      go_region_law ((first
        | (refine step_append8 tp8 (by rfl) _ _ (by rfl) w1.heap.size st _ j 1 (cs (S0 g) j) (sv (ct s g.W)).toList (by rfl) (HO5.out.alloc _) (by rfl) (src_new8 _ _ _ _) (by omega) (by rw [World.size_alloc]; exact Nat.le_succ_of_le hZ5.out) ?_; intro v7 w7 hown7 hgr7 hat7; obtain ⟨g7, c7, hv7⟩ := own_succ hown7; subst hv7; have HR7 := hide (HR6.out.of (hgr7.block _ HR6.out.lt HNE.out)); have hc7 := HR7.out.kr.1; have hf7 := HR7.out.fz 0)
        | (go_simp; go_at_call 24; refine (HO.out.words _ HB3w.out).mono ?_; rintro e4 w4 ⟨rfl, hw4'⟩; have hw4 := hide hw4'; clear hw4'; have HR4 := hide (HR3.out.on hw4.out); have HBx4 := hide ((hw4.out.block _ HBz.out).trans HBx3.out); have HO4 := hide (own_below HO3.out hw4.out); have hc4 := HR4.out.kr.1; have hk4 := k8 HBx4.out)
        | (go_simp; go_at_call 28; refine (cut_any s g.W hW _).mono ?_; rintro e5 w5 ⟨rfl, hw5'⟩; have hw5 := hide hw5'; clear hw5'; have HR5 := hide (HR4.out.on hw5.out); have HO5 := hide (own_below HO4.out hw5.out); have hZ5 : Hid (w1.heap.size ≤ w5.heap.size) := Nat.le_trans HZ3.out (Nat.le_trans hw4.out.size hw5.out.size); have hc5 := HR5.out.kr.1; have HR6 := hide (HR5.out.on (b1 w5 36 (sv (ct s g.W)))); have hc6 := HR6.out.kr.1)))
      all_goals
        have HB5 : Hid (Below wr.heap.size wr w5) := (belowD HB3.out).trans ((hw4.out.mono HB3.out.size).trans (hw5.out.mono (Nat.le_trans HB3.out.size hw4.out.size)))
        have HB6 : Hid (Below wr.heap.size wr (w5.alloc (.cells (sv (ct s g.W)) 36))) := bA HB5.out HB5.out.size _
        have HQ7 : Hid (∀ q, q < wr.heap.size → some q ≠ st.ownBlock → w7.heap[q]? = wr.heap[q]?) := fun q hq hn => (hgr7.block q (Nat.lt_of_lt_of_le hq HB6.out.size) hn).trans (HB6.out.block q hq)
        have HB7 : Hid (Below w.heap.size w w7) := (HB.out.trans (HB6.out.mono HB.out.size)).grown hgr7 (Nat.le_trans HB.out.size HB6.out.size) (fun k hk => by have := (World.ownsRow.lt HO3.out k hk).1; have := HZ1.out; omega)
        have HS7 : Hid (w1.heap.size ≤ w7.heap.size) := Nat.le_trans HZ.out (Nat.le_trans HB6.out.size hgr7.size)
        have HN0 : Hid (some w.heap.size ≠ st.ownBlock) := fun e => by have := (World.ownsRow.lt HO3.out _ e.symm).1; have := HZ1.out; omega
        have HN2 : Hid (some (w.heap.size + 2) ≠ st.ownBlock) := fun e => by have := (World.ownsRow.lt HO3.out _ e.symm).1; have := HZ1.out; omega
        have H67 := hide ((HQ7.out _ (Nat.lt_of_lt_of_le (Nat.lt_of_le_of_lt (Nat.le_add_right _ 2) HZ1.out) HZ.out) HN0.out).trans H6.out)
        have HD7 := hide (HDr.out.of (HQ7.out _ HDr.out.lt HN2.out))
        have HO7 : Hid (w7.ownsRow w1.heap.size 36 8 (.slice (some ⟨g7, 0, none⟩) (j + 1) c7) (j + 1) (cs (S0 g) (j + 1))) := by
          show World.ownsRow _ _ _ _ _ _ _
          rw [show cs (S0 g) (j + 1) = cs (S0 g) j ++ (sv (S0 g j)).toList from rfl, HSe.out]
          exact hown7
        have E7 : w7.setCell ⟨w.heap.size + 1, 0, none⟩ (.slice (some ⟨g7, 0, none⟩) (j + 1) c7) = w7.setRow (w.heap.size + 1) (rc (.slice (some ⟨g7, 0, none⟩) (j + 1) c7) (fun _ => 0) (fun _ => 0) 0 0) := by
          rw [setCell_eq_setRow _ (w.heap.size + 1) 0 _ 40 (0, 0) _ HR7.out]
          rfl
        rw [E7]
        clear hgr7 hat7 hown7 E7 hc7 hf7 hc6 hc5 hc4 hk4 hc3 hk3
        go_wp2
        exact ⟨⟨j + 1, _, HC.out, by go_num, HR7.out.row _ _ _ _ _, (setRow_other _ _ _ _ (by omega)).trans H67.out, HD7.out.of (setRow_other _ _ _ _ (by omega)), own_row HO7.out _ (by have := HZ1.out; omega), below_setRow HB7.out (by omega) _, by show _ ≤ _; simp; exact HS7.out⟩, by simp [intOf]; have := HC.out; omega⟩
    · have hjn : j = n := by omega
      subst hjn
      obtain ⟨sb, cap, rfl, hsb, hSR⟩ := own_sr HOw.out h1
      have HSR := hide hSR
      have HSB := hide hsb
      have HOj := hide (HO.out.on HB.out)
      have HRz := hide HR.out
      have HZ8 : Hid (w.heap.size + 1 < wr.heap.size) := HR.out.lt
      have HF := hide (fold_any g fb w.heap.size (w.heap.size + 1) sb j cap (fun _ => 0) (fun _ => 0) 0 0 (S0 g) (by omega) wr.drew (HOj.out.on (belowD (Below.refl _ _))) (by exact HB.out.size) (by omega) HR.out HSR.out (by have := HZ1.out; omega) HA.out)
      have H6z : Hid (Rn wr.drew w.heap.size (.slice none 0 0) (fun _ => 0) (fun _ => 0) 0 0) := H6.out
      have hka : KA (w.heap.size + 1) (.slice (some ⟨sb, 0, none⟩) j cap) (fun _ => 0) (fun _ => 0) 0 0 wr.drew := Rn.ka HR.out
      have HZw : Hid (w.heap.size < wr.heap.size) := H6z.out.lt
      clear hsb hSR cc hj
      go_wp2_with (fail)
      go_region_with ((first | (go_at_call 29; refine HF.out.mono ?_; rintro e2 w2 ⟨rfl, hR2, hT2⟩; have HR2 := hide hR2; have HT2 := hide hT2; clear hR2 hT2; have H62 := hide (H6z.out.of (HT2.out.block w.heap.size HZw.out (by omega) (by omega))); have hk2 := HR2.out.ka; have hk6 := H62.out.ka; have hf6 := H62.out.f15)))
      · rw [sets15 H62.out rfl]
        have HSb : Hid (w.heap.size + 2 < sb) := Nat.lt_of_lt_of_le HZ1.out HSB.out
        have HS2 : Hid (SR (w2.setRow w.heap.size (rc (.slice (some ⟨sb, 0, none⟩) j cap) (fun _ => 0) (fun _ => 0) 0 0)) sb j (S0 g)) := SR.of (SR.tw (w := wr.drew) HSR.out HT2.out (by have := HSb.out; omega) (by have := HSb.out; omega)) (setRow_other _ _ _ _ (by have := HSb.out; omega))
        have HBf : Hid (Below w.heap.size w (w2.setRow w.heap.size (rc (.slice (some ⟨sb, 0, none⟩) j cap) (fun _ => 0) (fun _ => 0) 0 0))) := below_setRow ((belowD HB.out).trans (HT2.out.below (by omega) (by omega) (Nat.le_of_lt HZw.out))) (Nat.le_refl _) _
        have HRf := hide (setRow_heap w2 w.heap.size _ (rc (.slice (some ⟨sb, 0, none⟩) j cap) (fun _ => 0) (fun _ => 0) 0 0) 40 (0, 0) H62.out)
        clear hka hk2 hk6 hf6
        go_wp2
        refine bodyPost_ret (v := .tuple #[.agg (rc (.slice (some ⟨sb, 0, none⟩) j cap) (fun _ => 0) (fun _ => 0) 0 0), .bool true]) ?_ rfl (Bg.mk (by have := HSb.out; omega) HS2.out HBf.out)
        simp only [results, Try.results16, asAddr]
        simp [run_loadVar_row _ _ 40 40 _ (0, 0) _ HRf.out Try.underlying40 rfl size39]
      · rw [sets15 H62.out rfl]
        have HSb : Hid (w.heap.size + 2 < sb) := Nat.lt_of_lt_of_le HZ1.out HSB.out
        have HS2 : Hid (SR (w2.setRow w.heap.size (rc (.slice (some ⟨sb, 0, none⟩) j cap) (fs g (S0 g) j) (fun _ => 0) 0 0)) sb j (S0 g)) := SR.of (SR.tw (w := wr.drew) HSR.out HT2.out (by have := HSb.out; omega) (by have := HSb.out; omega)) (setRow_other _ _ _ _ (by have := HSb.out; omega))
        have HBf : Hid (Below w.heap.size w (w2.setRow w.heap.size (rc (.slice (some ⟨sb, 0, none⟩) j cap) (fs g (S0 g) j) (fun _ => 0) 0 0))) := below_setRow ((belowD HB.out).trans (HT2.out.below (by omega) (by omega) (Nat.le_of_lt HZw.out))) (Nat.le_refl _) _
        have HRf := hide (setRow_heap w2 w.heap.size _ (rc (.slice (some ⟨sb, 0, none⟩) j cap) (fs g (S0 g) j) (fun _ => 0) 0 0) 40 (0, 0) H62.out)
        clear hka hk2 hk6 hf6
        go_wp2
        refine bodyPost_ret (v := .tuple #[.agg (rc (.slice (some ⟨sb, 0, none⟩) j cap) (fs g (S0 g) j) (fun _ => 0) 0 0), .bool true]) ?_ rfl (Bg.mk (by have := HSb.out; omega) HS2.out HBf.out)
        simp only [results, Try.results16, asAddr, Act.put]
        simp [run_loadVar_row _ _ 40 40 _ (0, 0) _ HRf.out Try.underlying40 rfl size39]
end Wp
end Go.Proofs.Ytlhpnhjfibkgpab
