import Derived.Test.YtlhpnhjfibkgpabWpL
namespace Go.Proofs.Ytlhpnhjfibkgpab
namespace Wp
open Go.RowKit
set_option linter.unusedVariables false
set_option maxRecDepth 8000
/-- The states behind a round. -/
def nx (g : Pg) (C : Nat → Int) (S : Nat → Nat → Int) (E : Nat → Int × Int × Int) (m : Nat) : Nat → Nat → Int := fun v => ct (g.ap C (eds g C S E m v)).1 g.W
/-- How many of the first v have changed. -/
def chg (g : Pg) (C : Nat → Int) (S : Nat → Nat → Int) (E : Nat → Int × Int × Int) (m : Nat) : Nat → Nat
  | 0 => 0
  | v + 1 => chg g C S E m v + if (g.ap C (eds g C S E m v)).2 = true then 1 else 0
/-- What a round answers. -/
def Rd (g : Pg) (rb sb n cap m : Nat) (E : Nat → Int × Int × Int) (C : Nat → Int) (k : Int) (S : Nat → Nat → Int) (w : World) (e : Ending) (w' : World) : Prop :=
  ∃ u', e = .returned (.tuple #[.bool (g.tu C (chg g C S E m n : Int) (k + 1)).2, .bool true]) ∧ Rn w' rb (.slice (some ⟨sb, 0, none⟩) n cap) (fs g (nx g C S E m) n) (g.tu C (chg g C S E m n : Int) (k + 1)).1 (k + 1) u' ∧ SR w' sb n (nx g C S E m) ∧ Tw rb sb w w'
abbrev Ssc (rb sb bx o : Nat) (st : Value) (A C s : Nat → Int) (x y z : Int) (w : World) : Prop := KR rb st A C w ∧ K8o sb o s w ∧ K3 bx x y z w
/-- The loop over the edges: what lies where. -/
structure L1 (g : Pg) (rb sb nb n cap : Nat) (A C : Nat → Int) (k : Int) (S N : Nat → Nat → Int) (w wr : World) : Prop where
  r : ∃ u, Rn wr rb (.slice (some ⟨sb, 0, none⟩) n cap) A C k u
  s : SR wr sb n S
  n : SR wr nb n N
  t : Tw rb nb w wr
theorem L1.on {g : Pg} {rb sb nb n cap : Nat} {A C : Nat → Int} {k : Int} {S N : Nat → Nat → Int} {w wr w' : World} (h : L1 g rb sb nb n cap A C k S N w wr) (hb : Below wr.heap.size wr w') : L1 g rb sb nb n cap A C k S N w w' := by
  obtain ⟨⟨u, hu⟩, h2, h3, h4⟩ := h
  exact ⟨⟨u, hu.on hb⟩, h2.on hb, h3.on hb, h4.trans (Tw.of hb)⟩
theorem chg_le (g : Pg) (C : Nat → Int) (S : Nat → Nat → Int) (E : Nat → Int × Int × Int) (m v : Nat) : chg g C S E m v ≤ v := by
  induction v with
  | zero => exact Nat.le_refl _
  | succ v ih => simp only [chg]; split <;> omega
theorem upto_succ {F S : Nat → Nat → Int} {j : Nat} {s : Nat → Int} (h : F j = s) : ups (fun v => if v < j then F v else S v) j s = fun v => if v < j + 1 then F v else S v := by
  funext v
  unfold ups
  by_cases e : v = j
  · subst e; rw [if_pos rfl, if_pos (by omega), h]
  · rw [if_neg e]
    show (if v < j then F v else S v) = _
    by_cases h2 : v < j
    · rw [if_pos h2, if_pos (by omega)]
    · rw [if_neg h2, if_neg (by omega)]
abbrev Sb (rb bx : Nat) (st : Value) (s : Nat → Int) (w : World) : Prop := w.cell? ⟨rb, 0, none⟩ = some st ∧ K8 bx s w
theorem setC {w : World} {b : Nat} {st : Value} {A C : Nat → Int} {k u : Int} (h : Rn w b st A C k u) (D : Nat → Int) :
    ((((w.setCell ⟨b, 9, none⟩ (.int .u64 (D 0))).setCell ⟨b, 10, none⟩ (.int .u64 (D 1))).setCell ⟨b, 11, none⟩ (.int .u64 (D 2))).setCell ⟨b, 12, none⟩ (.int .u64 (D 3))) = w.setRow b (rc st A D k u) := by
  have hg : w.heap[b]? = some (.cells #[st, .int .u64 (A 0), .int .u64 (A 1), .int .u64 (A 2), .int .u64 (A 3), .int .u64 (A 4), .int .u64 (A 5), .int .u64 (A 6), .int .u64 (A 7), .int .u64 (C 0), .int .u64 (C 1), .int .u64 (C 2), .int .u64 (C 3), .int .i64 k, .int .u64 u] 40 (0, 0)) := h
  rw [setCell_eq_setRow w b 9 #[st, .int .u64 (A 0), .int .u64 (A 1), .int .u64 (A 2), .int .u64 (A 3), .int .u64 (A 4), .int .u64 (A 5), .int .u64 (A 6), .int .u64 (A 7), .int .u64 (C 0), .int .u64 (C 1), .int .u64 (C 2), .int .u64 (C 3), .int .i64 k, .int .u64 u] 40 (0, 0) _ hg]
  rw [show (#[st, .int .u64 (A 0), .int .u64 (A 1), .int .u64 (A 2), .int .u64 (A 3), .int .u64 (A 4), .int .u64 (A 5), .int .u64 (A 6), .int .u64 (A 7), .int .u64 (C 0), .int .u64 (C 1), .int .u64 (C 2), .int .u64 (C 3), .int .i64 k, .int .u64 u] : Array Value).setIfInBounds 9 (.int .u64 (D 0)) = #[st, .int .u64 (A 0), .int .u64 (A 1), .int .u64 (A 2), .int .u64 (A 3), .int .u64 (A 4), .int .u64 (A 5), .int .u64 (A 6), .int .u64 (A 7), .int .u64 (D 0), .int .u64 (C 1), .int .u64 (C 2), .int .u64 (C 3), .int .i64 k, .int .u64 u] from rfl]
  have q1 := setRow_heap w b _ #[st, .int .u64 (A 0), .int .u64 (A 1), .int .u64 (A 2), .int .u64 (A 3), .int .u64 (A 4), .int .u64 (A 5), .int .u64 (A 6), .int .u64 (A 7), .int .u64 (D 0), .int .u64 (C 1), .int .u64 (C 2), .int .u64 (C 3), .int .i64 k, .int .u64 u] 40 (0, 0) hg
  rw [setCell_eq_setRow _ b 10 #[st, .int .u64 (A 0), .int .u64 (A 1), .int .u64 (A 2), .int .u64 (A 3), .int .u64 (A 4), .int .u64 (A 5), .int .u64 (A 6), .int .u64 (A 7), .int .u64 (D 0), .int .u64 (C 1), .int .u64 (C 2), .int .u64 (C 3), .int .i64 k, .int .u64 u] 40 (0, 0) _ q1]
  rw [show (#[st, .int .u64 (A 0), .int .u64 (A 1), .int .u64 (A 2), .int .u64 (A 3), .int .u64 (A 4), .int .u64 (A 5), .int .u64 (A 6), .int .u64 (A 7), .int .u64 (D 0), .int .u64 (C 1), .int .u64 (C 2), .int .u64 (C 3), .int .i64 k, .int .u64 u] : Array Value).setIfInBounds 10 (.int .u64 (D 1)) = #[st, .int .u64 (A 0), .int .u64 (A 1), .int .u64 (A 2), .int .u64 (A 3), .int .u64 (A 4), .int .u64 (A 5), .int .u64 (A 6), .int .u64 (A 7), .int .u64 (D 0), .int .u64 (D 1), .int .u64 (C 2), .int .u64 (C 3), .int .i64 k, .int .u64 u] from rfl]
  rw [setRow_setRow]
  have q2 := setRow_heap w b _ #[st, .int .u64 (A 0), .int .u64 (A 1), .int .u64 (A 2), .int .u64 (A 3), .int .u64 (A 4), .int .u64 (A 5), .int .u64 (A 6), .int .u64 (A 7), .int .u64 (D 0), .int .u64 (D 1), .int .u64 (C 2), .int .u64 (C 3), .int .i64 k, .int .u64 u] 40 (0, 0) hg
  rw [setCell_eq_setRow _ b 11 #[st, .int .u64 (A 0), .int .u64 (A 1), .int .u64 (A 2), .int .u64 (A 3), .int .u64 (A 4), .int .u64 (A 5), .int .u64 (A 6), .int .u64 (A 7), .int .u64 (D 0), .int .u64 (D 1), .int .u64 (C 2), .int .u64 (C 3), .int .i64 k, .int .u64 u] 40 (0, 0) _ q2]
  rw [show (#[st, .int .u64 (A 0), .int .u64 (A 1), .int .u64 (A 2), .int .u64 (A 3), .int .u64 (A 4), .int .u64 (A 5), .int .u64 (A 6), .int .u64 (A 7), .int .u64 (D 0), .int .u64 (D 1), .int .u64 (C 2), .int .u64 (C 3), .int .i64 k, .int .u64 u] : Array Value).setIfInBounds 11 (.int .u64 (D 2)) = #[st, .int .u64 (A 0), .int .u64 (A 1), .int .u64 (A 2), .int .u64 (A 3), .int .u64 (A 4), .int .u64 (A 5), .int .u64 (A 6), .int .u64 (A 7), .int .u64 (D 0), .int .u64 (D 1), .int .u64 (D 2), .int .u64 (C 3), .int .i64 k, .int .u64 u] from rfl]
  rw [setRow_setRow]
  have q3 := setRow_heap w b _ #[st, .int .u64 (A 0), .int .u64 (A 1), .int .u64 (A 2), .int .u64 (A 3), .int .u64 (A 4), .int .u64 (A 5), .int .u64 (A 6), .int .u64 (A 7), .int .u64 (D 0), .int .u64 (D 1), .int .u64 (D 2), .int .u64 (C 3), .int .i64 k, .int .u64 u] 40 (0, 0) hg
  rw [setCell_eq_setRow _ b 12 #[st, .int .u64 (A 0), .int .u64 (A 1), .int .u64 (A 2), .int .u64 (A 3), .int .u64 (A 4), .int .u64 (A 5), .int .u64 (A 6), .int .u64 (A 7), .int .u64 (D 0), .int .u64 (D 1), .int .u64 (D 2), .int .u64 (C 3), .int .i64 k, .int .u64 u] 40 (0, 0) _ q3]
  rw [show (#[st, .int .u64 (A 0), .int .u64 (A 1), .int .u64 (A 2), .int .u64 (A 3), .int .u64 (A 4), .int .u64 (A 5), .int .u64 (A 6), .int .u64 (A 7), .int .u64 (D 0), .int .u64 (D 1), .int .u64 (D 2), .int .u64 (C 3), .int .i64 k, .int .u64 u] : Array Value).setIfInBounds 12 (.int .u64 (D 3)) = #[st, .int .u64 (A 0), .int .u64 (A 1), .int .u64 (A 2), .int .u64 (A 3), .int .u64 (A 4), .int .u64 (A 5), .int .u64 (A 6), .int .u64 (A 7), .int .u64 (D 0), .int .u64 (D 1), .int .u64 (D 2), .int .u64 (D 3), .int .i64 k, .int .u64 u] from rfl]
  rw [setRow_setRow]
theorem SR.ext {w : World} {b n : Nat} {S S' : Nat → Nat → Int} (h : SR w b n S) (e : ∀ v, v < n → S v = S' v) : SR w b n S' := by
  obtain ⟨C, h1, h2⟩ := h
  exact ⟨C, h1, fun v hv i hi => by rw [← e v hv]; exact h2 v hv i hi⟩
theorem Rd.mk {g : Pg} {rb sb n cap m : Nat} {E : Nat → Int × Int × Int} {C : Nat → Int} {k u' : Int} {S : Nat → Nat → Int} {w w' : World} (h1 : Rn w' rb (.slice (some ⟨sb, 0, none⟩) n cap) (fs g (nx g C S E m) n) (g.tu C (chg g C S E m n : Int) (k + 1)).1 (k + 1) u') (h2 : SR w' sb n (nx g C S E m)) (h3 : Tw rb sb w w') : Rd g rb sb n cap m E C k S w (.returned (.tuple #[.bool (g.tu C (chg g C S E m n : Int) (k + 1)).2, .bool true])) w' := ⟨u', rfl, h1, h2, h3⟩
abbrev St (rb : Nat) (st : Value) (A C : Nat → Int) (k : Int) (w : World) : Prop := KR rb st A C w ∧ w.cell? ⟨rb, 13, none⟩ = some (.int .i64 k)
theorem Tw.one {a b : Nat} {w w' : World} (h : Tw a a w w') : Tw a b w w' := ⟨h.os, h.tape, h.output, h.size, fun k hk ha _ => h.block k hk ha ha⟩
theorem K3.row {b g : Nat} {x y z : Int} {w : World} (h : K3 b x y z w) (D : Array Value) (hb : b ≠ g) : K3 b x y z (w.setRow g D) :=
  ⟨(cell_setRow_other w g D _ hb).trans h.1, (cell_setRow_other w g D _ hb).trans h.2.1, (cell_setRow_other w g D _ hb).trans h.2.2⟩
theorem ed1_yes {g : Pg} {C : Nat → Int} {S N : Nat → Nat → Int} {x y : Nat} {z : Int} (h : (g.sc C (S x) x y z false).2 = true) : ed1 g C S N ((x : Int), (y : Int), z) = ups N y (g.mo (N y) (g.sc C (S x) x y z false).1) := by simp [ed1, h]
theorem ed1_no {g : Pg} {C : Nat → Int} {S N : Nat → Nat → Int} {x y : Nat} {z : Int} (h : (g.sc C (S x) x y z false).2 = false) : ed1 g C S N ((x : Int), (y : Int), z) = N := by simp [ed1, h]
theorem ed2_yes {g : Pg} {C : Nat → Int} {S N : Nat → Nat → Int} {x y : Nat} {z : Int} (hb : g.both = true) (h : (g.sc C (S y) x y z true).2 = true) : ed2 g C S N ((x : Int), (y : Int), z) = ups N x (g.mo (N x) (g.sc C (S y) x y z true).1) := by simp [ed2, h, hb]
theorem ed2_no {g : Pg} {C : Nat → Int} {S N : Nat → Nat → Int} {x y : Nat} {z : Int} (h : (g.sc C (S y) x y z true).2 = false) : ed2 g C S N ((x : Int), (y : Int), z) = N := by simp [ed2, h]
theorem ed2_un {g : Pg} {C : Nat → Int} {S N : Nat → Nat → Int} {x : Int × Int × Int} (hb : g.both = false) : ed2 g C S N x = N := by simp [ed2, hb]
theorem L1.gather {g : Pg} {rb sb nb n cap to : Nat} {A C : Nat → Int} {k u' : Int} {S N : Nat → Nat → Int} {w w3 w4 : World} {s : Nat → Int} (h : L1 g rb sb nb n cap A C k S N w w3) (hr : Rn w4 rb (.slice (some ⟨sb, 0, none⟩) n cap) A C k u') (hn : SR w4 nb n (ups N to s)) (ht : Tw rb nb w3 w4) (h1 : sb ≠ rb) (h2 : sb ≠ nb) : L1 g rb sb nb n cap A C k S (ups N to s) w w4 :=
  ⟨⟨u', hr⟩, h.s.tw ht h1 h2, hn, h.t.trans ht⟩
set_option maxHeartbeats 4000000 in
theorem round_any (g : Pg) (fb B rb sb n cap m c : Nat) (a : Option Addr) (E : Nat → Int × Int × Int) (A C : Nat → Int) (k u : Int) (S : Nat → Nat → Int) (h1 : 1 ≤ n) (hn : n ≤ 1000) (hm : m ≤ 140737488351232) (hW : g.W ≤ 8) (w : World)
    (hO : Ob g fb B w) (hBw : B ≤ w.heap.size) (hBr : B ≤ rb) (hBs : B ≤ sb) (hne : sb ≠ rb) (hR : Rn w rb (.slice (some ⟨sb, 0, none⟩) n cap) A C k u) (hS : SR w sb n S)
    (hE : ∀ W, Below B w W → ERow W a m E) (hI : EIn n m E) (hC0 : 0 ≤ C 0) (hC1 : C 0 ≤ 1000000) (hk0 : 0 ≤ k) (hk1 : k ≤ 10000)
    (hok : ∀ i, i < m → g.okS C (S (E i).1.toNat) (E i).1 (E i).2.1 (E i).2.2 ∧ g.okS C (S (E i).2.1.toNat) (E i).1 (E i).2.1 (E i).2.2)
    (hA : ∀ v, v ≤ n → 0 ≤ fs g (nx g C S E m) v 0 ∧ fs g (nx g C S E m) v 0 ≤ 1000000) :
    Calls Try.prog 17 #[.pointer (some ⟨rb, 0, none⟩), .pointer (some ⟨fb, 0, none⟩), .slice a m c] w fun e w' => Rd g rb sb n cap m E C k S w e w' := by
  have HO := hide hO
  have HR := hide hR
  have HS := hide hS
  have HE := hide hE
  have HI := hide hI
  have HA := hide hA
  have HNE := hide hne
  have HBw := hide hBw
  have HBr := hide hBr
  have HBs := hide hBs
  have HOK := hide hok
  have HK0 : Hid (0 ≤ k ∧ k ≤ 10000) := ⟨hk0, hk1⟩
  have HC0 : Hid (0 ≤ C 0 ∧ C 0 ≤ 1000000) := ⟨hC0, hC1⟩
  have hkr : KR rb (.slice (some ⟨sb, 0, none⟩) n cap) A C (w.alloc (.cells #[] 36)) := (hR.on (b1 _ _ _)).kr
  have HSrc : Hid (Src (w.alloc (.cells #[] 36)) (.slice (some ⟨sb, 0, none⟩) n cap) n (cs S n)) := (hS.on (b1 _ _ _)).src
  have HRlt := hide hR.lt
  have HSlt := hide hS.lt
  clear hO hR hS hE hI hA hne hBw hBr hBs hok hC0 hC1 hk0 hk1
  go_enter Try.func17, Try.ntmps17
  go_wp2_with (first | (refine wpList_append8 tp8 rfl _ _ rfl w.heap.size _ _ 0 n [] (cs S n) rfl (own0 w _ (Nat.le_refl _)) rfl HSrc.out (by omega) (by simp) ?_; intro v1 w1 hown1 hgr1 hat1) | fail)
  have HB1 := hide (below_grown hgr1)
  rw [List.nil_append, Nat.zero_add] at hown1
  obtain ⟨nb, ncap, hv1, hnb, hN1⟩ := own_sr hown1 h1
  subst hv1
  have HN1 := hide hN1
  have HNB := hide hnb
  have HL0 : Hid (L1 g rb sb nb n cap A C k S (eds g C S E 0) w w1) := ⟨⟨u, HR.out.on HB1.out⟩, HS.out.on HB1.out, HN1.out, Tw.of HB1.out⟩
  clear hown1 hgr1 hat1 hN1 hnb hkr HN1 HSrc
  go_wp2_with (fail)
  go_loopw [9] (fun v wr => ∃ i : Nat, i ≤ m ∧ v = .int .i64 i ∧ Hid (L1 g rb sb nb n cap A C k S (eds g C S E i) w wr)) (fun v _ => m - (intOf v).toNat)
  case atStart => exact ⟨0, Nat.zero_le _, rfl, HL0⟩
  case round =>
    clear HL0
    obtain ⟨i, hi, rfl, HL⟩ := hrel
    by_cases cc : i < m
    · have HTB : Hid (Below B w wr) := HL.out.t.below HBr.out (Nat.le_trans HBw.out HNB.out) HBw.out
      obtain ⟨b, rfl, hb, hc⟩ := HE.out wr HTB.out (by omega)
      obtain ⟨x, y, hx, hy, hxn, hyn⟩ := HI.out i cc
      obtain ⟨z, hz⟩ : ∃ z, (E i).2.2 = z := ⟨_, rfl⟩
      have HEi : Hid (E i = ((x : Int), (y : Int), z)) := by show _ = _; rw [← hx, ← hy, ← hz]
      have hcc := hc i cc
      have hok := HOK.out i cc
      rw [HEi.out] at hcc hok
      have HOKi : Hid (g.okS C (S x) x y z ∧ g.okS C (S y) x y z) := by
        simp only [Int.toNat_natCast] at hok
        exact hok
      obtain ⟨hc1, hc2, hc3⟩ := hcc
      have HX := hide hxn
      have HY := hide hyn
      have HCC := hide cc
      have HII := hide hi
      clear hc hx hy hz hok hi
      have HNs : Hid (sb ≠ nb) := fun e => by have := HSlt.out; have := HNB.out; omega
      have HNr : Hid (rb ≠ nb) := fun e => by have := HRlt.out; have := HNB.out; omega
      obtain ⟨N, hN⟩ : ∃ N, eds g C S E i = N := ⟨_, rfl⟩
      have HEd : Hid (eds g C S E (i + 1) = ed2 g C S (ed1 g C S N ((x : Int), (y : Int), z)) ((x : Int), (y : Int), z)) := by show _ = _; rw [← hN, ← HEi.out]; rfl
      rw [hN] at HL
      clear hN
      have HW2 : Hid (Below wr.heap.size wr (wr.alloc (.cells (ev x y z) 53))) := b1 _ _ _
      have HL2 := hide (HL.out.on HW2.out)
      have HO2 := hide (HO.out.on (HTB.out.trans (HW2.out.mono (Nat.le_trans HBw.out HL.out.t.size))))
      have HB2 : Hid ((wr.alloc (.cells (ev x y z) 53)).heap[wr.heap.size]? = some (.cells (ev x y z) 53 (0, 0))) := at0 _ _
      have HBz2 : Hid (B ≤ (wr.alloc (.cells (ev x y z) 53)).heap.size) := Nat.le_trans HBw.out (Nat.le_trans HL.out.t.size HW2.out.size)
      have HBn : Hid (wr.heap.size ≠ rb ∧ wr.heap.size ≠ nb) := ⟨fun e => by have := HRlt.out; have := HL.out.t.size; omega, fun e => by have := HL.out.n.lt; omega⟩
      go_wp2_with (fail)
      generalize wr.alloc (.cells (ev x y z) 53) = w2 at *
      generalize wr.heap.size = bx at *
      clear hc1 hc2 hc3 hb HTB HW2 HL
      obtain ⟨uuw2, huw2⟩ := HL2.out.r
      have HRw2 := hide huw2
      clear huw2
      have hSw2 : Hid (Ssc rb sb bx (x * 8) (.slice (some ⟨sb, 0, none⟩) n cap) A C (S x) x y z w2.drew) := ⟨HRw2.out.kr, HL2.out.s.k8 x HX.out, k3 HB2.out⟩
      have HZw2 : Hid (rb < w2.heap.size ∧ sb < w2.heap.size ∧ bx < w2.heap.size) := ⟨HRw2.out.lt, HL2.out.s.lt, (Array.getElem?_eq_some_iff.1 HB2.out).1⟩
      have HKw2 : Hid (∀ W, Below w2.heap.size w2 W → Ssc rb sb bx (x * 8) (.slice (some ⟨sb, 0, none⟩) n cap) A C (S x) x y z W) := fun W hB => ⟨KR.on HRw2.out.kr hB HZw2.out.1, K8o.on (HL2.out.s.k8 x HX.out) hB HZw2.out.2.1, K3.on (k3 HB2.out) hB HZw2.out.2.2⟩
      have HScw2 := hide (HO2.out.scatter C (S x) x y z false HOKi.out.1 w2.drew (belowD (Below.refl _ _)))
      clear hxn hyn cc
      have hxn := HX.out
      have hyn := HY.out
      go_region_held3 (Ssc rb sb bx (x * 8) (.slice (some ⟨sb, 0, none⟩) n cap) A C (S x) x y z) ((first | with_reducible exact hSw2.out | with_reducible exact HKw2.out _ hw3.out)) ((first | (go_at_call 30; refine HScw2.out.mono ?_; rintro e3 w3 ⟨rfl, hw3'⟩; have hw3 : Hid (Below w2.heap.size w2 w3) := ⟨hw3'.os, hw3'.tape, hw3'.output, hw3'.size, hw3'.block⟩; clear hw3')))
      clear hSw2 HZw2 HKw2 HScw2
      have HL3 := hide (HL2.out.on hw3.out)
      have HO3 := hide (HO2.out.on (hw3.out.mono HBz2.out))
      have HBz3 : Hid (B ≤ w3.heap.size) := Nat.le_trans HBz2.out hw3.out.size
      have HB3 := hide ((hw3.out.block bx (Array.getElem?_eq_some_iff.1 HB2.out).1).trans HB2.out)
      go_wp2_with (fail)
      refine (num_any _ _).mono ?_
      rintro e4 w4' ⟨rfl, hw4'⟩
      subst w4'
      obtain ⟨a1, ha1⟩ : ∃ a1, (g.sc C (S x) x y z false).1 = a1 := ⟨_, rfl⟩
      rw [ha1]
      have HA1 := hide ha1
      clear ha1
      cases hs1 : (g.sc C (S x) x y z false).2
      · have HS1 := hide hs1
        clear hs1
        have HBo := hide (HO3.out.both w3 (Below.refl _ _))
        go_wp2_with (fail)
        refine HBo.out.mono ?_
        rintro e6 w5 ⟨rfl, hw5'⟩
        have hw5 := hide hw5'
        clear hw5' HBo
        have HL5 := hide (HL3.out.on hw5.out)
        have HO5 := hide (HO3.out.on (hw5.out.mono HBz3.out))
        have HBz5 : Hid (B ≤ w5.heap.size) := Nat.le_trans HBz3.out hw5.out.size
        have HB5 := hide ((hw5.out.block bx (Array.getElem?_eq_some_iff.1 HB3.out).1).trans HB3.out)
        cases hbo : g.both
        · have HBO := hide hbo
          clear hbo
          have cc := HCC.out
          go_wp2
          all_goals (refine ⟨⟨i + 1, HCC.out, by go_num, ?_⟩, by simp [intOf]; have := HCC.out; omega⟩)
          all_goals (rw [HEd.out, ed1_no HS1.out, ed2_un HBO.out]; exact HL5)
        · have HBO := hide hbo
          clear hbo
          obtain ⟨uuw5, huw5⟩ := HL5.out.r
          have HRw5 := hide huw5
          clear huw5
          have hSw5 : Hid (Ssc rb sb bx (y * 8) (.slice (some ⟨sb, 0, none⟩) n cap) A C (S y) x y z w5.drew) := ⟨HRw5.out.kr, HL5.out.s.k8 y HY.out, k3 HB5.out⟩
          have HZw5 : Hid (rb < w5.heap.size ∧ sb < w5.heap.size ∧ bx < w5.heap.size) := ⟨HRw5.out.lt, HL5.out.s.lt, (Array.getElem?_eq_some_iff.1 HB5.out).1⟩
          have HKw5 : Hid (∀ W, Below w5.heap.size w5 W → Ssc rb sb bx (y * 8) (.slice (some ⟨sb, 0, none⟩) n cap) A C (S y) x y z W) := fun W hB => ⟨KR.on HRw5.out.kr hB HZw5.out.1, K8o.on (HL5.out.s.k8 y HY.out) hB HZw5.out.2.1, K3.on (k3 HB5.out) hB HZw5.out.2.2⟩
          have HScw5 := hide (HO5.out.scatter C (S y) x y z true HOKi.out.2 w5.drew (belowD (Below.refl _ _)))
          go_wp2_with (fail)
          go_region_held3 (Ssc rb sb bx (y * 8) (.slice (some ⟨sb, 0, none⟩) n cap) A C (S y) x y z) ((first | with_reducible exact hSw5.out | with_reducible exact HKw5.out _ hw6.out)) ((first | (go_at_call 30; refine HScw5.out.mono ?_; rintro e3 w6 ⟨rfl, hw6'⟩; have hw6 : Hid (Below w5.heap.size w5 w6) := ⟨hw6'.os, hw6'.tape, hw6'.output, hw6'.size, hw6'.block⟩; clear hw6')))
          clear hSw5 HZw5 HKw5 HScw5
          have HL6 := hide (HL5.out.on hw6.out)
          have HO6 := hide (HO5.out.on (hw6.out.mono HBz5.out))
          have HBz6 : Hid (B ≤ w6.heap.size) := Nat.le_trans HBz5.out hw6.out.size
          have HB6 := hide ((hw6.out.block bx (Array.getElem?_eq_some_iff.1 HB5.out).1).trans HB5.out)
          go_wp2_with (fail)
          refine (num_any _ _).mono ?_
          rintro e4 w4' ⟨rfl, hw4'⟩
          subst w4'
          obtain ⟨a2, ha2⟩ : ∃ a2, (g.sc C (S y) x y z true).1 = a2 := ⟨_, rfl⟩
          rw [ha2]
          have HA2 := hide ha2
          clear ha2
          cases hs2 : (g.sc C (S y) x y z true).2
          · have HS2 := hide hs2
            clear hs2
            have cc := HCC.out
            go_wp2
            all_goals (refine ⟨⟨i + 1, HCC.out, by go_num, ?_⟩, by simp [intOf]; have := HCC.out; omega⟩)
            all_goals (rw [HEd.out, ed1_no HS1.out, ed2_no HS2.out]; exact HL6)
          · have HS2 := hide hs2
            clear hs2
            obtain ⟨uuw6, huw6⟩ := HL6.out.r
            have HG := hide (gather_any g fb B rb nb n ncap x (.slice (some ⟨sb, 0, none⟩) n cap) A C k uuw6 a2 N HX.out hn w6 HO6.out huw6 HL6.out.n HNr.out)
            have hbx := k3 HB6.out
            clear huw6
            go_wp2_with (fail)
            refine HG.out.mono ?_
            rintro e5 w7 ⟨rfl, ⟨uq, hRq⟩, hNq, hTq⟩
            have HTw7 := hide hTq
            have HL7 := hide (HL6.out.gather hRq hNq hTq HNE.out HNs.out)
            have HO7 := hide (HO6.out.on (hTq.below HBr.out (Nat.le_trans HBw.out HNB.out) HBz6.out))
            have HBz7 : Hid (B ≤ w7.heap.size) := Nat.le_trans HBz6.out hTq.size
            have HB7 := hide ((hTq.block bx (Array.getElem?_eq_some_iff.1 HB6.out).1 HBn.out.1 HBn.out.2).trans HB6.out)
            clear hRq hNq hTq hbx HG
            have cc := HCC.out
            go_wp2
            all_goals (refine ⟨⟨i + 1, HCC.out, by go_num, ?_⟩, by simp [intOf]; have := HCC.out; omega⟩)
            all_goals (rw [HEd.out, ed1_no HS1.out, ed2_yes HBO.out HS2.out, HA2.out]; exact HL7)
      · have HS1 := hide hs1
        clear hs1
        obtain ⟨uuw3, huw3⟩ := HL3.out.r
        have HG := hide (gather_any g fb B rb nb n ncap y (.slice (some ⟨sb, 0, none⟩) n cap) A C k uuw3 a1 N HY.out hn w3 HO3.out huw3 HL3.out.n HNr.out)
        have hbx := k3 HB3.out
        clear huw3
        go_wp2_with (fail)
        refine HG.out.mono ?_
        rintro e5 w4 ⟨rfl, ⟨uq, hRq⟩, hNq, hTq⟩
        have HTw4 := hide hTq
        have HL4 := hide (HL3.out.gather hRq hNq hTq HNE.out HNs.out)
        have HO4 := hide (HO3.out.on (hTq.below HBr.out (Nat.le_trans HBw.out HNB.out) HBz3.out))
        have HBz4 : Hid (B ≤ w4.heap.size) := Nat.le_trans HBz3.out hTq.size
        have HB4 := hide ((hTq.block bx (Array.getElem?_eq_some_iff.1 HB3.out).1 HBn.out.1 HBn.out.2).trans HB3.out)
        clear hRq hNq hTq hbx HG
        have HBo := hide (HO4.out.both w4 (Below.refl _ _))
        go_wp2_with (fail)
        refine HBo.out.mono ?_
        rintro e6 w5 ⟨rfl, hw5'⟩
        have hw5 := hide hw5'
        clear hw5' HBo
        have HL5 := hide (HL4.out.on hw5.out)
        have HO5 := hide (HO4.out.on (hw5.out.mono HBz4.out))
        have HBz5 : Hid (B ≤ w5.heap.size) := Nat.le_trans HBz4.out hw5.out.size
        have HB5 := hide ((hw5.out.block bx (Array.getElem?_eq_some_iff.1 HB4.out).1).trans HB4.out)
        cases hbo : g.both
        · have HBO := hide hbo
          clear hbo
          have cc := HCC.out
          go_wp2
          all_goals (refine ⟨⟨i + 1, HCC.out, by go_num, ?_⟩, by simp [intOf]; have := HCC.out; omega⟩)
          all_goals (rw [HEd.out, ed1_yes HS1.out, HA1.out, ed2_un HBO.out]; exact HL5)
        · have HBO := hide hbo
          clear hbo
          obtain ⟨uuw5, huw5⟩ := HL5.out.r
          have HRw5 := hide huw5
          clear huw5
          have hSw5 : Hid (Ssc rb sb bx (y * 8) (.slice (some ⟨sb, 0, none⟩) n cap) A C (S y) x y z w5.drew) := ⟨HRw5.out.kr, HL5.out.s.k8 y HY.out, k3 HB5.out⟩
          have HZw5 : Hid (rb < w5.heap.size ∧ sb < w5.heap.size ∧ bx < w5.heap.size) := ⟨HRw5.out.lt, HL5.out.s.lt, (Array.getElem?_eq_some_iff.1 HB5.out).1⟩
          have HKw5 : Hid (∀ W, Below w5.heap.size w5 W → Ssc rb sb bx (y * 8) (.slice (some ⟨sb, 0, none⟩) n cap) A C (S y) x y z W) := fun W hB => ⟨KR.on HRw5.out.kr hB HZw5.out.1, K8o.on (HL5.out.s.k8 y HY.out) hB HZw5.out.2.1, K3.on (k3 HB5.out) hB HZw5.out.2.2⟩
          have HScw5 := hide (HO5.out.scatter C (S y) x y z true HOKi.out.2 w5.drew (belowD (Below.refl _ _)))
          go_wp2_with (fail)
          go_region_held3 (Ssc rb sb bx (y * 8) (.slice (some ⟨sb, 0, none⟩) n cap) A C (S y) x y z) ((first | with_reducible exact hSw5.out | with_reducible exact HKw5.out _ hw6.out)) ((first | (go_at_call 30; refine HScw5.out.mono ?_; rintro e3 w6 ⟨rfl, hw6'⟩; have hw6 : Hid (Below w5.heap.size w5 w6) := ⟨hw6'.os, hw6'.tape, hw6'.output, hw6'.size, hw6'.block⟩; clear hw6')))
          clear hSw5 HZw5 HKw5 HScw5
          have HL6 := hide (HL5.out.on hw6.out)
          have HO6 := hide (HO5.out.on (hw6.out.mono HBz5.out))
          have HBz6 : Hid (B ≤ w6.heap.size) := Nat.le_trans HBz5.out hw6.out.size
          have HB6 := hide ((hw6.out.block bx (Array.getElem?_eq_some_iff.1 HB5.out).1).trans HB5.out)
          go_wp2_with (fail)
          refine (num_any _ _).mono ?_
          rintro e4 w4' ⟨rfl, hw4'⟩
          subst w4'
          obtain ⟨a2, ha2⟩ : ∃ a2, (g.sc C (S y) x y z true).1 = a2 := ⟨_, rfl⟩
          rw [ha2]
          have HA2 := hide ha2
          clear ha2
          cases hs2 : (g.sc C (S y) x y z true).2
          · have HS2 := hide hs2
            clear hs2
            have cc := HCC.out
            go_wp2
            all_goals (refine ⟨⟨i + 1, HCC.out, by go_num, ?_⟩, by simp [intOf]; have := HCC.out; omega⟩)
            all_goals (rw [HEd.out, ed1_yes HS1.out, HA1.out, ed2_no HS2.out]; exact HL6)
          · have HS2 := hide hs2
            clear hs2
            obtain ⟨uuw6, huw6⟩ := HL6.out.r
            have HG := hide (gather_any g fb B rb nb n ncap x (.slice (some ⟨sb, 0, none⟩) n cap) A C k uuw6 a2 (ups N y (g.mo (N y) a1)) HX.out hn w6 HO6.out huw6 HL6.out.n HNr.out)
            have hbx := k3 HB6.out
            clear huw6
            go_wp2_with (fail)
            refine HG.out.mono ?_
            rintro e5 w7 ⟨rfl, ⟨uq, hRq⟩, hNq, hTq⟩
            have HTw7 := hide hTq
            have HL7 := hide (HL6.out.gather hRq hNq hTq HNE.out HNs.out)
            have HO7 := hide (HO6.out.on (hTq.below HBr.out (Nat.le_trans HBw.out HNB.out) HBz6.out))
            have HBz7 : Hid (B ≤ w7.heap.size) := Nat.le_trans HBz6.out hTq.size
            have HB7 := hide ((hTq.block bx (Array.getElem?_eq_some_iff.1 HB6.out).1 HBn.out.1 HBn.out.2).trans HB6.out)
            clear hRq hNq hTq hbx HG
            have cc := HCC.out
            go_wp2
            all_goals (refine ⟨⟨i + 1, HCC.out, by go_num, ?_⟩, by simp [intOf]; have := HCC.out; omega⟩)
            all_goals (rw [HEd.out, ed1_yes HS1.out, HA1.out, ed2_yes HBO.out HS2.out, HA2.out]; exact HL7)
    · have him : i = m := by omega
      subst him
      clear cc hi
      obtain ⟨N, hN⟩ : ∃ N, eds g C S E i = N := ⟨_, rfl⟩
      rw [hN] at HL
      have HNd := hide hN
      clear hN
      have HNs : Hid (sb ≠ nb) := fun e => by have := HSlt.out; have := HNB.out; omega
      have HNr : Hid (rb ≠ nb) := fun e => by have := HRlt.out; have := HNB.out; omega
      have HTn : Hid (Tw rb nb w wr) := HL.out.t
      have HLn : Hid (SR wr nb n N) := HL.out.n
      obtain ⟨u1, hu1⟩ := HL.out.r
      have HR1 := hide hu1
      have HS1 : Hid (SR wr sb n S) := HL.out.s
      have HT1 : Hid (Tw rb sb w wr) := ⟨HTn.out.os, HTn.out.tape, HTn.out.output, HTn.out.size, fun q hq h2 h3 => HTn.out.block q hq h2 (by have := HNB.out; omega)⟩
      clear hu1 HL
      go_wp2_with (fail)
      go_loopw [15, 16] (fun cv v wx => ∃ j : Nat, j ≤ n ∧ v = .int .i64 j ∧ cv = .int .u64 (chg g C S E i j : Int) ∧ Hid (Rn wx rb (.slice (some ⟨sb, 0, none⟩) n cap) A C k u1) ∧ Hid (SR wx nb n N) ∧ Hid (SR wx sb n (fun v => if v < j then nx g C S E i v else S v)) ∧ Hid (Tw rb sb w wx)) (fun _ v _ => n - (intOf v).toNat)
      case atStart => exact ⟨0, Nat.zero_le _, rfl, rfl, HR1, HLn, by simpa using HS1, HT1⟩
      case round =>
        clear HR1 HLn HS1 HT1
        obtain ⟨j, hj, rfl, rfl, HR2, HN2, HS2, HT2⟩ := hrel
        by_cases cc : j < n
        · have HOj := hide (HO.out.on (HT2.out.below HBr.out HBs.out HBw.out))
          have HAp := hide (HOj.out.apply C A (j : Int) (N j) HC0.out.1 HC0.out.2)
          have HCh : Hid (chg g C S E i (j + 1) = chg g C S E i j + if (g.ap C (N j)).2 = true then 1 else 0) := by show _ = _; rw [← HNd.out]; rfl
          have HNx : Hid (nx g C S E i j = ct (g.ap C (N j)).1 g.W) := by show _ = _; rw [← HNd.out]; rfl
          have hw32 : IntKind.u32.wrap (j : Int) = j := by simp only [IntKind.wrap, IntKind.signed, IntKind.bits]; simp; omega
          have HC := hide cc
          have HJ := hide hj
          have HCb : Hid (chg g C S E i j ≤ j) := chg_le g C S E i j
          clear hj
          have hS0 : Hid (Sfd rb nb (j * 8) (.slice (some ⟨sb, 0, none⟩) n cap) A C (N j) wr.drew) := ⟨HR2.out.kr, HN2.out.k8 j HC.out⟩
          have HZ : Hid (rb < wr.heap.size ∧ nb < wr.heap.size) := ⟨HR2.out.lt, HN2.out.lt⟩
          have HK : Hid (∀ W, Below wr.heap.size wr W → Sfd rb nb (j * 8) (.slice (some ⟨sb, 0, none⟩) n cap) A C (N j) W) := fun W hB => ⟨KR.on HR2.out.kr hB HZ.out.1, K8o.on (HN2.out.k8 j HC.out) hB HZ.out.2⟩
          have HBz : Hid (B ≤ wr.heap.size) := Nat.le_trans HBw.out HT2.out.size
          have HX : Hid (Below wr.heap.size wr (wr.alloc (.cells z8 36)).drew) := by repeat first | exact Below.refl _ _ | refine belowD ?_ | refine belowN ?_ _ | refine bA ?_ (by first | exact Nat.le_refl _ | (simp only [World.size_drew, World.size_alloc]; omega)) _
          have HXd : Hid (Below B wr wr.drew) := belowD (Below.refl _ _)
          have HX0 : Hid ((wr.alloc (.cells z8 36)).drew.heap[wr.heap.size]? = some (.cells z8 36 (0, 0))) := at0 _ _
          have HXz : Hid (wr.heap.size < (wr.alloc (.cells z8 36)).drew.heap.size) := by show _ < _; simp only [World.size_drew, World.size_alloc]; omega
          have HXr : Hid (∀ W C', Sfd rb nb (j * 8) (.slice (some ⟨sb, 0, none⟩) n cap) A C (N j) W → Sfd rb nb (j * 8) (.slice (some ⟨sb, 0, none⟩) n cap) A C (N j) (W.setRow wr.heap.size C')) := fun W C' h => ⟨KR.row h.1 C' (Nat.ne_of_lt HZ.out.1), K8o.row h.2 C' (Nat.ne_of_lt HZ.out.2)⟩
          go_wp2_with (fail)
          go_region_held3 (Sfd rb nb (j * 8) (.slice (some ⟨sb, 0, none⟩) n cap) A C (N j)) ((first | with_reducible exact hS0.out | with_reducible exact HK.out _ HX.out | with_reducible exact HK.out _ hw1.out | with_reducible exact HK.out _ (bA hw1.out hw1z.out _) | (rw [sets8 HQ.out rfl]; exact HXr.out _ _ (HK.out _ hw1.out)))) ((first | (go_at_call 32; refine (HAp.out _ (HX.out.mono HBz.out)).mono ?_; rintro e1 w1 ⟨rfl, hw1'⟩; have HQ := hide ((hw1'.block _ HXz.out).trans HX0.out); have hw1 := hide (HX.out.trans (hw1'.mono HX.out.size)); clear hw1'; have hk2 := k8 (c := fun _ => 0) HQ.out; have hf2 := f8 HQ.out) | (go_at_call 32; refine (HAp.out _ HXd.out).mono ?_; rintro e1 w1 ⟨rfl, hw1'⟩; have hw1 : Hid (Below wr.heap.size wr w1) := ⟨hw1'.os, hw1'.tape, hw1'.output, hw1'.size, hw1'.block⟩; have hw1z := hide hw1.out.size; clear hw1')))
          · have HBx := hide (at0 w1 (.cells (sv (g.ap C (N j)).1) 36))
            have HB2 : Hid (Below wr.heap.size wr (w1.alloc (.cells (sv (g.ap C (N j)).1) 36))) := bA hw1.out hw1z.out _
            have HBxs : Hid (w1.heap.size ≠ sb) := fun e => by have := HS2.out.lt; have := hw1z.out; omega
            generalize w1.alloc (.cells (sv (g.ap C (N j)).1) 36) = w2 at *
            generalize w1.heap.size = bx at *
            clear hw1z
            have HR3 := hide (HR2.out.on HB2.out)
            have HO2 := hide (HOj.out.on (HB2.out.mono HBz.out))
            obtain ⟨s1, hs1⟩ : ∃ s1, (g.ap C (N j)).1 = s1 := ⟨_, rfl⟩
            rw [hs1] at HBx HNx
            clear hs1 hS0 HZ HK HX HX0 HXz HXr HXd HAp
            go_wp2_with (fail)
            refine (num_any _ _).mono ?_
            rintro e3 w3 ⟨rfl, hw3⟩
            subst w3
            cases hch : (g.ap C (N j)).2
            · have HCH := hide hch
              clear hch
              have hS4 : Hid (Sb rb bx (.slice (some ⟨sb, 0, none⟩) n cap) s1 w2.drew) := ⟨HR3.out.kr.1, k8 HBx.out⟩
              have HZ4 : Hid (rb < w2.heap.size ∧ bx < w2.heap.size) := ⟨HR3.out.lt, (Array.getElem?_eq_some_iff.1 HBx.out).1⟩
              have HK4 : Hid (∀ W, Below w2.heap.size w2 W → Sb rb bx (.slice (some ⟨sb, 0, none⟩) n cap) s1 W) := fun W hB => ⟨(hB.cell HZ4.out.1).trans HR3.out.kr.1, K8.on (k8 HBx.out) hB HZ4.out.2⟩
              have HKr : Hid (∀ W C', Sb rb bx (.slice (some ⟨sb, 0, none⟩) n cap) s1 W → Sb rb bx (.slice (some ⟨sb, 0, none⟩) n cap) s1 (W.setRow sb C')) := fun W C' h => ⟨(cell_setRow_other W sb C' _ (Ne.symm HNE.out)).trans h.1, K8.row h.2 C' HBxs.out⟩
              have HWo := hide (HO2.out.words w2.drew (belowD (Below.refl _ _)))
              have HS3 : Hid (SR w2 sb n (fun v => if v < j then nx g C S E i v else S v)) := HS2.out.on HB2.out
              have hcc := HC.out
              go_wp2_with (fail)
              go_region_held3 (Sb rb bx (.slice (some ⟨sb, 0, none⟩) n cap) s1) ((first | with_reducible exact hS4.out | with_reducible exact HK4.out _ hw4.out | with_reducible exact HK4.out _ hw5.out | (rw [hC5.out]; exact HKr.out _ _ (HK4.out _ hw5.out)))) ((first | (go_at_call 24; refine HWo.out.mono ?_; rintro e4 w4 ⟨rfl, hw4'⟩; have hw4 : Hid (Below w2.heap.size w2 w4) := ⟨hw4'.os, hw4'.tape, hw4'.output, hw4'.size, hw4'.block⟩; clear hw4') | (go_at_call 28; refine (cut_any s1 g.W hW _).mono ?_; rintro e5 w5 ⟨rfl, hw5'⟩; have hw5 : Hid (Below w2.heap.size w2 w5) := hw4.out.trans (hw5'.mono hw4.out.size); clear hw5'; have HS5 := hide (HS3.out.on hw5.out); have hk5 := HS5.out.k8 j HC.out; have hf5 := HS5.out.f8 (j * 8); obtain ⟨C5, hC5', hQ5'⟩ := HS5.out.store j HC.out (ct s1 g.W); have hC5 := hide hC5'; have hQ5 := hide hQ5'; clear hC5' hQ5')))
              rw [hC5.out]
              have hQ6 : Hid (SR (w5.setRow sb C5) sb n (fun v => if v < j + 1 then nx g C S E i v else S v)) := by
                have := hQ5.out
                rw [upto_succ HNx.out] at this
                exact this
              have HR6 : Hid (Rn (w5.setRow sb C5) rb (.slice (some ⟨sb, 0, none⟩) n cap) A C k u1) := (HR3.out.on hw5.out).of (setRow_other _ _ _ _ (Ne.symm HNE.out))
              have HN6 : Hid (SR (w5.setRow sb C5) nb n N) := ((HN2.out.on HB2.out).on hw5.out).of (setRow_other _ _ _ _ (Ne.symm HNs.out))
              have HT6 : Hid (Tw rb sb w (w5.setRow sb C5)) := ((HT2.out.trans (Tw.of HB2.out)).trans (Tw.of hw5.out)).row _ (Or.inr (Or.inl rfl))
              clear hS4 HZ4 HK4 HKr HWo HS3 hQ5 hk5 hf5 HS5 hC5
              go_wp2
              exact ⟨⟨j + 1, hcc, by go_num, by rw [HCh.out, HCH.out, if_neg (by decide), Nat.add_zero], HR6, HN6, hQ6, HT6⟩, by simp [intOf]; omega⟩
            · have HCH := hide hch
              clear hch
              have hwc : IntKind.u64.wrap ((chg g C S E i j : Int) + 1) = (chg g C S E i j : Int) + 1 := wu _ (by omega) (by have := HCb.out; have := HC.out; omega)
              have hS4 : Hid (Sb rb bx (.slice (some ⟨sb, 0, none⟩) n cap) s1 w2.drew) := ⟨HR3.out.kr.1, k8 HBx.out⟩
              have HZ4 : Hid (rb < w2.heap.size ∧ bx < w2.heap.size) := ⟨HR3.out.lt, (Array.getElem?_eq_some_iff.1 HBx.out).1⟩
              have HK4 : Hid (∀ W, Below w2.heap.size w2 W → Sb rb bx (.slice (some ⟨sb, 0, none⟩) n cap) s1 W) := fun W hB => ⟨(hB.cell HZ4.out.1).trans HR3.out.kr.1, K8.on (k8 HBx.out) hB HZ4.out.2⟩
              have HKr : Hid (∀ W C', Sb rb bx (.slice (some ⟨sb, 0, none⟩) n cap) s1 W → Sb rb bx (.slice (some ⟨sb, 0, none⟩) n cap) s1 (W.setRow sb C')) := fun W C' h => ⟨(cell_setRow_other W sb C' _ (Ne.symm HNE.out)).trans h.1, K8.row h.2 C' HBxs.out⟩
              have HWo := hide (HO2.out.words w2.drew (belowD (Below.refl _ _)))
              have HS3 : Hid (SR w2 sb n (fun v => if v < j then nx g C S E i v else S v)) := HS2.out.on HB2.out
              have hcc := HC.out
              go_wp2_with (fail)
              go_region_held3 (Sb rb bx (.slice (some ⟨sb, 0, none⟩) n cap) s1) ((first | with_reducible exact hS4.out | with_reducible exact HK4.out _ hw4.out | with_reducible exact HK4.out _ hw5.out | (rw [hC5.out]; exact HKr.out _ _ (HK4.out _ hw5.out)))) ((first | (go_at_call 24; refine HWo.out.mono ?_; rintro e4 w4 ⟨rfl, hw4'⟩; have hw4 : Hid (Below w2.heap.size w2 w4) := ⟨hw4'.os, hw4'.tape, hw4'.output, hw4'.size, hw4'.block⟩; clear hw4') | (go_at_call 28; refine (cut_any s1 g.W hW _).mono ?_; rintro e5 w5 ⟨rfl, hw5'⟩; have hw5 : Hid (Below w2.heap.size w2 w5) := hw4.out.trans (hw5'.mono hw4.out.size); clear hw5'; have HS5 := hide (HS3.out.on hw5.out); have hk5 := HS5.out.k8 j HC.out; have hf5 := HS5.out.f8 (j * 8); obtain ⟨C5, hC5', hQ5'⟩ := HS5.out.store j HC.out (ct s1 g.W); have hC5 := hide hC5'; have hQ5 := hide hQ5'; clear hC5' hQ5')))
              rw [hC5.out]
              have hQ6 : Hid (SR (w5.setRow sb C5) sb n (fun v => if v < j + 1 then nx g C S E i v else S v)) := by
                have := hQ5.out
                rw [upto_succ HNx.out] at this
                exact this
              have HR6 : Hid (Rn (w5.setRow sb C5) rb (.slice (some ⟨sb, 0, none⟩) n cap) A C k u1) := (HR3.out.on hw5.out).of (setRow_other _ _ _ _ (Ne.symm HNE.out))
              have HN6 : Hid (SR (w5.setRow sb C5) nb n N) := ((HN2.out.on HB2.out).on hw5.out).of (setRow_other _ _ _ _ (Ne.symm HNs.out))
              have HT6 : Hid (Tw rb sb w (w5.setRow sb C5)) := ((HT2.out.trans (Tw.of HB2.out)).trans (Tw.of hw5.out)).row _ (Or.inr (Or.inl rfl))
              clear hS4 HZ4 HK4 HKr HWo HS3 hQ5 hk5 hf5 HS5 hC5
              go_wp2
              exact ⟨⟨j + 1, hcc, by go_num, by rw [HCh.out, HCH.out, if_pos rfl]; push_cast; rfl, HR6, HN6, hQ6, HT6⟩, by simp [intOf]; omega⟩
          · rw [sets8 HQ.out rfl]
            have HBx := hide (setRow_heap w1 wr.heap.size _ (sv (g.ap C (N j)).1) 36 (0, 0) HQ.out)
            have HB2 : Hid (Below wr.heap.size wr (w1.setRow wr.heap.size (sv (g.ap C (N j)).1))) := below_setRow hw1.out (Nat.le_refl _) _
            have HBxs : Hid (wr.heap.size ≠ sb) := fun e => by have := HS2.out.lt; omega
            generalize w1.setRow wr.heap.size (sv (g.ap C (N j)).1) = w2 at *
            generalize hbx : wr.heap.size = bx at HBx HBxs ⊢
            clear hk2 hf2 HQ hbx
            have HR3 := hide (HR2.out.on HB2.out)
            have HO2 := hide (HOj.out.on (HB2.out.mono HBz.out))
            obtain ⟨s1, hs1⟩ : ∃ s1, (g.ap C (N j)).1 = s1 := ⟨_, rfl⟩
            rw [hs1] at HBx HNx
            clear hs1 hS0 HZ HK HX HX0 HXz HXr HXd HAp
            go_wp2_with (fail)
            refine (num_any _ _).mono ?_
            rintro e3 w3 ⟨rfl, hw3⟩
            subst w3
            cases hch : (g.ap C (N j)).2
            · have HCH := hide hch
              clear hch
              have hS4 : Hid (Sb rb bx (.slice (some ⟨sb, 0, none⟩) n cap) s1 w2.drew) := ⟨HR3.out.kr.1, k8 HBx.out⟩
              have HZ4 : Hid (rb < w2.heap.size ∧ bx < w2.heap.size) := ⟨HR3.out.lt, (Array.getElem?_eq_some_iff.1 HBx.out).1⟩
              have HK4 : Hid (∀ W, Below w2.heap.size w2 W → Sb rb bx (.slice (some ⟨sb, 0, none⟩) n cap) s1 W) := fun W hB => ⟨(hB.cell HZ4.out.1).trans HR3.out.kr.1, K8.on (k8 HBx.out) hB HZ4.out.2⟩
              have HKr : Hid (∀ W C', Sb rb bx (.slice (some ⟨sb, 0, none⟩) n cap) s1 W → Sb rb bx (.slice (some ⟨sb, 0, none⟩) n cap) s1 (W.setRow sb C')) := fun W C' h => ⟨(cell_setRow_other W sb C' _ (Ne.symm HNE.out)).trans h.1, K8.row h.2 C' HBxs.out⟩
              have HWo := hide (HO2.out.words w2.drew (belowD (Below.refl _ _)))
              have HS3 : Hid (SR w2 sb n (fun v => if v < j then nx g C S E i v else S v)) := HS2.out.on HB2.out
              have hcc := HC.out
              go_wp2_with (fail)
              go_region_held3 (Sb rb bx (.slice (some ⟨sb, 0, none⟩) n cap) s1) ((first | with_reducible exact hS4.out | with_reducible exact HK4.out _ hw4.out | with_reducible exact HK4.out _ hw5.out | (rw [hC5.out]; exact HKr.out _ _ (HK4.out _ hw5.out)))) ((first | (go_at_call 24; refine HWo.out.mono ?_; rintro e4 w4 ⟨rfl, hw4'⟩; have hw4 : Hid (Below w2.heap.size w2 w4) := ⟨hw4'.os, hw4'.tape, hw4'.output, hw4'.size, hw4'.block⟩; clear hw4') | (go_at_call 28; refine (cut_any s1 g.W hW _).mono ?_; rintro e5 w5 ⟨rfl, hw5'⟩; have hw5 : Hid (Below w2.heap.size w2 w5) := hw4.out.trans (hw5'.mono hw4.out.size); clear hw5'; have HS5 := hide (HS3.out.on hw5.out); have hk5 := HS5.out.k8 j HC.out; have hf5 := HS5.out.f8 (j * 8); obtain ⟨C5, hC5', hQ5'⟩ := HS5.out.store j HC.out (ct s1 g.W); have hC5 := hide hC5'; have hQ5 := hide hQ5'; clear hC5' hQ5')))
              rw [hC5.out]
              have hQ6 : Hid (SR (w5.setRow sb C5) sb n (fun v => if v < j + 1 then nx g C S E i v else S v)) := by
                have := hQ5.out
                rw [upto_succ HNx.out] at this
                exact this
              have HR6 : Hid (Rn (w5.setRow sb C5) rb (.slice (some ⟨sb, 0, none⟩) n cap) A C k u1) := (HR3.out.on hw5.out).of (setRow_other _ _ _ _ (Ne.symm HNE.out))
              have HN6 : Hid (SR (w5.setRow sb C5) nb n N) := ((HN2.out.on HB2.out).on hw5.out).of (setRow_other _ _ _ _ (Ne.symm HNs.out))
              have HT6 : Hid (Tw rb sb w (w5.setRow sb C5)) := ((HT2.out.trans (Tw.of HB2.out)).trans (Tw.of hw5.out)).row _ (Or.inr (Or.inl rfl))
              clear hS4 HZ4 HK4 HKr HWo HS3 hQ5 hk5 hf5 HS5 hC5
              go_wp2
              exact ⟨⟨j + 1, hcc, by go_num, by rw [HCh.out, HCH.out, if_neg (by decide), Nat.add_zero], HR6, HN6, hQ6, HT6⟩, by simp [intOf]; omega⟩
            · have HCH := hide hch
              clear hch
              have hwc : IntKind.u64.wrap ((chg g C S E i j : Int) + 1) = (chg g C S E i j : Int) + 1 := wu _ (by omega) (by have := HCb.out; have := HC.out; omega)
              have hS4 : Hid (Sb rb bx (.slice (some ⟨sb, 0, none⟩) n cap) s1 w2.drew) := ⟨HR3.out.kr.1, k8 HBx.out⟩
              have HZ4 : Hid (rb < w2.heap.size ∧ bx < w2.heap.size) := ⟨HR3.out.lt, (Array.getElem?_eq_some_iff.1 HBx.out).1⟩
              have HK4 : Hid (∀ W, Below w2.heap.size w2 W → Sb rb bx (.slice (some ⟨sb, 0, none⟩) n cap) s1 W) := fun W hB => ⟨(hB.cell HZ4.out.1).trans HR3.out.kr.1, K8.on (k8 HBx.out) hB HZ4.out.2⟩
              have HKr : Hid (∀ W C', Sb rb bx (.slice (some ⟨sb, 0, none⟩) n cap) s1 W → Sb rb bx (.slice (some ⟨sb, 0, none⟩) n cap) s1 (W.setRow sb C')) := fun W C' h => ⟨(cell_setRow_other W sb C' _ (Ne.symm HNE.out)).trans h.1, K8.row h.2 C' HBxs.out⟩
              have HWo := hide (HO2.out.words w2.drew (belowD (Below.refl _ _)))
              have HS3 : Hid (SR w2 sb n (fun v => if v < j then nx g C S E i v else S v)) := HS2.out.on HB2.out
              have hcc := HC.out
              go_wp2_with (fail)
              go_region_held3 (Sb rb bx (.slice (some ⟨sb, 0, none⟩) n cap) s1) ((first | with_reducible exact hS4.out | with_reducible exact HK4.out _ hw4.out | with_reducible exact HK4.out _ hw5.out | (rw [hC5.out]; exact HKr.out _ _ (HK4.out _ hw5.out)))) ((first | (go_at_call 24; refine HWo.out.mono ?_; rintro e4 w4 ⟨rfl, hw4'⟩; have hw4 : Hid (Below w2.heap.size w2 w4) := ⟨hw4'.os, hw4'.tape, hw4'.output, hw4'.size, hw4'.block⟩; clear hw4') | (go_at_call 28; refine (cut_any s1 g.W hW _).mono ?_; rintro e5 w5 ⟨rfl, hw5'⟩; have hw5 : Hid (Below w2.heap.size w2 w5) := hw4.out.trans (hw5'.mono hw4.out.size); clear hw5'; have HS5 := hide (HS3.out.on hw5.out); have hk5 := HS5.out.k8 j HC.out; have hf5 := HS5.out.f8 (j * 8); obtain ⟨C5, hC5', hQ5'⟩ := HS5.out.store j HC.out (ct s1 g.W); have hC5 := hide hC5'; have hQ5 := hide hQ5'; clear hC5' hQ5')))
              rw [hC5.out]
              have hQ6 : Hid (SR (w5.setRow sb C5) sb n (fun v => if v < j + 1 then nx g C S E i v else S v)) := by
                have := hQ5.out
                rw [upto_succ HNx.out] at this
                exact this
              have HR6 : Hid (Rn (w5.setRow sb C5) rb (.slice (some ⟨sb, 0, none⟩) n cap) A C k u1) := (HR3.out.on hw5.out).of (setRow_other _ _ _ _ (Ne.symm HNE.out))
              have HN6 : Hid (SR (w5.setRow sb C5) nb n N) := ((HN2.out.on HB2.out).on hw5.out).of (setRow_other _ _ _ _ (Ne.symm HNs.out))
              have HT6 : Hid (Tw rb sb w (w5.setRow sb C5)) := ((HT2.out.trans (Tw.of HB2.out)).trans (Tw.of hw5.out)).row _ (Or.inr (Or.inl rfl))
              clear hS4 HZ4 HK4 HKr HWo HS3 hQ5 hk5 hf5 HS5 hC5
              go_wp2
              exact ⟨⟨j + 1, hcc, by go_num, by rw [HCh.out, HCH.out, if_pos rfl]; push_cast; rfl, HR6, HN6, hQ6, HT6⟩, by simp [intOf]; omega⟩
        · have hjn : j = n := by omega
          subst hjn
          clear cc hj
          have HS3 : Hid (SR wr sb j (nx g C S E i)) := HS2.out.ext (fun v hv => if_pos hv)
          have hk13 := HR2.out.k13
          have hf13 := HR2.out.fz 13
          have hwk : IntKind.i64.wrap (k + 1) = k + 1 := by have := HK0.out; rw [IntKind.wrap_i64]; omega
          have E13 : wr.setCell ⟨rb, 13, none⟩ (.int .i64 (k + 1)) = wr.setRow rb (rc (.slice (some ⟨sb, 0, none⟩) j cap) A C (k + 1) u1) := by
            rw [setCell_eq_setRow _ rb 13 _ 40 (0, 0) _ HR2.out]
            rfl
          have HR4 : Hid (Rn (wr.setRow rb (rc (.slice (some ⟨sb, 0, none⟩) j cap) A C (k + 1) u1)) rb (.slice (some ⟨sb, 0, none⟩) j cap) A C (k + 1) u1) := HR2.out.row _ _ _ _ _
          have HS4 : Hid (SR (wr.setRow rb (rc (.slice (some ⟨sb, 0, none⟩) j cap) A C (k + 1) u1)) sb j (nx g C S E i)) := HS3.out.of (setRow_other _ _ _ _ HNE.out)
          have HT4 : Hid (Tw rb sb w (wr.setRow rb (rc (.slice (some ⟨sb, 0, none⟩) j cap) A C (k + 1) u1))) := HT2.out.row _ (Or.inl rfl)
          have HBz4 : Hid (B ≤ (wr.setRow rb (rc (.slice (some ⟨sb, 0, none⟩) j cap) A C (k + 1) u1)).heap.size) := Nat.le_trans HBw.out HT4.out.size
          have HO4 := hide (HO.out.on (HT4.out.below HBr.out HBs.out HBw.out))
          generalize hW4 : wr.setRow rb (rc (.slice (some ⟨sb, 0, none⟩) j cap) A C (k + 1) u1) = w4 at *
          have HF := hide (fold_any g fb B rb sb j cap A C (k + 1) u1 (nx g C S E i) hn w4 HO4.out HBz4.out HBr.out HR4.out HS4.out HNE.out HA.out)
          clear hW4 HS3 HR2 HN2 HS2 HT2
          go_wp2_with (fail)
          clear hk13 hf13 E13
          refine HF.out.mono ?_
          rintro e5 w5 ⟨rfl, hR5, hT5⟩
          have HR5 := hide hR5
          have HT5 : Hid (Tw rb sb w w5) := HT4.out.trans hT5.one
          have HS5 : Hid (SR w5 sb j (nx g C S E i)) := HS4.out.tw hT5 HNE.out HNE.out
          have HO5 := hide (HO.out.on (HT5.out.below HBr.out HBs.out HBw.out))
          have HBz5 : Hid (B ≤ w5.heap.size) := Nat.le_trans HBw.out HT5.out.size
          clear hR5 hT5 HF HR4 HS4 HT4 HO4 HBz4
          obtain ⟨F, hF⟩ : ∃ F, fs g (nx g C S E i) j = F := ⟨_, rfl⟩
          rw [hF] at HR5
          have HFe := hide hF
          obtain ⟨D, hD⟩ : ∃ D, g.tu C (chg g C S E i j : Int) (k + 1) = D := ⟨_, rfl⟩
          have HDe := hide hD
          have HTu := hide (HO5.out.turn C F (chg g C S E i j : Int) (k + 1) (by have := HK0.out; omega) (by have := HK0.out; omega))
          rw [hD] at HTu
          clear hF hD
          have hS0 : Hid (St rb (.slice (some ⟨sb, 0, none⟩) j cap) F C (k + 1) w5.drew) := ⟨HR5.out.kr, HR5.out.k13⟩
          have HZ : Hid (rb < w5.heap.size) := HR5.out.lt
          have HK : Hid (∀ W, Below w5.heap.size w5 W → St rb (.slice (some ⟨sb, 0, none⟩) j cap) F C (k + 1) W) := fun W hB => ⟨KR.on HR5.out.kr hB HZ.out, (hB.cell HZ.out).trans HR5.out.k13⟩
          have HX : Hid (Below w5.heap.size w5 (w5.alloc (.cells z4 38)).drew) := by repeat first | exact Below.refl _ _ | refine belowD ?_ | refine belowN ?_ _ | refine bA ?_ (by first | exact Nat.le_refl _ | (simp only [World.size_drew, World.size_alloc]; omega)) _
          have HXd : Hid (Below B w5 w5.drew) := belowD (Below.refl _ _)
          have HX0 : Hid ((w5.alloc (.cells z4 38)).drew.heap[w5.heap.size]? = some (.cells z4 38 (0, 0))) := at0 _ _
          have HXz : Hid (w5.heap.size < (w5.alloc (.cells z4 38)).drew.heap.size) := by show _ < _; simp only [World.size_drew, World.size_alloc]; omega
          have HXr : Hid (∀ W C', St rb (.slice (some ⟨sb, 0, none⟩) j cap) F C (k + 1) W → St rb (.slice (some ⟨sb, 0, none⟩) j cap) F C (k + 1) (W.setRow w5.heap.size C')) := fun W C' h => ⟨KR.row h.1 C' (Nat.ne_of_lt HZ.out), (cell_setRow_other W _ C' _ (Nat.ne_of_lt HZ.out)).trans h.2⟩
          go_wp2_with (fail)
          go_region_held3 (St rb (.slice (some ⟨sb, 0, none⟩) j cap) F C (k + 1)) ((first | with_reducible exact hS0.out | with_reducible exact HK.out _ HX.out | with_reducible exact HK.out _ hw6.out | with_reducible exact HK.out _ (bA hw6.out hw6z.out _) | (rw [sets4 HQ.out rfl]; exact HXr.out _ _ (HK.out _ hw6.out)))) ((first | (go_at_call 33; refine (HTu.out _ (HX.out.mono HBz5.out)).mono ?_; rintro e6 w6 ⟨rfl, hw6'⟩; have HQ := hide ((hw6'.block _ HXz.out).trans HX0.out); have hw6 := hide (HX.out.trans (hw6'.mono HX.out.size)); clear hw6'; have hk2 := k4 (c := fun _ => 0) HQ.out; have hf2 := f4 HQ.out) | (go_at_call 33; refine (HTu.out _ HXd.out).mono ?_; rintro e6 w6 ⟨rfl, hw6'⟩; have hw6 : Hid (Below w5.heap.size w5 w6) := ⟨hw6'.os, hw6'.tape, hw6'.output, hw6'.size, hw6'.block⟩; have hw6z := hide hw6.out.size; clear hw6')))
          · have HBx := hide (at0 w6 (.cells (cv D.1) 38))
            have HB7 : Hid (Below w5.heap.size w5 (w6.alloc (.cells (cv D.1) 38))) := bA hw6.out hw6z.out _
            generalize w6.alloc (.cells (cv D.1) 38) = w7 at *
            generalize w6.heap.size = bx at *
            clear hw6z
            have HR7 := hide (HR5.out.on HB7.out)
            have HS7 := hide (HS5.out.on HB7.out)
            have HT7 : Hid (Tw rb sb w w7) := HT5.out.trans (Tw.of HB7.out)
            have hk := k4 HBx.out
            have hf := HR7.out.fz
            have hkr := HR7.out.kr
            clear hS0 HZ HK HX HX0 HXz HXr HXd HTu
            go_wp2_with (fail)
            rw [setC HR7.out D.1]
            refine (num_any _ _).mono ?_
            rintro e8 w8 ⟨rfl, hw8⟩
            subst w8
            go_wp2
            all_goals go_ret2
            all_goals (have h9 := Rd.mk (g := g) (E := E) (S := S) (k := k) (m := i) (n := j) (u' := u1) (w := w) (w' := w7.setRow rb (rc (.slice (some ⟨sb, 0, none⟩) j cap) F D.1 (k + 1) u1)) (by rw [HFe.out, HDe.out]; exact HR7.out.row _ _ _ _ _) (HS7.out.of (setRow_other _ _ _ _ HNE.out)) (HT7.out.row _ (Or.inl rfl)); rw [HDe.out] at h9; exact h9)
          · rw [sets4 HQ.out rfl]
            have HBx := hide (setRow_heap w6 w5.heap.size _ (cv D.1) 38 (0, 0) HQ.out)
            have HB7 : Hid (Below w5.heap.size w5 (w6.setRow w5.heap.size (cv D.1))) := below_setRow hw6.out (Nat.le_refl _) _
            generalize w6.setRow w5.heap.size (cv D.1) = w7 at *
            generalize hbx : w5.heap.size = bx at HBx ⊢
            clear hk2 hf2 HQ hbx
            have HR7 := hide (HR5.out.on HB7.out)
            have HS7 := hide (HS5.out.on HB7.out)
            have HT7 : Hid (Tw rb sb w w7) := HT5.out.trans (Tw.of HB7.out)
            have hk := k4 HBx.out
            have hf := HR7.out.fz
            have hkr := HR7.out.kr
            clear hS0 HZ HK HX HX0 HXz HXr HXd HTu
            go_wp2_with (fail)
            rw [setC HR7.out D.1]
            refine (num_any _ _).mono ?_
            rintro e8 w8 ⟨rfl, hw8⟩
            subst w8
            go_wp2
            all_goals go_ret2
            all_goals (have h9 := Rd.mk (g := g) (E := E) (S := S) (k := k) (m := i) (n := j) (u' := u1) (w := w) (w' := w7.setRow rb (rc (.slice (some ⟨sb, 0, none⟩) j cap) F D.1 (k + 1) u1)) (by rw [HFe.out, HDe.out]; exact HR7.out.row _ _ _ _ _) (HS7.out.of (setRow_other _ _ _ _ HNE.out)) (HT7.out.row _ (Or.inl rfl)); rw [HDe.out] at h9; exact h9)
end Wp
end Go.Proofs.Ytlhpnhjfibkgpab
