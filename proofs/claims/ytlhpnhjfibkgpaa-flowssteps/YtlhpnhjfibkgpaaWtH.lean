import Derived.Test.YtlhpnhjfibkgpaaWtG
import Derived.Test.YtlhpnhjfibkgpaaWrD
namespace Go.Proofs.Ytlhpnhjfibkgpaa
namespace Wp
open Go.RowKit
set_option linter.unusedVariables false
set_option maxRecDepth 8000
/-- A list of bools as it lies. -/
def GH (w : World) (b n : Nat) (H : Nat → Bool) : Prop := ∃ C : Array Value, w.heap[b]? = some (.cells C 4 (0, 0)) ∧ ∀ v, v < n → C[v]? = some (.bool (H v))
theorem GH.lt {w : World} {b n : Nat} {H : Nat → Bool} (h : GH w b n H) : b < w.heap.size := by
  obtain ⟨C, h, _⟩ := h
  exact (Array.getElem?_eq_some_iff.1 h).1
theorem GH.of {w w' : World} {b n : Nat} {H : Nat → Bool} (h : GH w b n H) (e : w'.heap[b]? = w.heap[b]?) : GH w' b n H := by
  obtain ⟨C, h, h2⟩ := h
  exact ⟨C, e.trans h, h2⟩
theorem GH.on {w w' : World} {b n : Nat} {H : Nat → Bool} (h : GH w b n H) (hb : Below w.heap.size w w') : GH w' b n H := h.of (hb.block b h.lt)
theorem GH.cell {w : World} {b n : Nat} {H : Nat → Bool} (h : GH w b n H) (v : Nat) (hv : v < n) : w.cell? ⟨b, v, none⟩ = some (.bool (H v)) := by
  obtain ⟨C, h, h2⟩ := h
  exact (cell_of_row w b _ _ 4 (0, 0) h).trans (h2 v hv)
theorem GH.fz {w : World} {b n : Nat} {H : Nat → Bool} (h : GH w b n H) (j : Nat) : w.frozen? ⟨b, j, none⟩ = false := by
  obtain ⟨C, h, h2⟩ := h
  exact frozen_of_row w b _ _ 4 h
theorem GH.set {w : World} {b n : Nat} {H : Nat → Bool} (h : GH w b n H) (j : Nat) (x : Bool) : GH (w.setCell ⟨b, j, none⟩ (.bool x)) b n (fun v => if v = j then x else H v) ∧ ∃ C, w.setCell ⟨b, j, none⟩ (.bool x) = w.setRow b C := by
  obtain ⟨C, h, h2⟩ := h
  rw [setCell_eq_setRow w b j C 4 (0, 0) _ h]
  refine ⟨⟨_, setRow_heap w b _ _ 4 (0, 0) h, fun v hv => ?_⟩, _, rfl⟩
  show _ = some (Value.bool (if v = j then x else H v))
  rw [Array.getElem?_setIfInBounds]
  have hv2 := h2 v hv
  have := (Array.getElem?_eq_some_iff.1 hv2).1
  by_cases e : j = v
  · subst e; rw [if_pos rfl, if_pos this, if_pos rfl]
  · rw [if_neg e, if_neg (fun k => e k.symm)]; exact hv2
theorem infoB : (Try.prog.info? 4).map (fun i => (i.zero, i.size, i.bytes)) = some (some (.bool false), 1, 1) := by kernel_rfl
theorem make_bool (w : World) (n : Nat) (hn : n ≤ 1000000) : (Instr.makeSlice 66 (.int .u32 (n : Int)) (.int .u32 (n : Int))).run Try.prog w = .ok (.slice (some ⟨w.heap.size, 0, none⟩) n n) (w.alloc (.cells (madeCells #[.bool false] n) 4)) := by
  have h := infoB
  cases hh : Try.prog.info? 4 with
  | none => rw [hh] at h; cases h
  | some i =>
    rw [hh] at h
    simp at h
    have hr := run_make (P := Try.prog) w 66 4 i (.bool false) Try.underlying66 hh h.1 .u32 .u32 n n (by omega) (by omega) (by rw [h.2.2]; omega) (by omega)
    rw [h.2.1] at hr
    simp only [Int.toNat_natCast, Nat.mul_one] at hr
    rw [hr]
    rfl
theorem GH.new (w : World) (n : Nat) : GH (w.alloc (.cells (madeCells #[.bool false] n) 4)) w.heap.size n (fun _ => false) := by
  refine ⟨_, at0 _ _, fun j hj => ?_⟩
  simp [madeCells, hj, Nat.mod_one]
/-- Who is held by the first i edges. -/
structure He (n : Nat) (E : Nat → Int × Int × Int) (L P : Nat → Int) (H : Nat → Bool) (i : Nat) : Prop where
  h1 : ∀ v, v < n → H v = true → L v ≠ 18446744073709551615
  h2 : ∀ j, j < i → ∀ x y : Nat, (E j).1 = x → (E j).2.1 = y → L x ≠ 18446744073709551615 → L y = L x + 1 → P y = x → H y = true
set_option maxHeartbeats 4000000 in
theorem steps_any (N src : Int) (hs0 : 0 ≤ src) (a : Option Addr) (m c : Nat) (E : Nat → Int × Int × Int) (hm : m ≤ 11728124029610) (w : World) (hr : IRow w a m E) (hE : ∀ i, i < m → 0 ≤ (E i).1 ∧ 0 ≤ (E i).2.1) :
    Calls Try.prog 7 #[.agg #[.int .i64 N, .slice a m c], .int .u32 src] w fun e w' => e = .returned (.bool true) ∧ Below w.heap.size w w' := by
  have HSz := hide (size_any N (.slice a m c))
  have HX : Hid (Below w.heap.size w ((w.alloc (.cells #[.int .i64 N, .slice a m c] 24)).alloc (.cells #[.int .i64 N, .slice a m c] 24))) := by repeat first | exact Below.refl _ _ | refine bA ?_ (by first | exact Nat.le_refl _ | (simp only [World.size_alloc]; omega)) _
  have HL := hide (list_any N a m c E hm _ (hr.on HX.out) hE)
  have HI := hide (le1_in N m E)
  obtain ⟨E1, hE1⟩ : ∃ E1, le1 N E = E1 := ⟨_, rfl⟩
  rw [hE1] at HL HI
  have hn1 := (gz_b N).1
  have hn2 := (gz_b N).2
  have hq0 : ¬ gz N = 0 := by omega
  have ht : src.tmod (gz N : Int) = ((src % (gz N : Int)).toNat : Nat) := by rw [Int.tmod_eq_emod_of_nonneg hs0]; have := Int.emod_nonneg src (show (gz N : Int) ≠ 0 by omega); omega
  have hsn : (src % (gz N : Int)).toNat < gz N := by have := Int.emod_lt_of_pos src (show (0 : Int) < gz N by omega); have := Int.emod_nonneg src (show (gz N : Int) ≠ 0 by omega); omega
  generalize (src % (gz N : Int)).toNat = s at *
  obtain ⟨R, hR, hFi, hWc⟩ := bfs_end (gz N) m s E1 (by omega) hsn HI.out
  generalize gz N = n at *
  have hcv := convn n hn2
  have HRn := hide hR
  have HFi := hide hFi
  have HWc := hide hWc
  have HWm := hide (bfs_any (n : Int) (s : Int) (by omega) (by omega) (by omega))
  clear hr hE hE1 hR hFi hWc
  go_enter Try.func7, Try.ntmps7
  go_wp2_with (fail)
  refine (HSz.out _).mono ?_
  rintro e1 w1 ⟨rfl, hw1⟩
  subst w1
  go_wp2_with (fail)
  refine HL.out.mono ?_
  rintro e2 w2 ⟨a', c', rfl, hE2, hB2⟩
  have HE2 := hide hE2
  have HB2 : Hid (Below w.heap.size w w2) := HX.out.trans (hB2.mono HX.out.size)
  clear hE2 hB2 HL HX HSz
  go_wp2_with (fail)
  refine (HWm.out _).mono ?_
  rintro e3 w3 ⟨fb, qb, qc, rfl, hfb, hF3, hB3'⟩
  have HF3 := hide hF3
  have HY : Hid (Below w2.heap.size w2 w3) := hB3'
  have HP := hide (play_any (gB (n : Int) (s : Int)) fb n m c' R a' E1 (n : Int) hn1 (by omega) (by omega) (by show 3 ≤ 8; decide) (by have := HRn.out; omega) (by have := HRn.out; omega) w3 (obB (n : Int) (s : Int) (by omega) (by omega) qb qc fb w3.heap.size w3 HF3.out HF3.out.1 HF3.out.2.2.1) (fun W hB => sane_B (n : Int) (s : Int) qb qc fb W (HF3.out.on hB)) (HE2.out.on HY.out) HI.out HFi.out)
  clear hfb hF3 hB3'
  go_wp2_with (fail)
  refine HP.out.mono ?_
  rintro e4 w4 ⟨sb, cap, u, rfl, hsb, hS4, hB4⟩
  obtain ⟨S, hS⟩ : ∃ S, (rn (gB (n : Int) (s : Int)) E1 m n (R + 1)).2 = S := ⟨_, rfl⟩
  rw [hS] at hS4 HWc
  rw [hS]
  obtain ⟨CC, hCC⟩ : ∃ CC, (rn (gB (n : Int) (s : Int)) E1 m n (R + 1)).1 = CC := ⟨_, rfl⟩
  rw [hCC]
  obtain ⟨AA, hAA⟩ : ∃ AA, fs (gB (n : Int) (s : Int)) S n = AA := ⟨_, rfl⟩
  rw [hAA]
  obtain ⟨kk, hkk⟩ : ∃ kk, (R : Int) + 1 = kk := ⟨_, rfl⟩
  rw [hkk]
  have HF : Hid (Bfs n m s E1 (fun v => S v 0) (fun v => S v 1)) := HWc.out
  have HB3 : Hid (Below w.heap.size w w3) := HB2.out.trans (HY.out.mono HB2.out.size)
  have HB4 : Hid (Below w.heap.size w w4) := HB3.out.trans (hB4.mono HB3.out.size)
  have HS4 := hide hS4
  have HE4 : Hid (ERow w4 a' m E1) := (HE2.out.on HY.out).on hB4
  have HZ5 : Hid (Below w4.heap.size w4 (w4.alloc (.cells (rc (.slice (some ⟨sb, 0, none⟩) n cap) AA CC kk u) 39))) := b1 _ _ _
  have HH : Hid (Ho N w4.heap.size sb n cap m a' E1 S AA CC kk u w (w4.alloc (.cells (rc (.slice (some ⟨sb, 0, none⟩) n cap) AA CC kk u) 39))) := ⟨at0 _ _, HS4.out.on HZ5.out, HE4.out.on HZ5.out, HB4.out.trans (HZ5.out.mono HB4.out.size)⟩
  clear hS hCC hAA hkk hsb hS4 hB4 HP HWc HFi HRn HE2 HF3 HY HB2 HB3 HB4 HS4 HE4 HZ5
  go_wp2_with (fail)
  generalize w4.alloc (.cells (rc (.slice (some ⟨sb, 0, none⟩) n cap) AA CC kk u) 39) = w5 at *
  generalize w4.heap.size = rb at *
  refine (num_any _ _).mono ?_
  rintro e5 w5' ⟨rfl, hw5'⟩
  subst w5'
  have hkr := HH.out.r.kr.1
  have hks := HH.out.s.k8 s hsn
  have hz0 : S s 0 = 0 := (HF.out.z s hsn).2 rfl
  have hp0 : S s 1 = s := HF.out.p
  have hc0 := hks.1
  have hc1 := hks.2.1
  rw [hz0] at hc0
  rw [hp0] at hc1
  have hws : IntKind.u64.wrap (s : Int) = s := wu _ (by omega) (by omega)
  have hmk := make_bool w5 n (by omega)
  have HG0 := hide (GH.new w5 n)
  have HZ6 : Hid (Below w5.heap.size w5 (w5.alloc (.cells (madeCells #[.bool false] n) 4))) := b1 _ _ _
  generalize madeCells #[.bool false] n = mc at *
  clear hks hz0 hp0
  go_wp2_with (fail)
  clear hmk hkr hc0 hc1 hws
  generalize w5.alloc (.cells mc 4) = w6 at *
  generalize hgb : w5.heap.size = gb at *
  go_loopw [13] (fun v wr => ∃ (i : Nat) (H : Nat → Bool), i ≤ m ∧ v = .int .i64 i ∧ Hid (GH wr gb n H) ∧ Hid (He n E1 (fun v => S v 0) (fun v => S v 1) H i) ∧ Hid (Below gb w5 wr)) (fun v _ => m - (intOf v).toNat)
  case atStart => exact ⟨0, _, Nat.zero_le _, rfl, HG0, He.mk (fun v hv h => by simp at h) (fun j hj => by omega), HZ6⟩
  case round =>
    clear HG0 HZ6
    obtain ⟨i, H, hi, rfl, HG, HHe, HB⟩ := hrel
    have HHr : Hid (Ho N rb sb n cap m a' E1 S AA CC kk u w wr) := HH.out.on (by rw [hgb]; exact HB.out)
    by_cases cc : i < m
    · obtain ⟨eb, rfl, heb, hce⟩ := HHr.out.e (by omega)
      obtain ⟨x, y, hx, hy, hxn, hyn⟩ := HI.out i cc
      obtain ⟨c1, c2, _⟩ := hce i cc
      rw [hx] at c1
      rw [hy] at c2
      have HAr : Hid (Arc E1 m x y) := ⟨i, cc, hx, hy⟩
      have HEx := hide hx
      have HEy := hide hy
      have HEb := hide heb
      have HC1 := hide c1
      have HC2 := hide c2
      have HX := hide hxn
      have HY := hide hyn
      have HCC := hide cc
      have hS7 : Hid (Sl rb eb sb (i * 3) (x * 8) (.slice (some ⟨sb, 0, none⟩) n cap) (x : Int) (S x) wr.drew) := ⟨HHr.out.r.kr.1, c1, HHr.out.s.k8 x hxn⟩
      have HK7 : Hid (∀ W, Below wr.heap.size wr W → Sl rb eb sb (i * 3) (x * 8) (.slice (some ⟨sb, 0, none⟩) n cap) (x : Int) (S x) W) := fun W hB => ⟨(hB.cell HHr.out.r.lt).trans HHr.out.r.kr.1, (hB.cell HEb.out).trans HC1.out, K8o.on (HHr.out.s.k8 x HX.out) hB HHr.out.s.lt⟩
      clear c1 c2 hce hx hy heb hi
      go_wp2_with (fail)
      go_region_held3 (Sl rb eb sb (i * 3) (x * 8) (.slice (some ⟨sb, 0, none⟩) n cap) (x : Int) (S x)) ((first | with_reducible exact hS7.out | (refine HK7.out _ ?_; repeat first | exact Below.refl _ _ | refine belowD ?_ | refine belowN ?_ _ | refine bA ?_ (by first | exact Nat.le_refl _ | (simp only [World.size_drew, World.size_alloc]; omega)) _))) ((fail))
      have HW7 : Hid (Below wr.heap.size wr (wr.alloc (.cells (sv (S x)) 35)).drew) := by repeat first | exact Below.refl _ _ | refine belowD ?_ | refine belowN ?_ _ | refine bA ?_ (by first | exact Nat.le_refl _ | (simp only [World.size_drew, World.size_alloc]; omega)) _
      have HX7 : Hid ((wr.alloc (.cells (sv (S x)) 35)).drew.heap[wr.heap.size]? = some (.cells (sv (S x)) 35 (0, 0))) := at0 wr _
      have HGz : Hid (gb ≤ wr.heap.size) := Nat.le_of_lt HG.out.lt
      have HH7 := hide (HHr.out.on HW7.out)
      have HG7 := hide (HG.out.on HW7.out)
      have HB7 : Hid (Below gb w5 (wr.alloc (.cells (sv (S x)) 35)).drew) := HB.out.trans (HW7.out.mono HGz.out)
      have HE7 : Hid (eb < (wr.alloc (.cells (sv (S x)) 35)).drew.heap.size) := Nat.lt_of_lt_of_le HEb.out HW7.out.size
      have HC71 := hide ((HW7.out.cell HEb.out).trans HC1.out)
      have HC72 := hide ((HW7.out.cell HEb.out).trans HC2.out)
      clear hS7 HK7 HHr HG HB HEb HC1 HC2 HW7
      generalize (wr.alloc (.cells (sv (S x)) 35)).drew = w7 at *
      generalize wr.heap.size = bx at *
      clear HGz
      have hS8 : Hid (Sl rb eb sb (i * 3 + 1) (y * 8) (.slice (some ⟨sb, 0, none⟩) n cap) (y : Int) (S y) w7.drew) := ⟨HH7.out.r.kr.1, HC72.out, HH7.out.s.k8 y hyn⟩
      have HK8 : Hid (∀ W, Below w7.heap.size w7 W → Sl rb eb sb (i * 3 + 1) (y * 8) (.slice (some ⟨sb, 0, none⟩) n cap) (y : Int) (S y) W) := fun W hB => ⟨(hB.cell HH7.out.r.lt).trans HH7.out.r.kr.1, (hB.cell HE7.out).trans HC72.out, K8o.on (HH7.out.s.k8 y HY.out) hB HH7.out.s.lt⟩
      go_wp2_with (fail)
      go_region_held3 (Sl rb eb sb (i * 3 + 1) (y * 8) (.slice (some ⟨sb, 0, none⟩) n cap) (y : Int) (S y)) ((first | with_reducible exact hS8.out | (refine HK8.out _ ?_; repeat first | exact Below.refl _ _ | refine belowD ?_ | refine belowN ?_ _ | refine bA ?_ (by first | exact Nat.le_refl _ | (simp only [World.size_drew, World.size_alloc]; omega)) _))) ((fail))
      have HW8 : Hid (Below w7.heap.size w7 (w7.alloc (.cells (sv (S y)) 35)).drew) := by repeat first | exact Below.refl _ _ | refine belowD ?_ | refine belowN ?_ _ | refine bA ?_ (by first | exact Nat.le_refl _ | (simp only [World.size_drew, World.size_alloc]; omega)) _
      have HY8 : Hid ((w7.alloc (.cells (sv (S y)) 35)).drew.heap[w7.heap.size]? = some (.cells (sv (S y)) 35 (0, 0))) := at0 w7 _
      have HX8 : Hid ((w7.alloc (.cells (sv (S y)) 35)).drew.heap[bx]? = some (.cells (sv (S x)) 35 (0, 0))) := (HW8.out.block _ (Array.getElem?_eq_some_iff.1 HX7.out).1).trans HX7.out
      have HGz : Hid (gb ≤ w7.heap.size) := Nat.le_of_lt HG7.out.lt
      have HG8 := hide (HG7.out.on HW8.out)
      have HB8 : Hid (Below gb w5 (w7.alloc (.cells (sv (S y)) 35)).drew) := HB7.out.trans (HW8.out.mono HGz.out)
      have HC81 := hide ((HW8.out.cell HE7.out).trans HC71.out)
      have HC82 := hide ((HW8.out.cell HE7.out).trans HC72.out)
      clear hS8 HK8 HH7 HG7 HB7 HE7 HC71 HC72 HW8 HX7
      generalize (w7.alloc (.cells (sv (S y)) 35)).drew = w8 at *
      generalize w7.heap.size = bz at *
      clear HGz
      have k8x := k8 HX8.out
      have k8y := k8 HY8.out
      by_cases hux : S x 0 = 18446744073709551615
      · have hb1 : (S x 0 == 18446744073709551615) = true := by simp [hux]
        have HH9 : Hid (He n E1 (fun v => S v 0) (fun v => S v 1) H (i + 1)) := He.mk HHe.out.h1 (fun j hj x' y' hx' hy' h1 h2 h3 => by
          by_cases e : j < i
          · exact HHe.out.h2 j e x' y' hx' hy' h1 h2 h3
          · exfalso
            have e2 : j = i := by omega
            subst e2
            have e3 : x' = x := by have := HEx.out; omega
            subst e3; exact h1 hux)
        clear hux
        have cc := HCC.out
        go_wp2
        all_goals exact ⟨⟨i + 1, _, cc, by go_num, HG8, HH9, HB8⟩, by simp [intOf]; omega⟩

      · have hb1 : (S x 0 == 18446744073709551615) = false := by simp [hux]
        obtain ⟨huy, hle⟩ := HF.out.e x y HAr.out hux
        have huy' : S y 0 ≠ 18446744073709551615 := huy
        have hle' : S y 0 ≤ S x 0 + 1 := hle
        have hb2 : (S y 0 == 18446744073709551615) = false := by simp [huy']
        have hbx := (HF.out.b x hxn).resolve_left hux
        have hbx' : 0 ≤ S x 0 ∧ S x 0 < 5000 := hbx
        have hw1 : IntKind.u64.wrap (S x 0 + 1) = S x 0 + 1 := wu _ (by omega) (by omega)
        have hb3 : decide (S x 0 + 1 < S y 0) = false := by simp; omega
        by_cases heq : S y 0 = S x 0 + 1
        · have hb4 : (S y 0 == S x 0 + 1) = true := by simp [heq]
          have hys : y ≠ s := fun e => by have h0 : S y 0 = 0 := (HF.out.z y hyn).2 e; omega
          obtain ⟨pu, _, _, hpu, hmin⟩ := HF.out.d y hyn hys huy
          have hpx : pu ≤ x := hmin x HAr.out (by show S x 0 = S y 0 - 1; omega)
          have hpu' : S y 1 = pu := hpu
          have hb5 : decide ((x : Int) < S y 1) = false := by rw [hpu']; simp; omega
          have hwx : IntKind.u64.wrap (x : Int) = x := wu _ (by omega) (by omega)
          have d1 : w8.drew.cell? ⟨bz, 1, none⟩ = some (.int .u64 (S y 1)) := k8y.2.1
          have d2 : w8.drew.cell? ⟨eb, i * 3, none⟩ = some (.int .u32 (x : Int)) := HC81.out
          clear hpu hmin hpx hpu' hys
          cases hHy : H y
          · have hHb := hHy
            have HG9 := hide (GH.set (w := w8.drew.drew) HG8.out y (S y 1 == (x : Int)))
            have HB9 : Hid (Below gb w5 (w8.drew.drew.setCell ⟨gb, y, none⟩ (.bool (S y 1 == (x : Int))))) := by
              obtain ⟨C1, h1⟩ := HG9.out.2
              show Below _ _ _
              rw [h1]
              exact below_setRow (belowD (belowD HB8.out)) (Nat.le_refl _) _
            have HH9 : Hid (He n E1 (fun v => S v 0) (fun v => S v 1) (fun v => if v = y then (S y 1 == (x : Int)) else H v) (i + 1)) := He.mk (fun v hv h => by
              by_cases e : v = y
              · subst e; exact huy
              · rw [if_neg e] at h; exact HHe.out.h1 v hv h) (fun j hj x' y' hx' hy' h1 h2 h3 => by
              show (if y' = y then (S y 1 == (x : Int)) else H y') = true
              by_cases e : j < i
              · have h9 := HHe.out.h2 j e x' y' hx' hy' h1 h2 h3
                by_cases e5 : y' = y
                · subst e5; rw [hHy] at h9; cases h9
                · rw [if_neg e5]; exact h9
              · have e2 : j = i := by omega
                subst e2
                have e3 : x' = x := by have := HEx.out; omega
                have e4 : y' = y := by have := HEy.out; omega
                subst e3; subst e4
                rw [if_pos rfl]; have h3' : S y' 1 = x' := h3; simp [h3'])
            have g2 := HG8.out.cell y hyn
            have f2 := HG8.out.fz y
            rw [hHy] at g2
            have r1 : w8.drew.drew.cell? ⟨gb, y, none⟩ = some (.bool false) := g2
            have r2 : w8.drew.drew.cell? ⟨eb, i * 3 + 1, none⟩ = some (.int .u32 (y : Int)) := HC82.out
            have r3 : w8.drew.drew.cell? ⟨eb, i * 3, none⟩ = some (.int .u32 (x : Int)) := HC81.out
            have r4 : w8.drew.drew.cell? ⟨bz, 1, none⟩ = some (.int .u64 (S y 1)) := k8y.2.1
            have r5 : w8.drew.drew.frozen? ⟨gb, y, none⟩ = false := f2
            clear hux huy hle huy' hle' hbx hbx' heq g2 f2 hHb hHy
            go_wp2_with (fail)
            go_region
            all_goals go_wp2_with (fail)
            all_goals go_region
            all_goals have cc := HCC.out
            all_goals go_wp2
            all_goals exact ⟨⟨i + 1, _, cc, by go_num, HG9.out.1, HH9, HB9⟩, by simp [intOf]; omega⟩
          · have hHb := hHy
            have HG9 := hide (GH.set (w := w8.drew.drew) HG8.out y true)
            have HB9 : Hid (Below gb w5 (w8.drew.drew.setCell ⟨gb, y, none⟩ (.bool true))) := by
              obtain ⟨C1, h1⟩ := HG9.out.2
              show Below _ _ _
              rw [h1]
              exact below_setRow (belowD (belowD HB8.out)) (Nat.le_refl _) _
            have HH9 : Hid (He n E1 (fun v => S v 0) (fun v => S v 1) (fun v => if v = y then true else H v) (i + 1)) := He.mk (fun v hv h => by
              by_cases e : v = y
              · subst e; exact huy
              · rw [if_neg e] at h; exact HHe.out.h1 v hv h) (fun j hj x' y' hx' hy' h1 h2 h3 => by
              show (if y' = y then true else H y') = true
              by_cases e : j < i
              · have h9 := HHe.out.h2 j e x' y' hx' hy' h1 h2 h3
                by_cases e5 : y' = y
                · subst e5; rw [if_pos rfl]
                · rw [if_neg e5]; exact h9
              · have e2 : j = i := by omega
                subst e2
                have e3 : x' = x := by have := HEx.out; omega
                have e4 : y' = y := by have := HEy.out; omega
                subst e3; subst e4
                rw [if_pos rfl])
            have g2 := HG8.out.cell y hyn
            have f2 := HG8.out.fz y
            rw [hHy] at g2
            have r1 : w8.drew.drew.cell? ⟨gb, y, none⟩ = some (.bool true) := g2
            have r2 : w8.drew.drew.cell? ⟨eb, i * 3 + 1, none⟩ = some (.int .u32 (y : Int)) := HC82.out
            have r3 : w8.drew.drew.cell? ⟨eb, i * 3, none⟩ = some (.int .u32 (x : Int)) := HC81.out
            have r4 : w8.drew.drew.cell? ⟨bz, 1, none⟩ = some (.int .u64 (S y 1)) := k8y.2.1
            have r5 : w8.drew.drew.frozen? ⟨gb, y, none⟩ = false := f2
            clear hux huy hle huy' hle' hbx hbx' heq g2 f2 hHb hHy
            go_wp2_with (fail)
            go_region
            all_goals go_wp2_with (fail)
            all_goals go_region
            all_goals have cc := HCC.out
            all_goals go_wp2
            all_goals exact ⟨⟨i + 1, _, cc, by go_num, HG9.out.1, HH9, HB9⟩, by simp [intOf]; omega⟩
        · have hb4 : (S y 0 == S x 0 + 1) = false := by simp [heq]
          have HH9 : Hid (He n E1 (fun v => S v 0) (fun v => S v 1) H (i + 1)) := He.mk HHe.out.h1 (fun j hj x' y' hx' hy' h1 h2 h3 => by
            by_cases e : j < i
            · exact HHe.out.h2 j e x' y' hx' hy' h1 h2 h3
            · exfalso
              have e2 : j = i := by omega
              subst e2
              have e3 : x' = x := by have := HEx.out; omega
              have e4 : y' = y := by have := HEy.out; omega
              subst e3; subst e4; exact heq h2)
          clear hux huy hle huy' hle' hbx hbx' heq
          have cc := HCC.out
          go_wp2
          all_goals exact ⟨⟨i + 1, _, cc, by go_num, HG8, HH9, HB8⟩, by simp [intOf]; omega⟩

    · have him : m = i := by omega
      subst him
      have HH1 := HHr
      have HG1 := HG
      clear cc hi HB HHr HG
      go_wp2_with (fail)
      go_loopw [16] (fun v wx => ∃ j : Nat, j ≤ n ∧ v = .int .u32 j ∧ Hid (Ho N rb sb n cap m a' E1 S AA CC kk u w wx) ∧ Hid (GH wx gb n H)) (fun v _ => n - (intOf v).toNat)
      case atStart => exact ⟨0, Nat.zero_le _, rfl, HH1, HG1⟩
      case round =>
        clear HH1 HG1
        obtain ⟨j, hj, rfl, HH2, HG2⟩ := hrel
        by_cases cc : j < n
        · have k0 := HH2.out.r.kr.1
          have k1 := HH2.out.s.k8 j cc
          have HW7 : Hid (Below wr.heap.size wr (wr.alloc (.cells (sv (S j)) 35))) := b1 _ _ _
          have HW8 : Hid (Below wr.heap.size wr (wr.alloc (.cells (sv (S j)) 35)).drew) := belowD (b1 _ _ _)
          have HH8 := hide (HH2.out.on HW7.out)
          have HG8 := hide (HG2.out.on HW7.out)
          have HH9 := hide (HH2.out.on HW8.out)
          have HG9 := hide (HG2.out.on HW8.out)
          by_cases e : j = s
          · have hb : ((j : Int) == (s : Int)) = true := by rw [e]; simp
            clear e
            go_wp2
            all_goals exact ⟨⟨j + 1, cc, by go_num, HH8, HG8⟩, by simp [intOf]; omega⟩
          · have hb : ((j : Int) == (s : Int)) = false := by simp; omega
            have hkx := k8 (at0 wr (.cells (sv (S j)) 35))
            have q0 : (wr.alloc (.cells (sv (S j)) 35)).drew.cell? ⟨wr.heap.size, 0, none⟩ = some (.int .u64 (S j 0)) := hkx.1
            have q1 : (wr.alloc (.cells (sv (S j)) 35)).drew.cell? ⟨wr.heap.size, 1, none⟩ = some (.int .u64 (S j 1)) := hkx.2.1
            have q2 : (wr.alloc (.cells (sv (S j)) 35)).drew.cell? ⟨gb, j, none⟩ = some (.bool (H j)) := HG8.out.cell j cc
            clear hkx
            have hz : S j 0 ≠ 0 := fun k => e ((HF.out.z j cc).1 k)
            have hbz : (S j 0 == 0) = false := by simp [hz]
            by_cases hU : S j 0 = 18446744073709551615
            · have hP : S j 1 = 18446744073709551615 := HF.out.c j cc hU
              have b1 : (S j 0 == 18446744073709551615) = true := by simp [hU]
              have b2 : (S j 1 == 18446744073709551615) = true := by simp [hP]
              have b3 : (S j 0 != 18446744073709551615) = false := by simp [hU]
              have b4 : H j = false := by
                cases hh : H j
                · rfl
                · exact absurd hU (HHe.out.h1 j cc hh)
              rw [b4] at q2
              clear hU hP hz e b4
              go_wp2_with (fail)
              go_region
              all_goals go_wp2
              all_goals exact ⟨⟨j + 1, cc, by go_num, HH9, HG9⟩, by simp [intOf]; omega⟩
            · obtain ⟨pu, ⟨jj, hjj, hx, hy⟩, hlu, hpu, _⟩ := HF.out.d j cc e hU
              have hpu' : S j 1 = pu := hpu
              have hlu' : S pu 0 = S j 0 - 1 := hlu
              have hbj := (HF.out.b j cc).resolve_left hU
              have hbj' : 0 ≤ S j 0 ∧ S j 0 < 5000 := hbj
              have hpn := (Arc.lt HI.out ⟨jj, hjj, hx, hy⟩).1
              have b1 : (S j 0 == 18446744073709551615) = false := by simp [hU]
              have b2 : (S j 1 == 18446744073709551615) = false := by rw [hpu']; simp; omega
              have b3 : (S j 0 != 18446744073709551615) = true := by simp [hU]
              have b4 : H j = true := HHe.out.h2 jj hjj pu j hx hy (by show S pu 0 ≠ _; omega) (by show S j 0 = S pu 0 + 1; omega) hpu
              rw [b4] at q2
              clear hU hpu hpu' hlu hlu' hbj hbj' hpn hx hy hjj hz e b4
              go_wp2_with (fail)
              go_region
              all_goals go_wp2
              all_goals exact ⟨⟨j + 1, cc, by go_num, HH9, HG9⟩, by simp [intOf]; omega⟩
        · have hjn : n = j := by omega
          subst hjn
          clear cc hj
          go_wp2
          all_goals go_ret
          all_goals exact ⟨rfl, HH2.out.t⟩
end Wp
end Go.Proofs.Ytlhpnhjfibkgpaa
