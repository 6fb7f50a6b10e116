import Derived.Test.YtlhpnhjfibkgpaaWrC
import Derived.Test.YtlhpnhjfibkgpaaWqE
namespace Go.Proofs.Ytlhpnhjfibkgpaa
namespace Wp
open Go.RowKit
set_option linter.unusedVariables false
set_option maxRecDepth 8000
/-- A list of numbers as it lies. -/
def GI (w : World) (b n : Nat) (G : Nat → Int) : Prop := ∃ C : Array Value, w.heap[b]? = some (.cells C 3 (0, 0)) ∧ ∀ v, v < n → C[v]? = some (.int .i64 (G v))
theorem GI.lt {w : World} {b n : Nat} {G : Nat → Int} (h : GI w b n G) : b < w.heap.size := by
  obtain ⟨C, h, _⟩ := h
  exact (Array.getElem?_eq_some_iff.1 h).1
theorem GI.of {w w' : World} {b n : Nat} {G : Nat → Int} (h : GI w b n G) (e : w'.heap[b]? = w.heap[b]?) : GI w' b n G := by
  obtain ⟨C, h, h2⟩ := h
  exact ⟨C, e.trans h, h2⟩
theorem GI.on {w w' : World} {b n : Nat} {G : Nat → Int} (h : GI w b n G) (hb : Below w.heap.size w w') : GI w' b n G := h.of (hb.block b h.lt)
theorem GI.ext {w : World} {b n : Nat} {G H : Nat → Int} (h : GI w b n G) (e : ∀ v, v < n → G v = H v) : GI w b n H := by
  obtain ⟨C, h1, h2⟩ := h
  exact ⟨C, h1, fun v hv => by rw [← e v hv]; exact h2 v hv⟩
theorem GI.cell {w : World} {b n : Nat} {G : Nat → Int} (h : GI w b n G) (v : Nat) (hv : v < n) : w.cell? ⟨b, v, none⟩ = some (.int .i64 (G v)) := by
  obtain ⟨C, h, h2⟩ := h
  exact (cell_of_row w b _ _ 3 (0, 0) h).trans (h2 v hv)
theorem GI.fz {w : World} {b n : Nat} {G : Nat → Int} (h : GI w b n G) (j : Nat) : w.frozen? ⟨b, j, none⟩ = false := by
  obtain ⟨C, h, h2⟩ := h
  exact frozen_of_row w b _ _ 3 h
theorem GI.set {w : World} {b n : Nat} {G : Nat → Int} (h : GI w b n G) (j : Nat) (x : Int) : GI (w.setCell ⟨b, j, none⟩ (.int .i64 x)) b n (fun v => if v = j then x else G v) ∧ ∃ C, w.setCell ⟨b, j, none⟩ (.int .i64 x) = w.setRow b C := by
  obtain ⟨C, h, h2⟩ := h
  rw [setCell_eq_setRow w b j C 3 (0, 0) _ h]
  refine ⟨⟨_, setRow_heap w b _ _ 3 (0, 0) h, fun v hv => ?_⟩, _, rfl⟩
  show _ = some (Value.int .i64 (if v = j then x else G v))
  rw [Array.getElem?_setIfInBounds]
  have hv2 := h2 v hv
  have := (Array.getElem?_eq_some_iff.1 hv2).1
  by_cases e : j = v
  · subst e; rw [if_pos rfl, if_pos this, if_pos rfl]
  · rw [if_neg e, if_neg (fun k => e k.symm)]; exact hv2
theorem infoI : (Try.prog.info? 3).map (fun i => (i.zero, i.size, i.bytes)) = some (some (.int .i64 0), 1, 8) := by kernel_rfl
theorem make_int (w : World) (n : Nat) (hn : n ≤ 1000000) : (Instr.makeSlice 43 (.int .u32 (n : Int)) (.int .u32 (n : Int))).run Try.prog w = .ok (.slice (some ⟨w.heap.size, 0, none⟩) n n) (w.alloc (.cells (madeCells #[.int .i64 0] n) 3)) := by
  have h := infoI
  cases hh : Try.prog.info? 3 with
  | none => rw [hh] at h; cases h
  | some i =>
    rw [hh] at h
    simp at h
    have hr := run_make (P := Try.prog) w 43 3 i (.int .i64 0) Try.underlying43 hh h.1 .u32 .u32 n n (by omega) (by omega) (by rw [h.2.2]; omega) (by omega)
    rw [h.2.1] at hr
    simp only [Int.toNat_natCast, Nat.mul_one] at hr
    rw [hr]
    rfl
theorem GI.new (w : World) (n : Nat) : GI (w.alloc (.cells (madeCells #[.int .i64 0] n) 3)) w.heap.size n (fun _ => 0) := by
  refine ⟨_, at0 _ _, fun j hj => ?_⟩
  simp [madeCells, hj, Nat.mod_one]
/-- What the law holds on to behind play: the Run, the states, the edges. -/
structure Ho (N : Int) (rb sb n cap m : Nat) (a : Option Addr) (E : Nat → Int × Int × Int) (S : Nat → Nat → Int) (A C : Nat → Int) (k u : Int) (w wr : World) : Prop where
  r : Rn wr rb (.slice (some ⟨sb, 0, none⟩) n cap) A C k u
  s : SR wr sb n S
  e : ERow wr a m E
  t : Below w.heap.size w wr
theorem Ho.on {N : Int} {rb sb n cap m : Nat} {a : Option Addr} {E : Nat → Int × Int × Int} {S : Nat → Nat → Int} {A C : Nat → Int} {k u : Int} {w wr w' : World} (h : Ho N rb sb n cap m a E S A C k u w wr) (hb : Below wr.heap.size wr w') : Ho N rb sb n cap m a E S A C k u w w' :=
  ⟨h.r.on hb, h.s.on hb, h.e.on hb, h.t.trans (hb.mono h.t.size)⟩
abbrev Sl (rb eb sb p o : Nat) (st : Value) (x : Int) (s : Nat → Int) (w : World) : Prop := w.cell? ⟨rb, 0, none⟩ = some st ∧ w.cell? ⟨eb, p, none⟩ = some (.int .u32 x) ∧ K8o sb o s w
theorem convn (n : Nat) (h : n ≤ 400) : IntKind.i64.wrap (n : Int) = n := by rw [IntKind.wrap_i64]; omega
set_option maxHeartbeats 4000000 in
theorem law_any (N : Int) (a : Option Addr) (m c : Nat) (E : Nat → Int × Int × Int) (hm : m ≤ 11728124029610) (w : World) (hr : IRow w a m E) (hE : ∀ i, i < m → 0 ≤ (E i).1 ∧ 0 ≤ (E i).2.1) :
    Calls Try.prog 3 #[.agg #[.int .i64 N, .slice a m c]] w fun e w' => e = .returned (.bool true) ∧ Below w.heap.size w w' := by
  have HSz := hide (size_any N (.slice a m c))
  have HX : Hid (Below w.heap.size w ((w.alloc (.cells #[.int .i64 N, .slice a m c] 24)).alloc (.cells #[.int .i64 N, .slice a m c] 24))) := by repeat first | exact Below.refl _ _ | refine bA ?_ (by first | exact Nat.le_refl _ | (simp only [World.size_alloc]; omega)) _
  have HL := hide (list_any N a m c E hm _ (hr.on HX.out) hE)
  have HI := hide (le1_in N m E)
  obtain ⟨E1, hE1⟩ : ∃ E1, le1 N E = E1 := ⟨_, rfl⟩
  rw [hE1] at HL HI
  have hn1 := (gz_b N).1
  have hn2 := (gz_b N).2
  obtain ⟨R, hR, hFi, hWc⟩ := wcc_end (gz N) m E1 hn1 (by omega) HI.out
  generalize gz N = n at *
  have hcv := convn n hn2
  have HRn := hide hR
  have HFi := hide hFi
  have HWc := hide hWc
  have HWm := hide (wcc_any (n : Int) (by omega) (by omega))
  clear hr hE hE1 hR hFi hWc
  go_enter Try.func3, Try.ntmps3
  go_wp2_with (fail)
  refine (HSz.out _).mono ?_
  rintro e1 w1 ⟨rfl, hw1⟩
  subst w1
  go_wp2_with (fail)
  refine HL.out.mono ?_
  rintro e2 w2 ⟨a', c', rfl, hE2, hB2⟩
  have HE2 := hide hE2
  have HB2 : Hid (Below w.heap.size w w2) := HX.out.trans (hB2.mono HX.out.size)
  clear hE2 hB2 HL HX HSz
  go_wp2_with (fail)
  refine (HWm.out _).mono ?_
  rintro e3 w3 ⟨rfl, hw3⟩
  have HF3 : Hid (FL (n : Int) w2.heap.size w3) := by rw [hw3]; exact fl_new _ _
  have HY : Hid (Below w2.heap.size w2 w3) := by rw [hw3]; exact b1 _ _ _
  have HP := hide (play_any (gL (n : Int)) w2.heap.size n m c' R a' E1 (n : Int) hn1 (by omega) (by omega) (by show 3 ≤ 8; decide) (by have := HRn.out; omega) (by have := HRn.out; omega) w3 (obL (n : Int) (by omega) (by omega) w2.heap.size w3.heap.size w3 HF3.out HF3.out.1) (fun W hB => sane_L (n : Int) w2.heap.size W (HF3.out.on hB)) (HE2.out.on HY.out) HI.out HFi.out)
  clear hw3
  go_wp2_with (fail)
  refine HP.out.mono ?_
  rintro e4 w4 ⟨sb, cap, u, rfl, hsb, hS4, hB4⟩
  obtain ⟨S, hS⟩ : ∃ S, (rn (gL (n : Int)) E1 m n (R + 1)).2 = S := ⟨_, rfl⟩
  rw [hS] at hS4 HWc
  rw [hS]
  obtain ⟨CC, hCC⟩ : ∃ CC, (rn (gL (n : Int)) E1 m n (R + 1)).1 = CC := ⟨_, rfl⟩
  rw [hCC]
  obtain ⟨AA, hAA⟩ : ∃ AA, fs (gL (n : Int)) S n = AA := ⟨_, rfl⟩
  rw [hAA]
  obtain ⟨kk, hkk⟩ : ∃ kk, (R : Int) + 1 = kk := ⟨_, rfl⟩
  rw [hkk]
  have HF : Hid (Wcc n m E1 (fun v => S v 0)) := HWc.out
  have HB3 : Hid (Below w.heap.size w w3) := HB2.out.trans (HY.out.mono HB2.out.size)
  have HB4 : Hid (Below w.heap.size w w4) := HB3.out.trans (hB4.mono HB3.out.size)
  have HS4 := hide hS4
  have HE4 : Hid (ERow w4 a' m E1) := (HE2.out.on HY.out).on hB4
  have HZ5 : Hid (Below w4.heap.size w4 (w4.alloc (.cells (rc (.slice (some ⟨sb, 0, none⟩) n cap) AA CC kk u) 39))) := b1 _ _ _
  have HH : Hid (Ho N w4.heap.size sb n cap m a' E1 S AA CC kk u w (w4.alloc (.cells (rc (.slice (some ⟨sb, 0, none⟩) n cap) AA CC kk u) 39))) := ⟨at0 _ _, HS4.out.on HZ5.out, HE4.out.on HZ5.out, HB4.out.trans (HZ5.out.mono HB4.out.size)⟩
  clear hS hCC hAA hkk hsb hS4 hB4 HP HWc HFi HRn HE2 HF3 HY HB2 HB3 HB4 HS4 HE4 HZ5
  go_wp2_with (fail)
  generalize w4.alloc (.cells (rc (.slice (some ⟨sb, 0, none⟩) n cap) AA CC kk u) 39) = w5 at *
  generalize w4.heap.size = rb at *
  refine (num_any _ _).mono ?_
  rintro e5 w5' ⟨rfl, hw5'⟩
  subst w5'
  have hmk := make_int w5 n (by omega)
  have HG0 := hide (GI.new w5 n)
  have HZ6 : Hid (Below w5.heap.size w5 (w5.alloc (.cells (madeCells #[.int .i64 0] n) 3))) := b1 _ _ _
  have HH6 := hide (HH.out.on HZ6.out)
  generalize madeCells #[.int .i64 0] n = mc at *
  have HGb : Hid (sb ≠ w5.heap.size ∧ rb ≠ w5.heap.size) := ⟨Nat.ne_of_lt HH.out.s.lt, Nat.ne_of_lt HH.out.r.lt⟩
  go_wp2_with (fail)
  clear hmk
  generalize w5.alloc (.cells mc 3) = w6 at *
  generalize hgb : w5.heap.size = gb at *
  have HGB : Hid (w.heap.size ≤ gb) := by rw [← hgb]; exact HH.out.t.size
  have HE5 : Hid (ERow w5 a' m E1) := HH.out.e
  have HB6 : Hid (Below gb w5 w6) := HZ6.out
  clear HZ6 HH6
  go_loopw [11] (fun v wr => ∃ j : Nat, j ≤ n ∧ v = .int .i64 j ∧ Hid (GI wr gb n (fun v => if v < j then (v : Int) else 0)) ∧ Hid (Below gb w5 wr)) (fun v _ => n - (intOf v).toNat)
  case atStart => exact ⟨0, Nat.zero_le _, rfl, by simpa using HG0, HB6⟩
  case round =>
    clear HG0 HB6
    obtain ⟨j, hj, rfl, HG, HB⟩ := hrel
    by_cases cc : j < n
    · have hf := HG.out.fz j
      have hc := HG.out.cell j cc
      have HG1 := hide (HG.out.set j (j : Int))
      have HG2 : Hid (GI (wr.setCell ⟨gb, j, none⟩ (.int .i64 (j : Int))) gb n (fun v => if v < j + 1 then (v : Int) else 0)) := HG1.out.1.ext (fun v hv => by
        by_cases e : v = j
        · subst e; rw [if_pos rfl, if_pos (by omega)]
        · rw [if_neg e]
          by_cases e2 : v < j
          · rw [if_pos e2, if_pos (by omega)]
          · rw [if_neg e2, if_neg (by omega)])
      have HB2 : Hid (Below gb w5 (wr.setCell ⟨gb, j, none⟩ (.int .i64 (j : Int)))) := by
        obtain ⟨C1, h1⟩ := HG1.out.2
        show Below _ _ _
        rw [h1]
        exact below_setRow HB.out (Nat.le_refl _) _
      clear HG1
      go_wp2
      exact ⟨⟨j + 1, cc, by go_num, HG2, HB2⟩, by simp [intOf]; omega⟩
    · have hjn : n = j := by omega
      subst hjn
      have HG1 : Hid (GI wr gb n (fun v => (v : Int))) := HG.out.ext (fun v hv => if_pos hv)
      have HGr0 : Hid (Gr n E1 (fun v => S v 0) (fun v => (v : Int)) 0) := Gr.zero _ _ _
      have HOw0 : Hid (own n (fun v => (v : Int)) = n) := own_zero n
      have HB1 := HB
      clear HG HB cc hj
      go_wp2_with (fail)
      go_loopw [9, 12] (fun ap v wr => ∃ (i : Nat) (G : Nat → Int), i ≤ m ∧ v = .int .i64 i ∧ ap = .int .i64 (own n G : Int) ∧ Hid (GI wr gb n G) ∧ Hid (Gr n E1 (fun v => S v 0) G i) ∧ Hid (Below gb w5 wr)) (fun _ v _ => m - (intOf v).toNat)
      case atStart => exact ⟨0, _, Nat.zero_le _, rfl, by rw [HOw0.out], HG1, HGr0, HB1⟩
      case round =>
        clear HG1 HGr0 HOw0 HB1
        obtain ⟨i, G, hi, rfl, rfl, HGwr, HGr, HBwr⟩ := hrel
        have HHwr : Hid (Ho N rb sb n cap m a' E1 S AA CC kk u w wr) := HH.out.on (by rw [hgb]; exact HBwr.out)
        have HGzwr : Hid (gb ≤ wr.heap.size) := Nat.le_of_lt HGwr.out.lt
        have HOle : Hid (own n G ≤ n) := own_le n G
        by_cases cc : i < m
        · obtain ⟨eb, rfl, heb, hce⟩ := HHwr.out.e (by omega)
          obtain ⟨x, y, hx, hy, hxn, hyn⟩ := HI.out i cc
          obtain ⟨c1, c2, _⟩ := hce i cc
          rw [hx] at c1
          rw [hy] at c2
          have HCwr0 := hide c1
          have HCwr1 := hide c2
          have HEbwr := hide heb
          have HX := hide hxn
          have HY := hide hyn
          have HCC := hide cc
          have HEx := hide hx
          have HEy := hide hy
          have HFe : Hid (S x 0 = S y 0) := HF.out.e x y ⟨i, cc, Or.inl ⟨hx, hy⟩⟩
          have g1 := HGwr.out.cell x hxn
          have g2 := HGwr.out.cell y hyn
          clear hce hx hy heb hi
          by_cases hxy : G x = G y
          · have hb : (G x != G y) = false := by rw [hxy]; simp
            have HGr1 : Hid (Gr n E1 (fun v => S v 0) G (i + 1)) := HGr.out.same (by rw [HEx.out, HEy.out]; simpa using hxy)
            clear hxy
            go_wp2_with (fail)
            clear g1 g2 hb c1 c2 hxn hyn cc
            have hxn := HX.out
            have hyn := HY.out
            have cc := HCC.out
            have hSw7 : Hid (Sl rb eb sb (i * 3) (x * 8) (.slice (some ⟨sb, 0, none⟩) n cap) (x : Int) (S x) wr.drew) := ⟨HHwr.out.r.kr.1, HCwr0.out, HHwr.out.s.k8 x HX.out⟩
            have HKw7 : Hid (∀ W, Below wr.heap.size wr W → Sl rb eb sb (i * 3) (x * 8) (.slice (some ⟨sb, 0, none⟩) n cap) (x : Int) (S x) W) := fun W hB => ⟨(hB.cell HHwr.out.r.lt).trans HHwr.out.r.kr.1, (hB.cell HEbwr.out).trans HCwr0.out, K8o.on (HHwr.out.s.k8 x HX.out) hB HHwr.out.s.lt⟩
            have HLbw7 := hide (label_yes (S x) (HF.out.b x HX.out).1 (by have := (HF.out.b x HX.out).2; have := HX.out; omega) wr.drew)
            go_wp2_with (fail)
            go_region_held3 (Sl rb eb sb (i * 3) (x * 8) (.slice (some ⟨sb, 0, none⟩) n cap) (x : Int) (S x)) ((first | with_reducible exact hSw7.out | with_reducible exact HKw7.out _ hw7.out)) ((first | (go_at_call 14; refine HLbw7.out.mono ?_; rintro e9 w7 ⟨rfl, hw7'⟩; have hw7 : Hid (Below wr.heap.size wr w7) := (by show Below _ _ _; rw [hw7']; exact bA (belowD (Below.refl _ _)) (Nat.le_refl _) _); clear hw7')))
            clear hSw7 HKw7 HLbw7
            have HHw7 := hide (HHwr.out.on hw7.out)
            have HGw7 := hide (HGwr.out.on hw7.out)
            have HBw7 : Hid (Below gb w5 w7) := HBwr.out.trans (hw7.out.mono HGzwr.out)
            have HGzw7 : Hid (gb ≤ w7.heap.size) := Nat.le_trans HGzwr.out hw7.out.size
            have HEbw7 : Hid (eb < w7.heap.size) := Nat.lt_of_lt_of_le HEbwr.out hw7.out.size
            have HCw70 := hide ((hw7.out.cell HEbwr.out).trans HCwr0.out)
            have HCw71 := hide ((hw7.out.cell HEbwr.out).trans HCwr1.out)
            have hSw8 : Hid (Sl rb eb sb (i * 3 + 1) (y * 8) (.slice (some ⟨sb, 0, none⟩) n cap) (y : Int) (S y) w7.drew) := ⟨HHw7.out.r.kr.1, HCw71.out, HHw7.out.s.k8 y HY.out⟩
            have HKw8 : Hid (∀ W, Below w7.heap.size w7 W → Sl rb eb sb (i * 3 + 1) (y * 8) (.slice (some ⟨sb, 0, none⟩) n cap) (y : Int) (S y) W) := fun W hB => ⟨(hB.cell HHw7.out.r.lt).trans HHw7.out.r.kr.1, (hB.cell HEbw7.out).trans HCw71.out, K8o.on (HHw7.out.s.k8 y HY.out) hB HHw7.out.s.lt⟩
            have HLbw8 := hide (label_yes (S y) (HF.out.b y HY.out).1 (by have := (HF.out.b y HY.out).2; have := HY.out; omega) w7.drew)
            go_wp2_with (fail)
            go_region_held3 (Sl rb eb sb (i * 3 + 1) (y * 8) (.slice (some ⟨sb, 0, none⟩) n cap) (y : Int) (S y)) ((first | with_reducible exact hSw8.out | with_reducible exact HKw8.out _ hw8.out)) ((first | (go_at_call 14; refine HLbw8.out.mono ?_; rintro e9 w8 ⟨rfl, hw8'⟩; have hw8 : Hid (Below w7.heap.size w7 w8) := (by show Below _ _ _; rw [hw8']; exact bA (belowD (Below.refl _ _)) (Nat.le_refl _) _); clear hw8')))
            clear hSw8 HKw8 HLbw8
            have HHw8 := hide (HHw7.out.on hw8.out)
            have HGw8 := hide (HGw7.out.on hw8.out)
            have HBw8 : Hid (Below gb w5 w8) := HBw7.out.trans (hw8.out.mono HGzw7.out)
            have HGzw8 : Hid (gb ≤ w8.heap.size) := Nat.le_trans HGzw7.out hw8.out.size
            have HEbw8 : Hid (eb < w8.heap.size) := Nat.lt_of_lt_of_le HEbw7.out hw8.out.size
            have HCw80 := hide ((hw8.out.cell HEbw7.out).trans HCw70.out)
            have HCw81 := hide ((hw8.out.cell HEbw7.out).trans HCw71.out)
            have hfe : (S x 0 != S y 0) = false := by rw [HFe.out]; simp
            go_wp2
            all_goals exact ⟨⟨i + 1, G, cc, by go_num, rfl, HGw8, HGr1, HBw8⟩, by simp [intOf]; omega⟩
          · have hb : (G x != G y) = true := by simp [hxy]
            have HGr1 : Hid (Gr n E1 (fun v => S v 0) (mg G (G x) (G y)) (i + 1)) := HGr.out.merge HI.out cc HEx.out HEy.out hxn hyn HFe.out hxy
            have HOm : Hid (own n G = own n (mg G (G x) (G y)) + 1) := own_merge HGr.out hxn hyn hxy
            have hws : IntKind.i64.wrap ((own n G : Int) - 1) = (own n (mg G (G x) (G y)) : Int) := by have := HOm.out; have := HOle.out; rw [IntKind.wrap_i64]; omega
            have HNxy := hide hxy
            obtain ⟨ga, hga⟩ : ∃ ga, G x = ga := ⟨_, rfl⟩
            obtain ⟨gy, hgy⟩ : ∃ gy, G y = gy := ⟨_, rfl⟩
            rw [hga] at g1 hb HGr1 HOm hws
            rw [hgy] at g2 hb HGr1 HOm hws
            have HGI0 : Hid (GI wr gb n (fun v => if v < 0 then mg G ga gy v else G v)) := by simpa using HGwr
            clear hxy hga hgy HGwr
            go_wp2_with (fail)
            clear g1 g2 hb c1 c2 hws
            go_loopw [15] (fun v wx => ∃ j : Nat, j ≤ n ∧ v = .int .i64 j ∧ Hid (GI wx gb n (fun v => if v < j then mg G ga gy v else G v)) ∧ Hid (Below gb w5 wx)) (fun v _ => n - (intOf v).toNat)
            case atStart => exact ⟨0, Nat.zero_le _, rfl, HGI0, HBwr⟩
            case round =>
              clear HGI0 HBwr HHwr HCwr0 HCwr1 HEbwr HGzwr
              obtain ⟨j, hj, rfl, HG2, HB2⟩ := hrel
              by_cases c2 : j < n
              · have hg := HG2.out.cell j c2
                rw [if_neg (by omega)] at hg
                by_cases e : G j = gy
                · have hb : (G j == gy) = true := by rw [e]; simp
                  have hf := HG2.out.fz j
                  have HG3 := hide (HG2.out.set j ga)
                  have HG4 : Hid (GI (wr.setCell ⟨gb, j, none⟩ (.int .i64 ga)) gb n (fun v => if v < j + 1 then mg G ga gy v else G v)) := HG3.out.1.ext (fun v hv => by
                    by_cases e1 : v = j
                    · subst e1; rw [if_pos rfl, if_pos (by omega)]; unfold mg; rw [if_pos e]
                    · rw [if_neg e1]
                      by_cases e2 : v < j
                      · rw [if_pos e2, if_pos (by omega)]
                      · rw [if_neg e2, if_neg (by omega)])
                  have HB4 : Hid (Below gb w5 (wr.setCell ⟨gb, j, none⟩ (.int .i64 ga))) := by
                    obtain ⟨C1, h1⟩ := HG3.out.2
                    show Below _ _ _
                    rw [h1]
                    exact below_setRow HB2.out (Nat.le_refl _) _
                  clear e HG3
                  go_wp2
                  all_goals exact ⟨⟨j + 1, c2, by go_num, HG4, HB4⟩, by simp [intOf]; omega⟩
                · have hb : (G j == gy) = false := by simp [e]
                  have HG4 : Hid (GI wr gb n (fun v => if v < j + 1 then mg G ga gy v else G v)) := HG2.out.ext (fun v hv => by
                    by_cases e1 : v = j
                    · subst e1; rw [if_neg (by omega), if_pos (by omega)]; unfold mg; rw [if_neg e]
                    · by_cases e2 : v < j
                      · rw [if_pos e2, if_pos (by omega)]
                      · rw [if_neg e2, if_neg (by omega)])
                  clear e
                  go_wp2
                  all_goals exact ⟨⟨j + 1, c2, by go_num, HG4, HB2⟩, by simp [intOf]; omega⟩
              · have hjn : n = j := by omega
                subst hjn
                have HGwr : Hid (GI wr gb n (mg G ga gy)) := HG2.out.ext (fun v hv => if_pos hv)
                have HBwr := HB2
                have HHwr : Hid (Ho N rb sb n cap m (some ⟨eb, 0, none⟩) E1 S AA CC kk u w wr) := HH.out.on (by rw [hgb]; exact HBwr.out)
                have HGzwr : Hid (gb ≤ wr.heap.size) := Nat.le_of_lt HGwr.out.lt
                obtain ⟨b', hb', heb, hce⟩ := HHwr.out.e (by omega)
                cases hb'
                obtain ⟨c1, c3, _⟩ := hce i cc
                rw [HEx.out] at c1
                rw [HEy.out] at c3
                have HCwr0 := hide c1
                have HCwr1 := hide c3
                have HEbwr := hide heb
                clear hce heb c1 c3 HG2 HB2 c2 hj hxn hyn cc
                go_wp2_with (fail)
                have hxn := HX.out
                have hyn := HY.out
                have cc := HCC.out
                have hSw7 : Hid (Sl rb eb sb (i * 3) (x * 8) (.slice (some ⟨sb, 0, none⟩) n cap) (x : Int) (S x) wr.drew) := ⟨HHwr.out.r.kr.1, HCwr0.out, HHwr.out.s.k8 x HX.out⟩
                have HKw7 : Hid (∀ W, Below wr.heap.size wr W → Sl rb eb sb (i * 3) (x * 8) (.slice (some ⟨sb, 0, none⟩) n cap) (x : Int) (S x) W) := fun W hB => ⟨(hB.cell HHwr.out.r.lt).trans HHwr.out.r.kr.1, (hB.cell HEbwr.out).trans HCwr0.out, K8o.on (HHwr.out.s.k8 x HX.out) hB HHwr.out.s.lt⟩
                have HLbw7 := hide (label_yes (S x) (HF.out.b x HX.out).1 (by have := (HF.out.b x HX.out).2; have := HX.out; omega) wr.drew)
                go_wp2_with (fail)
                go_region_held3 (Sl rb eb sb (i * 3) (x * 8) (.slice (some ⟨sb, 0, none⟩) n cap) (x : Int) (S x)) ((first | with_reducible exact hSw7.out | with_reducible exact HKw7.out _ hw7.out)) ((first | (go_at_call 14; refine HLbw7.out.mono ?_; rintro e9 w7 ⟨rfl, hw7'⟩; have hw7 : Hid (Below wr.heap.size wr w7) := (by show Below _ _ _; rw [hw7']; exact bA (belowD (Below.refl _ _)) (Nat.le_refl _) _); clear hw7')))
                clear hSw7 HKw7 HLbw7
                have HHw7 := hide (HHwr.out.on hw7.out)
                have HGw7 := hide (HGwr.out.on hw7.out)
                have HBw7 : Hid (Below gb w5 w7) := HBwr.out.trans (hw7.out.mono HGzwr.out)
                have HGzw7 : Hid (gb ≤ w7.heap.size) := Nat.le_trans HGzwr.out hw7.out.size
                have HEbw7 : Hid (eb < w7.heap.size) := Nat.lt_of_lt_of_le HEbwr.out hw7.out.size
                have HCw70 := hide ((hw7.out.cell HEbwr.out).trans HCwr0.out)
                have HCw71 := hide ((hw7.out.cell HEbwr.out).trans HCwr1.out)
                have hSw8 : Hid (Sl rb eb sb (i * 3 + 1) (y * 8) (.slice (some ⟨sb, 0, none⟩) n cap) (y : Int) (S y) w7.drew) := ⟨HHw7.out.r.kr.1, HCw71.out, HHw7.out.s.k8 y HY.out⟩
                have HKw8 : Hid (∀ W, Below w7.heap.size w7 W → Sl rb eb sb (i * 3 + 1) (y * 8) (.slice (some ⟨sb, 0, none⟩) n cap) (y : Int) (S y) W) := fun W hB => ⟨(hB.cell HHw7.out.r.lt).trans HHw7.out.r.kr.1, (hB.cell HEbw7.out).trans HCw71.out, K8o.on (HHw7.out.s.k8 y HY.out) hB HHw7.out.s.lt⟩
                have HLbw8 := hide (label_yes (S y) (HF.out.b y HY.out).1 (by have := (HF.out.b y HY.out).2; have := HY.out; omega) w7.drew)
                go_wp2_with (fail)
                go_region_held3 (Sl rb eb sb (i * 3 + 1) (y * 8) (.slice (some ⟨sb, 0, none⟩) n cap) (y : Int) (S y)) ((first | with_reducible exact hSw8.out | with_reducible exact HKw8.out _ hw8.out)) ((first | (go_at_call 14; refine HLbw8.out.mono ?_; rintro e9 w8 ⟨rfl, hw8'⟩; have hw8 : Hid (Below w7.heap.size w7 w8) := (by show Below _ _ _; rw [hw8']; exact bA (belowD (Below.refl _ _)) (Nat.le_refl _) _); clear hw8')))
                clear hSw8 HKw8 HLbw8
                have HHw8 := hide (HHw7.out.on hw8.out)
                have HGw8 := hide (HGw7.out.on hw8.out)
                have HBw8 : Hid (Below gb w5 w8) := HBw7.out.trans (hw8.out.mono HGzw7.out)
                have HGzw8 : Hid (gb ≤ w8.heap.size) := Nat.le_trans HGzw7.out hw8.out.size
                have HEbw8 : Hid (eb < w8.heap.size) := Nat.lt_of_lt_of_le HEbw7.out hw8.out.size
                have HCw80 := hide ((hw8.out.cell HEbw7.out).trans HCw70.out)
                have HCw81 := hide ((hw8.out.cell HEbw7.out).trans HCw71.out)
                have hfe : (S x 0 != S y 0) = false := by rw [HFe.out]; simp
                go_wp2
                all_goals exact ⟨⟨i + 1, mg G ga gy, cc, by go_num, rfl, HGw8, HGr1, HBw8⟩, by simp [intOf]; omega⟩
        · have him : m = i := by omega
          subst him
          have HRo : Hid (own n (fun v => S v 0) = own n G) := roots_own HI.out HF.out HGr.out
          clear cc hi HGr HGwr HBwr
          go_wp2_with (fail)
          go_loopw [20, 21] (fun ro v wx => ∃ j : Nat, j ≤ n ∧ v = .int .u32 j ∧ ro = .int .i64 (own j (fun v => S v 0) : Int) ∧ Hid (Ho N rb sb n cap m a' E1 S AA CC kk u w wx)) (fun _ v _ => n - (intOf v).toNat)
          case atStart => exact ⟨0, Nat.zero_le _, rfl, rfl, HHwr⟩
          case round =>
            clear HHwr HGzwr
            obtain ⟨j, hj, rfl, rfl, HH2⟩ := hrel
            by_cases cc : j < n
            · have hbj := HF.out.b j cc
              have hroot := HF.out.root j cc
              obtain ⟨x, hxe⟩ : ∃ x : Nat, S j 0 = x := ⟨(S j 0).toNat, by omega⟩
              have hxj : x ≤ j := by omega
              have HLb := hide (label_yes (S j) (by omega) (by omega) wr)
              rw [hxe] at HLb
              have HSx : Hid (S x 0 = (x : Int)) := by
                show S x 0 = (x : Int)
                have : S (S j 0).toNat 0 = S j 0 := hroot
                rw [hxe] at this
                simpa using this
              have hOw : Hid (own (j + 1) (fun v => S v 0) = own j (fun v => S v 0) + if x = j then 1 else 0) := by
                show _ = _
                rw [own_succ']
                show _ + (if S j 0 = (j : Int) then 1 else 0) = _
                rw [hxe]
                by_cases e : x = j
                · rw [if_pos e, if_pos (by omega)]
                · rw [if_neg e, if_neg (by omega)]
              have HOle : Hid (own j (fun v => S v 0) ≤ j) := own_le _ _
              have hkr := HH2.out.r.kr.1
              have hk8 := HH2.out.s.k8 j cc
              have HCC := hide cc
              have HXJ := hide hxj
              clear hbj hroot hxe
              go_wp2_with (fail)
              refine HLb.out.mono ?_
              rintro e7 w7 ⟨rfl, hw7⟩
              have HB7 : Hid (Below wr.heap.size wr w7) := by show Below _ _ _; rw [hw7]; exact b1 _ _ _
              have HH7 := hide (HH2.out.on HB7.out)
              have hkr7 := HH7.out.r.kr.1
              have hk7 := (HH7.out.s.k8 x (by omega)).1
              rw [HSx.out] at hk7
              have hgt : decide ((j : Int) < (x : Int)) = false := by simp; omega
              have hxn : x < n := by omega
              have hwx : IntKind.u64.wrap (x : Int) = x := wu _ (by omega) (by omega)
              clear hw7 hkr hk8 hxj hj HLb
              by_cases e : x = j
              · have hb : ((x : Int) == (j : Int)) = true := by rw [e]; simp
                have hO2 : Hid (own (j + 1) (fun v => S v 0) = own j (fun v => S v 0) + 1) := by have := hOw.out; rw [if_pos e] at this; exact this
                have hwo : IntKind.i64.wrap ((own j (fun v => S v 0) : Int) + 1) = (own j (fun v => S v 0) : Int) + 1 := by have := HOle.out; rw [IntKind.wrap_i64]; omega
                clear e
                go_wp2
                all_goals exact ⟨⟨j + 1, HCC.out, by go_num, by rw [hO2.out]; push_cast; rfl, HH7⟩, by simp [intOf]; omega⟩
              · have hb : ((x : Int) == (j : Int)) = false := by simp; omega
                have hO2 : Hid (own (j + 1) (fun v => S v 0) = own j (fun v => S v 0)) := by have := hOw.out; rw [if_neg e] at this; exact this
                clear e
                go_wp2
                all_goals exact ⟨⟨j + 1, HCC.out, by go_num, by rw [hO2.out], HH7⟩, by simp [intOf]; omega⟩
            · have hjn : n = j := by omega
              subst hjn
              have hbe : ((own n (fun v => S v 0) : Int) == (own n G : Int)) = true := by rw [HRo.out]; simp
              clear cc hj
              go_wp2
              all_goals go_ret
              all_goals first | exact ⟨rfl, HH2.out.t⟩ | exact ⟨ret_bool hbe, HH2.out.t⟩
end Wp
end Go.Proofs.Ytlhpnhjfibkgpaa
