import Derived.Test.YtcepfmeoeepjdabAzG
import Derived.Test.YtcepfmeoeepjdabAzD
namespace Go.Proofs.Ytcepfmeoeepjdab
namespace Au
open Go.RowKit
set_option linter.unusedVariables false
set_option maxRecDepth 8000
def Kt (W w : World) (g fb tb n : Nat) (G : Nat → Int) (H : Nat → Bool) : Prop := Zs W w g fb n G ∧ GH W tb n H
theorem Kt.ch {W W' w : World} {g fb tb n : Nat} {G G' : Nat → Int} {H : Nat → Bool} (h : Kt W w g fb tb n G H) (hc : Ch (fun k => k = g) W W') (hG : GI W' g n G') (h1 : w.heap.size < g) (h2 : fb ≠ g) (h3 : tb ≠ g) : Kt W' w g fb tb n G' H := ⟨h.1.ch hc hG h1 h2, h.2.of (hc.block _ h.2.lt h3)⟩
theorem Kt.set {W w : World} {g fb tb n : Nat} {G : Nat → Int} {H H' : Nat → Bool} (h : Kt W w g fb tb n G H) (y : Nat) (h1 : w.heap.size < tb) (h2 : fb ≠ tb) (h3 : g ≠ tb) (he : ∀ v, v < n → (if v = y then true else H v) = H' v) : Kt (W.setCell ⟨tb, y, none⟩ (.bool true)) w g fb tb n G H' := by
  obtain ⟨⟨z1, z2, z3, z4⟩, hH⟩ := h
  obtain ⟨⟨X, x1, x2⟩, C, hX⟩ := hH.set y true
  refine ⟨?_, X, x1, fun v hv => by rw [← he v hv]; exact x2 v hv⟩
  rw [hX]
  exact ⟨(setRow_other _ _ _ _ (by omega)).trans z1, (setRow_other _ _ _ _ h2).trans z2, z3.of (setRow_other _ _ _ _ h3), below_setRow z4 (by omega) _⟩
theorem Kt.ext {W w : World} {g fb tb n : Nat} {G : Nat → Int} {H H' : Nat → Bool} (h : Kt W w g fb tb n G H) (he : ∀ v, v < n → H v = H' v) : Kt W w g fb tb n G H' := by
  obtain ⟨a, X, x1, x2⟩ := h
  exact ⟨a, X, x1, fun v hv => by rw [x2 v hv, he v hv]⟩
/-- What is noted on the way through the vertices. -/
def PV (S : Nat → Nat → Int) (n : Nat) (L : List T3) (j a b : Nat) : Prop := (b = 2 ∧ a < n ∧ ov9 S L a = true) ∨ (b = 1 ∧ a < j ∧ un9 S n a = true) ∨ (b = 3 ∧ a < j ∧ ng9 S L a = true)
abbrev S17t (fb tb g n v : Nat) (o : Bool) (w : World) : Prop := w.cell? ⟨fb, 0, none⟩ = some (.slice (some ⟨g, 0, none⟩) n n) ∧ w.cell? ⟨tb, v, none⟩ = some (.bool o)
theorem res12 (T : Array Value) (b : Nat) (a c d : Value) (W : World) (h10 : T[6]? = some (.pointer (some ⟨b, 0, none⟩))) (h : W.heap[b]? = some (.cells #[a, c, d] 35 (0, 0))) :
    (results Try.f12 T).run Try.prog W = .ok (.agg #[a, c, d]) W := by
  have h0 : W.cell? ⟨b, 0, none⟩ = some a := (cell_of_row _ _ _ _ _ _ h).trans rfl
  have h1 : W.cell? ⟨b, 1, none⟩ = some c := (cell_of_row _ _ _ _ _ _ h).trans rfl
  have h2 : W.cell? ⟨b, 2, none⟩ = some d := (cell_of_row _ _ _ _ _ _ h).trans rfl
  simp [results, Try.f12, go_sem, h10, h0, h1, h2]
set_option maxHeartbeats 16000000 in
theorem rtopo_any (n ec sc : Nat) (a sa : Option Addr) (L : List T3) (S : Nat → Nat → Int) (hsr : ∀ v, v < n → 0 ≤ S v 0 ∧ S v 0 < 18446744073709551616) (hn0 : 0 < n) (hn : n ≤ 5000) (hlen : L.length ≤ 140737488351232) (w : World) (hE : Row3 .u32 w a L) (hS : Row8 w sa n S) (hI : ∀ e ∈ L, e.1 < n ∧ e.2.1 < n) :
    Calls Try.prog 12 #[.int .u32 (n : Int), .slice a L.length ec, .slice sa n sc] w fun e w' => ∃ o, e = .returned (.agg #[.bool (vR o), .int .u32 (vV o), .int .i64 (vK o)]) ∧ Lm (PT S n L) o ∧ Below w.heap.size w w' := by
  obtain ⟨ax, rfl, hAt⟩ := hS hn0
  have HAt : Hid (∀ W, Below w.heap.size w W → ∀ u, u < n → W.cell? (ax.add (u * 8)) = some (.int .u64 (S u 0))) := fun W hW u hu => by
    have h := (hAt.k u hu).1
    exact (hW.cell (p := ax.add (u * 8)) (by rw [add_block]; exact hAt.1)).trans h
  have hcv : IntKind.i64.wrap (n : Int) = n := i64w _ (by omega)
  have hcu : IntKind.u64.wrap (n : Int) = n := wu _ (by omega) (by omega)
  have HSR := hide hsr
  have HI := hide hI
  have HE : Hid (∀ i, i < L.length → ∃ eb x y z, a = some eb ∧ L[i]? = some (x, y, z) ∧ eb.block < w.heap.size ∧ ∀ W, Below w.heap.size w W → W.cell? (eb.add (i * 3)) = some (.int .u32 (x : Int)) ∧ W.cell? ⟨(eb.add (i * 3)).block, (eb.add (i * 3)).off + 1, none⟩ = some (.int .u32 (y : Int))) := fun i hi => hE.read hi
  obtain ⟨w0, hw0⟩ : ∃ w0, w.alloc (.cells z3 35) = w0 := ⟨_, rfl⟩
  have hB0 : Below w.heap.size w w0 := by rw [← hw0]; exact b1 _ _ _
  have hz0 : w0.heap[w.heap.size]? = some (.cells z3 35 (0, 0)) := by rw [← hw0]; exact at0 _ _
  have HBg := hide (begin_any n hn w0)
  have HW0 := hide hw0
  have HZ0 := hide hz0
  have HB0 := hide hB0
  clear hE hS hI hw0 hz0 hB0 hsr hAt
  go_enter Try.func12, Try.ntmps12
  go_wp2_with (fail)
  rw [HW0.out]
  refine HBg.out.mono ?_
  rintro e1 w1 ⟨g, rfl, hg, hGI, hB1⟩
  obtain ⟨w2, hw2⟩ : ∃ w2, w1.alloc (.cells #[.slice (some ⟨g, 0, none⟩) n n] 79) = w2 := ⟨_, rfl⟩
  have hB2 : Below w1.heap.size w1 w2 := by rw [← hw2]; exact b1 _ _ _
  have hZ2 : Zs w2 w g w1.heap.size n (fun _ => 0) := by
    refine ⟨(hB2.block _ (Nat.lt_of_lt_of_le (lt_of_some HZ0.out) hB1.size)).trans ((hB1.block _ (lt_of_some HZ0.out)).trans HZ0.out), ?_, hGI.of (hB2.block _ hGI.lt), (HB0.out.trans (hB1.mono HB0.out.size)).trans (hB2.mono (Nat.le_trans HB0.out.size hB1.size))⟩
    rw [← hw2]; exact Boxed.new w1 _ _
  have HNe0 : Hid (w.heap.size < g ∧ g < w1.heap.size) := ⟨by have := lt_of_some HZ0.out; omega, hGI.lt⟩
  obtain ⟨fb, hfbe⟩ : ∃ fb, fb = w1.heap.size := ⟨_, rfl⟩
  have hmk := make_bool w2 n (by omega)
  have hT0 := GH.new w2 n
  obtain ⟨w3, hw3⟩ : ∃ w3, w2.alloc (.cells (madeCells #[.bool false] n) 4) = w3 := ⟨_, rfl⟩
  rw [hw3] at hmk hT0
  have hB3 : Below w2.heap.size w2 w3 := by rw [← hw3]; exact b1 _ _ _
  have hs2 : w2.heap.size = fb + 1 := by rw [hfbe, ← hw2]; simp
  rw [← hfbe] at hZ2 HNe0
  obtain ⟨tb, htb⟩ : ∃ tb, tb = fb + 1 := ⟨_, rfl⟩
  rw [hs2, ← htb] at hmk hT0
  have HK0 : Hid (Kt w3 w g fb tb n (fun _ => 0) (mt9 S (L.take 0))) := ⟨hZ2.on hB3, by
    obtain ⟨X, x1, x2⟩ := hT0
    exact ⟨X, x1, fun v hv => by rw [x2 v hv]; rfl⟩⟩
  have HR0 : Hid (Rl (fun v r => r = 2 ∧ v < n ∧ ov9 S (L.take 0) v = true) n (fun _ => 0)) := (Rl.zero n).ext (fun v r _ => ⟨fun h => h.elim, fun h => by simp [ov9] at h⟩)
  have HNe : Hid (w.heap.size < g ∧ fb ≠ g ∧ tb ≠ g ∧ w.heap.size < tb ∧ fb ≠ tb ∧ g ≠ tb) := by
    have := HNe0.out
    exact ⟨by omega, by omega, by omega, by omega, by omega, by omega⟩
  have HW2 := hide hw2
  rw [← hw2] at hmk
  have Hfbe := hide hfbe
  clear hB1 hB2 hGI hw2 HBg HZ0 HB0 HW0 hB3 hw3 hT0 hs2 hZ2 hfbe htb HNe0 hg
  go_wp2_with (fail)
  rw [← Hfbe.out]
  clear hmk HW2 Hfbe
  go_loopw [9] (fun t wr => ∃ (i : Nat) (G : Nat → Int), i ≤ L.length ∧ t = .int .i64 i ∧ Hid (Rl (fun v r => r = 2 ∧ v < n ∧ ov9 S (L.take i) v = true) n G) ∧ Hid (Kt wr w g fb tb n G (mt9 S (L.take i)))) (fun t _ => L.length - (intOf t).toNat)
  case atStart => exact ⟨0, _, Nat.zero_le _, rfl, HR0, HK0⟩
  case round =>
    clear HK0 HR0
    obtain ⟨i, G, hi, rfl, HR, HK⟩ := hrel
    by_cases ci : i < L.length
    · have hci : (i : Int) < (L.length : Int) := by omega
      obtain ⟨eb, x, y, z, rfl, hxyz, heb, hrd⟩ := HE.out i ci
      obtain ⟨hxn, hyn⟩ := HI.out _ (List.mem_of_getElem? hxyz)
      simp only at hxn hyn
      obtain ⟨d1, d2⟩ := hrd wr HK.out.1.2.2.2
      have sx := HAt.out wr HK.out.1.2.2.2 x hxn
      have sy := HAt.out wr HK.out.1.2.2.2 y hyn
      have hyw : IntKind.i64.wrap (y : Int) = y := i64w _ (by omega)
      obtain ⟨u, hu⟩ : ∃ u, S x 0 = u := ⟨_, rfl⟩
      obtain ⟨v, hv⟩ : ∃ v, S y 0 = v := ⟨_, rfl⟩
      have HV : Hid (0 ≤ v ∧ v < 18446744073709551616) := by
        show _ ∧ _
        rw [← hv]; exact HSR.out y hyn
      rw [hu] at sx
      rw [hv] at sy
      have HRn : Hid (∀ b, r2b u v = b → Rl (fun v r => r = 2 ∧ v < n ∧ ov9 S (L.take (i + 1)) v = true) n (nx G y 2 b)) := fun b hb => (HR.out.note y 2 b (by decide)).ext (fun t r ht => by
        rw [take_succ hxyz, ov9_app]
        have h1 : ovE9 S t (x, y, z) = (t == y && b) := by
          unfold ovE9
          by_cases e : t = y
          · subst e; simp [hu, hv, hb]
          · have h1 : (y == t) = false := by simpa using fun q => e q.symm
            have h2 : (t == y) = false := by simpa using e
            simp only [h1, h2, Bool.false_and]
        rw [h1]
        simp only [Bool.or_eq_true, Bool.and_eq_true, beq_iff_eq]
        constructor
        · rintro (⟨q1, q2, q3⟩ | ⟨q1, q2, q3⟩)
          · exact ⟨q1, q2, .inl q3⟩
          · exact ⟨q3, ht, .inr ⟨q2, q1⟩⟩
        · rintro ⟨q1, q2, q3 | q3⟩
          · exact .inl ⟨q1, q2, q3⟩
          · exact .inr ⟨q3.2, q3.1, q1⟩)
      have hme : ∀ t, mt9 S (L.take (i + 1)) t = (mt9 S (L.take i) t || (t == y && carr u v)) := fun t => by
        rw [take_succ hxyz, mt9_app]
        unfold mtE9
        by_cases e : t = y
        · subst e; simp [hu, hv]
        · have h1 : (y == t) = false := by simpa using fun q => e q.symm
          have h2 : (t == y) = false := by simpa using e
          simp only [h1, h2, Bool.false_and]
      have HMT : Hid (carr u v = true → ∀ t, t < n → (if t = y then true else mt9 S (L.take i) t) = mt9 S (L.take (i + 1)) t) := fun hc t _ => by
        rw [hme t, hc]
        by_cases e : t = y
        · subst e; simp
        · rw [if_neg e]; simp [e]
      have HMF : Hid (carr u v = false → ∀ t, t < n → mt9 S (L.take i) t = mt9 S (L.take (i + 1)) t) := fun hc t _ => by
        rw [hme t, hc]; simp
      have HKch : Hid (∀ w4 G', Ch (fun k => k = g) wr w4 → GI w4 g n G' → Kt w4 w g fb tb n G' (mt9 S (L.take i))) := fun w4 G' h1 h2 => HK.out.ch h1 h2 HNe.out.1 HNe.out.2.1 HNe.out.2.2.1
      have HSt : Hid (∀ w4 G', Kt w4 w g fb tb n G' (mt9 S (L.take i)) → carr u v = true → Kt (w4.setCell ⟨tb, y, none⟩ (.bool true)) w g fb tb n G' (mt9 S (L.take (i + 1)))) := fun w4 G' h hc => h.set y HNe.out.2.2.2.1 HNe.out.2.2.2.2.1 HNe.out.2.2.2.2.2 (HMT.out hc)
      have HSf : Hid (∀ w4 G', Kt w4 w g fb tb n G' (mt9 S (L.take i)) → carr u v = false → Kt w4 w g fb tb n G' (mt9 S (L.take (i + 1)))) := fun w4 G' h hc => h.ext (HMF.out hc)
      have HN := hide (fun b => fnote_any g n y 2 b G hyn hn wr HK.out.1.2.2.1)
      have cf := HK.out.1.2.1.cell
      clear hrd heb hxyz hme HMT HMF HR HK hu hv hi
      by_cases h1 : u = NN
      · have hu1 : (u == 18446744073709551615) = true := by simpa using h1
        have hu2 : (u != 18446744073709551615) = false := by simpa using h1
        by_cases hv0 : v = NN
        · have hv1 : (v == 18446744073709551615) = true := by simpa using hv0
          have hv2 : (v != 18446744073709551615) = false := by simpa using hv0
          have hr : r2b u v = false := by unfold r2b; rw [show (v != NN) = false from hv2]; rfl
          have hc : carr u v = true := by unfold carr; rw [if_pos hv0]; exact hu1
          clear h1 hv0
          have HRl := hide (HRn.out false hr)
          clear hr HRn
          go_wp2_with (fail)
          refine (HN.out false).mono ?_
          rintro e4 w4 ⟨⟨v4, rfl⟩, hG4, hC4⟩
          have HK4 := hide (HKch.out w4 _ hC4 hG4)
          have ch := HK4.out.2.cell y hyn
          have fh := HK4.out.2.fz y
          clear hG4 hC4 HKch HN d1 d2 sx sy cf
          have HK5 := hide (HSt.out _ _ HK4.out hc)
          clear hc HK4 HSt HSf
          go_wp2
          all_goals exact ⟨⟨i + 1, _, ci, by go_num, HRl, HK5⟩, by simp [intOf]; omega⟩
        · have hv1 : (v == 18446744073709551615) = false := by simpa using hv0
          have hv2 : (v != 18446744073709551615) = true := by simpa using hv0
          have hr : r2b u v = true := by unfold r2b; rw [show (v != NN) = true from hv2, show (u == NN) = true from hu1]; rfl
          have HV0 := hide hv0
          clear h1 hv0
          have HRl := hide (HRn.out true hr)
          clear hr HRn
          go_wp2_with (fail)
          refine (HN.out true).mono ?_
          rintro e4 w4 ⟨⟨v4, rfl⟩, hG4, hC4⟩
          have HK4 := hide (HKch.out w4 _ hC4 hG4)
          have ch := HK4.out.2.cell y hyn
          have fh := HK4.out.2.fz y
          clear hG4 hC4 HKch HN d1 d2 sx sy cf
          have hv0 := HV0.out
          by_cases h8 : 0 < v
          · have hd : decide (0 < v) = true := by simpa using h8
            have hw : IntKind.u64.wrap (v - 1) = v - 1 := wu _ (by omega) (by have := HV.out; omega)
            cases hq : (u == v - 1) with
            | true =>
              have hc : carr u v = true := by unfold carr; rw [if_neg hv0, hd, hq]; rfl
              clear h8 hv0
              have HK5 := hide (HSt.out _ _ HK4.out hc)
              clear hc HK4 HSt HSf
              go_wp2
              all_goals exact ⟨⟨i + 1, _, ci, by go_num, HRl, HK5⟩, by simp [intOf]; omega⟩
            | false =>
              have hc : carr u v = false := by unfold carr; rw [if_neg hv0, hd, hq]; rfl
              clear h8 hv0
              have HK5 := hide (HSf.out _ _ HK4.out hc)
              clear hc HK4 HSt HSf ch fh
              go_wp2
              all_goals exact ⟨⟨i + 1, _, ci, by go_num, HRl, HK5⟩, by simp [intOf]; omega⟩
          · have hd : decide (0 < v) = false := by simpa using h8
            have hc : carr u v = false := by unfold carr; rw [if_neg hv0, hd]; rfl
            clear h8 hv0
            have HK5 := hide (HSf.out _ _ HK4.out hc)
            clear hc HK4 HSt HSf ch fh
            go_wp2
            all_goals exact ⟨⟨i + 1, _, ci, by go_num, HRl, HK5⟩, by simp [intOf]; omega⟩
      · have hu1 : (u == 18446744073709551615) = false := by simpa using h1
        have hu2 : (u != 18446744073709551615) = true := by simpa using h1
        by_cases hv0 : v = NN
        · have hv1 : (v == 18446744073709551615) = true := by simpa using hv0
          have hv2 : (v != 18446744073709551615) = false := by simpa using hv0
          have hr : r2b u v = false := by unfold r2b; rw [show (v != NN) = false from hv2]; rfl
          have hc : carr u v = false := by unfold carr; rw [if_pos hv0]; exact hu1
          clear h1 hv0
          have HRl := hide (HRn.out false hr)
          clear hr HRn
          go_wp2_with (fail)
          refine (HN.out false).mono ?_
          rintro e4 w4 ⟨⟨v4, rfl⟩, hG4, hC4⟩
          have HK4 := hide (HKch.out w4 _ hC4 hG4)
          have ch := HK4.out.2.cell y hyn
          have fh := HK4.out.2.fz y
          clear hG4 hC4 HKch HN d1 d2 sx sy cf
          have HK5 := hide (HSf.out _ _ HK4.out hc)
          clear hc HK4 HSt HSf ch fh
          go_wp2
          all_goals exact ⟨⟨i + 1, _, ci, by go_num, HRl, HK5⟩, by simp [intOf]; omega⟩
        · have hv1 : (v == 18446744073709551615) = false := by simpa using hv0
          have hv2 : (v != 18446744073709551615) = true := by simpa using hv0
          have HV0 := hide hv0
          by_cases h3 : v ≤ u
          · have hd3 : decide (v ≤ u) = true := by simpa using h3
            have hr : r2b u v = true := by unfold r2b; rw [show (v != NN) = true from hv2, show (u == NN) = false from hu1, hd3]; rfl
            clear h1 hv0 h3
            have HRl := hide (HRn.out true hr)
            clear hr HRn
            go_wp2_with (fail)
            refine (HN.out true).mono ?_
            rintro e4 w4 ⟨⟨v4, rfl⟩, hG4, hC4⟩
            have HK4 := hide (HKch.out w4 _ hC4 hG4)
            have ch := HK4.out.2.cell y hyn
            have fh := HK4.out.2.fz y
            clear hG4 hC4 HKch HN d1 d2 sx sy cf
            have hv0 := HV0.out
            by_cases h8 : 0 < v
            · have hd : decide (0 < v) = true := by simpa using h8
              have hw : IntKind.u64.wrap (v - 1) = v - 1 := wu _ (by omega) (by have := HV.out; omega)
              cases hq : (u == v - 1) with
              | true =>
                have hc : carr u v = true := by unfold carr; rw [if_neg hv0, hd, hq]; rfl
                clear h8 hv0
                have HK5 := hide (HSt.out _ _ HK4.out hc)
                clear hc HK4 HSt HSf
                go_wp2
                all_goals exact ⟨⟨i + 1, _, ci, by go_num, HRl, HK5⟩, by simp [intOf]; omega⟩
              | false =>
                have hc : carr u v = false := by unfold carr; rw [if_neg hv0, hd, hq]; rfl
                clear h8 hv0
                have HK5 := hide (HSf.out _ _ HK4.out hc)
                clear hc HK4 HSt HSf ch fh
                go_wp2
                all_goals exact ⟨⟨i + 1, _, ci, by go_num, HRl, HK5⟩, by simp [intOf]; omega⟩
            · have hd : decide (0 < v) = false := by simpa using h8
              have hc : carr u v = false := by unfold carr; rw [if_neg hv0, hd]; rfl
              clear h8 hv0
              have HK5 := hide (HSf.out _ _ HK4.out hc)
              clear hc HK4 HSt HSf ch fh
              go_wp2
              all_goals exact ⟨⟨i + 1, _, ci, by go_num, HRl, HK5⟩, by simp [intOf]; omega⟩
          · have hd3 : decide (v ≤ u) = false := by simpa using h3
            have hr : r2b u v = false := by unfold r2b; rw [show (v != NN) = true from hv2, show (u == NN) = false from hu1, hd3]; rfl
            clear h1 hv0 h3
            have HRl := hide (HRn.out false hr)
            clear hr HRn
            go_wp2_with (fail)
            refine (HN.out false).mono ?_
            rintro e4 w4 ⟨⟨v4, rfl⟩, hG4, hC4⟩
            have HK4 := hide (HKch.out w4 _ hC4 hG4)
            have ch := HK4.out.2.cell y hyn
            have fh := HK4.out.2.fz y
            clear hG4 hC4 HKch HN d1 d2 sx sy cf
            have hv0 := HV0.out
            by_cases h8 : 0 < v
            · have hd : decide (0 < v) = true := by simpa using h8
              have hw : IntKind.u64.wrap (v - 1) = v - 1 := wu _ (by omega) (by have := HV.out; omega)
              cases hq : (u == v - 1) with
              | true =>
                have hc : carr u v = true := by unfold carr; rw [if_neg hv0, hd, hq]; rfl
                clear h8 hv0
                have HK5 := hide (HSt.out _ _ HK4.out hc)
                clear hc HK4 HSt HSf
                go_wp2
                all_goals exact ⟨⟨i + 1, _, ci, by go_num, HRl, HK5⟩, by simp [intOf]; omega⟩
              | false =>
                have hc : carr u v = false := by unfold carr; rw [if_neg hv0, hd, hq]; rfl
                clear h8 hv0
                have HK5 := hide (HSf.out _ _ HK4.out hc)
                clear hc HK4 HSt HSf ch fh
                go_wp2
                all_goals exact ⟨⟨i + 1, _, ci, by go_num, HRl, HK5⟩, by simp [intOf]; omega⟩
            · have hd : decide (0 < v) = false := by simpa using h8
              have hc : carr u v = false := by unfold carr; rw [if_neg hv0, hd]; rfl
              clear h8 hv0
              have HK5 := hide (HSf.out _ _ HK4.out hc)
              clear hc HK4 HSt HSf ch fh
              go_wp2
              all_goals exact ⟨⟨i + 1, _, ci, by go_num, HRl, HK5⟩, by simp [intOf]; omega⟩
    · have hie : i = L.length := by omega
      subst hie
      rw [List.take_length] at HR HK
      have HR1 : Hid (Rl (PV S n L 0) n G) := HR.out.ext (fun v r hv => ⟨fun h => .inl h, fun h => by
        rcases h with h | ⟨_, h, _⟩ | ⟨_, h, _⟩
        · exact h
        · omega
        · omega⟩)
      have HK1 := HK
      clear HR HK ci hi
      go_wp2_with (fail)
      go_loopw [13] (fun t wr => ∃ (j : Nat) (G : Nat → Int), j ≤ n ∧ t = .int .i64 j ∧ Hid (Rl (PV S n L j) n G) ∧ Hid (Kt wr w g fb tb n G (mt9 S L))) (fun t _ => n - (intOf t).toNat)
      case atStart => exact ⟨0, G, Nat.zero_le _, rfl, HR1, HK1⟩
      case round =>
        clear HR1 HK1 G
        obtain ⟨j, G, hj, rfl, HR, HK⟩ := hrel
        by_cases cc : j < n
        · have hcc : (j : Int) < (n : Int) := by omega
          have sj := HAt.out wr HK.out.1.2.2.2 j cc
          have hl0 := HSR.out j cc
          have HRn : Hid (∀ b1 b3, un9 S n j = b1 → ng9 S L j = b3 → Rl (PV S n L (j + 1)) n (nx (nx G j 1 b1) j 3 b3)) := fun b1 b3 h1 h3 => ((HR.out.note j 1 b1 (by decide)).note j 3 b3 (by decide)).ext (fun t r ht => by
            subst h1 h3
            unfold PV
            constructor
            · rintro ((( h | ⟨h1, h2, h3⟩ | ⟨h1, h2, h3⟩) | ⟨h1, h2, h3⟩) | ⟨h1, h2, h3⟩)
              · exact .inl h
              · exact .inr (.inl ⟨h1, by omega, h3⟩)
              · exact .inr (.inr ⟨h1, by omega, h3⟩)
              · subst h2; exact .inr (.inl ⟨h3, by omega, h1⟩)
              · subst h2; exact .inr (.inr ⟨h3, by omega, h1⟩)
            · rintro (h | ⟨h1, h2, h3⟩ | ⟨h1, h2, h3⟩)
              · exact .inl (.inl (.inl h))
              · by_cases e : t = j
                · subst e; exact .inl (.inr ⟨h3, rfl, h1⟩)
                · exact .inl (.inl (.inr (.inl ⟨h1, by omega, h3⟩)))
              · by_cases e : t = j
                · subst e; exact .inr ⟨h3, rfl, h1⟩
                · exact .inl (.inl (.inr (.inr ⟨h1, by omega, h3⟩))))
          obtain ⟨l, hl⟩ : ∃ l, S j 0 = l := ⟨_, rfl⟩
          obtain ⟨o, ho⟩ : ∃ o, mt9 S L j = o := ⟨_, rfl⟩
          have hun : un9 S n j = (decide ((n : Int) ≤ l) && l != NN) := by unfold un9; rw [hl]
          have hng : ng9 S L j = (decide (0 < l) && !o) := by unfold ng9; rw [hl, ho]
          rw [hl] at sj hl0
          have hto := HK.out.2.cell j cc
          rw [ho] at hto
          have HKS : Hid (∀ W, Ch (fun k => k = g) wr W → S17t fb tb g n j o W) := fun W hW => ⟨(hW.cell (p := ⟨fb, 0, none⟩) HK.out.1.2.1.lt HNe.out.2.1).trans HK.out.1.2.1.cell, (hW.cell (p := ⟨tb, j, none⟩) HK.out.2.lt HNe.out.2.2.1).trans hto⟩
          have HKch : Hid (∀ w4 G', Ch (fun k => k = g) wr w4 → GI w4 g n G' → Kt w4 w g fb tb n G' (mt9 S L)) := fun w4 G' h1 h2 => HK.out.ch h1 h2 HNe.out.1 HNe.out.2.1 HNe.out.2.2.1
          have HN := hide (fun b => fnote_any g n j 1 b G cc hn wr HK.out.1.2.2.1)
          have HN2 := hide (fun b b' W (h : GI W g n (nx G j 1 b)) => fnote_any g n j 3 b' (nx G j 1 b) cc hn W h)
          have cf := HK.out.1.2.1.cell
          have HL0 := hide hl0
          have HU := hide hun
          have HNG := hide hng
          clear HR HK hl ho hun hng hto hl0 hj
          by_cases h1 : (n : Int) ≤ l
          · have hd1 : decide ((n : Int) ≤ l) = true := by simpa using h1
            have h0 : (l != 0) = true := by
              have : l ≠ 0 := by omega
              simpa using this
            have hp : decide (0 < l) = true := by simp; omega
            by_cases h2 : l = NN
            · have hd2 : (l != 18446744073709551615) = false := by simpa using h2
              have hr1 : un9 S n j = false := by rw [HU.out, hd1, show (l != NN) = false from hd2]; rfl
              have hr3 : ng9 S L j = (!o) := by rw [HNG.out, hp]; rfl
              clear h1 h2 hp
              have HRl := hide (HRn.out false (!o) hr1 hr3)
              have HN3 := hide (HN2.out false (!o))
              clear hr1 hr3 HRn HU HNG HN2
              go_wp2_with (fail)
              refine (HN.out false).mono ?_
              rintro e4 w4 ⟨⟨v4, rfl⟩, hG4, hC4⟩
              have HG4 := hide hG4
              have HC4 := hide hC4
              clear hG4 hC4 HN sj cf
              go_wp2_with (fail)
              go_region_held3 (S17t fb tb g n j o) ((first | with_reducible exact HKS.out _ HC4.out.drew | with_reducible exact HKS.out _ HC5.out)) ((first | (go_at_call 38; refine (HN3.out w4.drew (HG4.out.of rfl)).mono ?_; rintro e5 w5 ⟨⟨v5, rfl⟩, hG5, hC5⟩; have HC5 : Hid (Ch (fun k => k = g) wr w5) := (HC4.out.drew).trans hC5; have HG5 := hide hG5; clear hG5 hC5) | fail "no arm"))
              have HK6 := hide (HKch.out _ _ HC5.out HG5.out)
              clear HG4 HC4 HG5 HC5 HKch HKS HN3
              go_wp2
              all_goals exact ⟨⟨j + 1, _, cc, by go_num, HRl, HK6⟩, by simp [intOf]; omega⟩
            · have hd2 : (l != 18446744073709551615) = true := by simpa using h2
              have hr1 : un9 S n j = true := by rw [HU.out, hd1, show (l != NN) = true from hd2]; rfl
              have hr3 : ng9 S L j = (!o) := by rw [HNG.out, hp]; rfl
              clear h1 h2 hp
              have HRl := hide (HRn.out true (!o) hr1 hr3)
              have HN3 := hide (HN2.out true (!o))
              clear hr1 hr3 HRn HU HNG HN2
              go_wp2_with (fail)
              refine (HN.out true).mono ?_
              rintro e4 w4 ⟨⟨v4, rfl⟩, hG4, hC4⟩
              have HG4 := hide hG4
              have HC4 := hide hC4
              clear hG4 hC4 HN sj cf
              go_wp2_with (fail)
              go_region_held3 (S17t fb tb g n j o) ((first | with_reducible exact HKS.out _ HC4.out.drew | with_reducible exact HKS.out _ HC5.out)) ((first | (go_at_call 38; refine (HN3.out w4.drew (HG4.out.of rfl)).mono ?_; rintro e5 w5 ⟨⟨v5, rfl⟩, hG5, hC5⟩; have HC5 : Hid (Ch (fun k => k = g) wr w5) := (HC4.out.drew).trans hC5; have HG5 := hide hG5; clear hG5 hC5) | fail "no arm"))
              have HK6 := hide (HKch.out _ _ HC5.out HG5.out)
              clear HG4 HC4 HG5 HC5 HKch HKS HN3
              go_wp2
              all_goals exact ⟨⟨j + 1, _, cc, by go_num, HRl, HK6⟩, by simp [intOf]; omega⟩
          · have hd1 : decide ((n : Int) ≤ l) = false := by simpa using h1
            have hr1 : un9 S n j = false := by rw [HU.out, hd1]; rfl
            by_cases h2 : l = 0
            · have h0 : (l != 0) = false := by simpa using h2
              have hr3 : ng9 S L j = false := by rw [HNG.out, h2]; rfl
              clear h1 h2
              have HRl := hide (HRn.out false false hr1 hr3)
              have HN3 := hide (HN2.out false false)
              clear hr1 hr3 HRn HU HNG HN2
              go_wp2_with (fail)
              refine (HN.out false).mono ?_
              rintro e4 w4 ⟨⟨v4, rfl⟩, hG4, hC4⟩
              have HG4 := hide hG4
              have HC4 := hide hC4
              clear hG4 hC4 HN sj cf
              go_wp2_with (fail)
              refine wp_region_held_drew (S := (S17t fb tb g n j o)) (by kernel_rfl) ?_ (fun hHeld => ?_)
              · exact HKS.out _ HC4.out.drew
              refine wpAnyH_take (i := 0) (oi := ({ dst := some 116, op := Go.Op.load 79 (Go.Operand.tmp 7), type := 79, pos := "ref.go:436", after := #[], guard := none } : Oper)) (v := ?_) rfl (by kernel_rfl) (by kernel_rfl) (by kernel_rfl) (fun _ _ _ h => h) (Or.inl ⟨by rfl, ?_⟩) (by assumption) ?_
              rotate_left 1
              · (intro w hSw; (try dsimp only at hSw); go_simp; (try with_reducible rfl))
              try simp only [Act.put, List.setIfInBounds_toArray, List.set_cons_zero, List.set_cons_succ]
              refine wpAnyH_take (i := 1) (oi := ({ dst := some 117, op := Go.Op.move (Go.Operand.tmp 13), type := 3, pos := "ref.go:436", after := #[], guard := none } : Oper)) (v := ?_) rfl (by kernel_rfl) (by kernel_rfl) (by kernel_rfl) (fun _ _ _ h => h) (Or.inl ⟨by rfl, ?_⟩) (by assumption) ?_
              rotate_left 1
              · (intro w hSw; (try dsimp only at hSw); go_simp; (try with_reducible rfl))
              try simp only [Act.put, List.setIfInBounds_toArray, List.set_cons_zero, List.set_cons_succ]
              refine wpAnyH_take (i := 2) (oi := ({ dst := some 118, op := Go.Op.move (Go.Operand.tmp 14), type := 28, pos := "ref.go:436", after := #[], guard := none } : Oper)) (v := ?_) rfl (by kernel_rfl) (by kernel_rfl) (by kernel_rfl) (fun _ _ _ h => h) (Or.inl ⟨by rfl, ?_⟩) (by assumption) ?_
              rotate_left 1
              · (intro w hSw; (try dsimp only at hSw); go_simp; (try with_reducible rfl))
              try simp only [Act.put, List.setIfInBounds_toArray, List.set_cons_zero, List.set_cons_succ]
              refine wpAnyH_take (i := 3) (oi := ({ dst := some 119, op := Go.Op.binOp Go.BinOp.neq 28 (Go.Operand.tmp 118) (Go.Operand.const (Go.Value.int Go.IntKind.u64 0)) 28, type := 4, pos := "ref.go:436", after := #[{ on := 2, ground := Go.Ground.data }], guard := none } : Oper)) (v := ?_) rfl (by kernel_rfl) (by kernel_rfl) (by kernel_rfl) (fun _ _ _ h => h) (Or.inl ⟨by rfl, ?_⟩) (by assumption) ?_
              rotate_left 1
              · (intro w hSw; (try dsimp only at hSw); go_simp; (try with_reducible rfl))
              try simp only [Act.put, List.setIfInBounds_toArray, List.set_cons_zero, List.set_cons_succ]
              refine wpAnyH_take (i := 4) (oi := ({ dst := some 120, op := Go.Op.move (Go.Operand.tmp 119), type := 4, pos := "ref.go:436", after := #[{ on := 3, ground := Go.Ground.data }], guard := none } : Oper)) (v := ?_) rfl (by kernel_rfl) (by kernel_rfl) (by kernel_rfl) (fun _ _ _ h => h) (Or.inl ⟨by rfl, ?_⟩) (by assumption) ?_
              rotate_left 1
              · (intro w hSw; (try dsimp only at hSw); go_simp; (try with_reducible rfl))
              try simp only [Act.put, List.setIfInBounds_toArray, List.set_cons_zero, List.set_cons_succ]
              refine wpAnyH_take (i := 5) (oi := ({ dst := some 121, op := Go.Op.move (Go.Operand.tmp 8), type := 81, pos := "ref.go:436", after := #[{ on := 4, ground := Go.Ground.guard }], guard := some (4, true) } : Oper)) (v := undef) rfl (by kernel_rfl) (by kernel_rfl) (by kernel_rfl) (fun _ _ _ h => h) (Or.inr ⟨by rfl, rfl⟩) (by assumption) ?_
              try simp only [Act.put, List.setIfInBounds_toArray, List.set_cons_zero, List.set_cons_succ]
              refine wpAnyH_take (i := 6) (oi := ({ dst := some 122, op := Go.Op.move (Go.Operand.tmp 13), type := 3, pos := "ref.go:436", after := #[{ on := 4, ground := Go.Ground.guard }], guard := some (4, true) } : Oper)) (v := undef) rfl (by kernel_rfl) (by kernel_rfl) (by kernel_rfl) (fun _ _ _ h => h) (Or.inr ⟨by rfl, rfl⟩) (by assumption) ?_
              try simp only [Act.put, List.setIfInBounds_toArray, List.set_cons_zero, List.set_cons_succ]
              refine wpAnyH_take (i := 7) (oi := ({ dst := some 123, op := Go.Op.indexAddr 81 (Go.Operand.tmp 121) (Go.Operand.tmp 122), type := 0, pos := "ref.go:436", after := #[{ on := 5, ground := Go.Ground.data }, { on := 6, ground := Go.Ground.data }, { on := 4, ground := Go.Ground.guard }], guard := some (4, true) } : Oper)) (v := undef) rfl (by kernel_rfl) (by kernel_rfl) (by kernel_rfl) (fun _ _ _ h => h) (Or.inr ⟨by rfl, rfl⟩) (by assumption) ?_
              try simp only [Act.put, List.setIfInBounds_toArray, List.set_cons_zero, List.set_cons_succ]
              refine wpAnyH_take (i := 8) (oi := ({ dst := some 124, op := Go.Op.load 4 (Go.Operand.tmp 123), type := 4, pos := "ref.go:436", after := #[{ on := 7, ground := Go.Ground.data }, { on := 4, ground := Go.Ground.guard }], guard := some (4, true) } : Oper)) (v := undef) rfl (by kernel_rfl) (by kernel_rfl) (by kernel_rfl) (fun _ _ _ h => h) (Or.inr ⟨by rfl, rfl⟩) (by assumption) ?_
              try simp only [Act.put, List.setIfInBounds_toArray, List.set_cons_zero, List.set_cons_succ]
              refine wpAnyH_take (i := 9) (oi := ({ dst := some 125, op := Go.Op.unOp Go.UnOp.not 4 (Go.Operand.tmp 124), type := 4, pos := "ref.go:436", after := #[{ on := 8, ground := Go.Ground.data }, { on := 4, ground := Go.Ground.guard }], guard := some (4, true) } : Oper)) (v := undef) rfl (by kernel_rfl) (by kernel_rfl) (by kernel_rfl) (fun _ _ _ h => h) (Or.inr ⟨by rfl, rfl⟩) (by assumption) ?_
              try simp only [Act.put, List.setIfInBounds_toArray, List.set_cons_zero, List.set_cons_succ]
              refine wpAnyH_take (i := 10) (oi := ({ dst := some 126, op := Go.Op.pick (Go.Operand.tmp 120) (Go.Operand.tmp 125) (Go.Operand.const (Go.Value.bool false)), type := 4, pos := "ref.go:436", after := #[{ on := 4, ground := Go.Ground.data }, { on := 9, ground := Go.Ground.data }], guard := none } : Oper)) (v := ?_) rfl (by kernel_rfl) (by kernel_rfl) (by kernel_rfl) (fun _ _ _ h => h) (Or.inl ⟨by rfl, ?_⟩) (by assumption) ?_
              rotate_left 1
              · (intro w hSw; (try dsimp only at hSw); go_simp; (try with_reducible rfl))
              try simp only [Act.put, List.setIfInBounds_toArray, List.set_cons_zero, List.set_cons_succ]
              refine wpAnyH_ready (rs := [11]) (by kernel_rfl) (by simp) ?_
              refine AllReadyH.cons (o := ({ dst := some 127, op := Go.Op.call { callee := Go.Callee.value (Go.Operand.func 38), args := #[Go.Operand.tmp 116, Go.Operand.tmp 117, Go.Operand.const (Go.Value.int Go.IntKind.i64 3), Go.Operand.tmp 126], argTypes := #[79, 3, 3, 4] }, type := 0, pos := "ref.go:436", after := #[{ on := 0, ground := Go.Ground.data }, { on := 1, ground := Go.Ground.data }, { on := 10, ground := Go.Ground.data }, { on := 4, ground := Go.Ground.chain }], guard := none } : Oper)) rfl (fun K hK => ?_) AllReadyH.nil
              go_simp
              go_at_call 38
              refine (HN3.out w4.drew (HG4.out.of rfl)).mono ?_
              rintro e5 w5 ⟨⟨v5, rfl⟩, hG5, hC5⟩
              have HC5 : Hid (Ch (fun k => k = g) wr w5) := (HC4.out.drew).trans hC5
              have HG5 := hide hG5
              clear hG5 hC5
              go_wp2_with (fail)
              refine hK.out _ _ ?_ (fun hHeld => ?_)
              · exact HKS.out _ HC5.out
              clear hK K
              try simp only [Act.put, List.setIfInBounds_toArray, List.set_cons_zero, List.set_cons_succ]
              refine wpAnyH_done (by kernel_rfl) ?_ _
              have HK6 := hide (HKch.out _ _ HC5.out HG5.out)
              clear HG4 HC4 HG5 HC5 HKch HKS HN3
              go_wp2
              all_goals exact ⟨⟨j + 1, _, cc, by go_num, HRl, HK6⟩, by simp [intOf]; omega⟩
            · have h0 : (l != 0) = true := by simpa using h2
              have hp : decide (0 < l) = true := by have := HL0.out; simp; omega
              have hr3 : ng9 S L j = (!o) := by rw [HNG.out, hp]; rfl
              clear h1 h2 hp
              have HRl := hide (HRn.out false (!o) hr1 hr3)
              have HN3 := hide (HN2.out false (!o))
              clear hr1 hr3 HRn HU HNG HN2
              go_wp2_with (fail)
              refine (HN.out false).mono ?_
              rintro e4 w4 ⟨⟨v4, rfl⟩, hG4, hC4⟩
              have HG4 := hide hG4
              have HC4 := hide hC4
              clear hG4 hC4 HN sj cf
              go_wp2_with (fail)
              go_region_held3 (S17t fb tb g n j o) ((first | with_reducible exact HKS.out _ HC4.out.drew | with_reducible exact HKS.out _ HC5.out)) ((first | (go_at_call 38; refine (HN3.out w4.drew (HG4.out.of rfl)).mono ?_; rintro e5 w5 ⟨⟨v5, rfl⟩, hG5, hC5⟩; have HC5 : Hid (Ch (fun k => k = g) wr w5) := (HC4.out.drew).trans hC5; have HG5 := hide hG5; clear hG5 hC5) | fail "no arm"))
              have HK6 := hide (HKch.out _ _ HC5.out HG5.out)
              clear HG4 HC4 HG5 HC5 HKch HKS HN3
              go_wp2
              all_goals exact ⟨⟨j + 1, _, cc, by go_num, HRl, HK6⟩, by simp [intOf]; omega⟩
        · have hjn : n = j := by omega
          subst hjn
          have HR2 : Hid (Rl (PT S n L) n G) := HR.out
          have HV := hide (verdict_any g n G _ hn HR2.out (fun v r h => by rcases h with ⟨_, h, _⟩ | ⟨_, h, _⟩ | ⟨_, h, _⟩ <;> exact h) wr HK.out.1.2.2.1)
          have cX := HK.out.1.2.1.cell
          have HZz := hide HK.out.1.1
          have HZb := hide HK.out.1.2.2.2
          clear HR HR2 HK cc hj
          go_wp2_with (fail)
          refine HV.out.mono ?_
          rintro e4 w4 ⟨o, rfl, hL, hB4⟩
          have hz4 : w4.heap[w.heap.size]? = some (.cells z3 35 (0, 0)) := (hB4.block _ (lt_of_some HZz.out)).trans HZz.out
          have hbs := HZb.out.size
          obtain ⟨g0, g1, g2, f0, f1, f2⟩ := z35 hz4
          have HF : Hid (∀ a b c, (((w4.setCell ⟨w.heap.size, 0, none⟩ a).setCell ⟨w.heap.size, 1, none⟩ b).setCell ⟨w.heap.size, 2, none⟩ c).heap[w.heap.size]? = some (.cells #[a, b, c] 35 (0, 0)) ∧ Below w.heap.size w (((w4.setCell ⟨w.heap.size, 0, none⟩ a).setCell ⟨w.heap.size, 1, none⟩ b).setCell ⟨w.heap.size, 2, none⟩ c)) := fun a b c => by
            rw [sets3 hz4 rfl]
            exact ⟨setRow_heap _ _ _ _ _ _ hz4, below_setRow (HZb.out.trans (hB4.mono hbs)) (by omega) _⟩
          have HL := hide hL
          clear hz4 hB4 hL HV HZz HZb cX
          go_wp2
          all_goals (refine bodyPost_ret (v := .agg #[.bool (vR o), .int .u32 (vV o), .int .i64 (vK o)]) ?_ rfl ?_)
          all_goals first | exact res12 _ _ _ _ _ _ rfl (HF.out _ _ _).1 | exact ⟨o, rfl, HL.out, (HF.out _ _ _).2⟩
end Au
end Go.Proofs.Ytcepfmeoeepjdab
