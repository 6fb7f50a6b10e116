import Derived.Test.YtcepfmeoeepjdaaAvC
namespace Go.Proofs.Ytcepfmeoeepjdaa
namespace Au
open Go.RowKit
set_option linter.unusedVariables false
set_option maxRecDepth 8000
theorem Dc.fin {W : World} {cb gb n : Nat} {C : Nat → Int} (h : Dc W cb gb n C) (he : an (lb C) n = false) : GU W cb n C := by
  obtain ⟨K, G, a, b, c⟩ := h
  refine a.ext (fun v hv => ?_)
  have h1 := an_false.1 he v hv
  cases hg : G v with
  | true => exact ((c v hv).1 hg).1
  | false => have h2 := (c v hv).2 hg; unfold lb at h1; rw [h2] at h1; simp at h1
theorem lf_false {C : Nat → Int} {n : Nat} (h : an (lb C) n = false) : lf C n = 0 := by
  induction n with
  | zero => rfl
  | succ n ih =>
    simp only [an, Bool.or_eq_false_iff] at h
    simp only [lf, ih h.1, h.2]; rfl
theorem below_set {b : Nat} {w w' : World} (h : Below w.heap.size w w') (hb : w.heap.size ≤ b) (j : Nat) (v : Value) : Below w.heap.size w (w'.setCell ⟨b, j, none⟩ v) := ((Ch.of (X := fun _ => False) h).set j v (Or.inr hb)).below (fun k hk h => h) (Nat.le_refl _)
theorem meas {a b c d : Nat} (h : a < b) (h1 : c ≤ 1) : 2 * a + c < 2 * b + d := by omega
theorem meas2 {a b : Nat} {p q : Bool} (h : a = b) (hp : p = true) (hq : q = false) : 2 * a + (if p = true then 0 else 1) < 2 * b + (if q = true then 0 else 1) := by subst h hp hq; simp
theorem ite1 (p : Bool) : (if p = true then 0 else 1) ≤ 1 := by cases p <;> simp
set_option maxHeartbeats 8000000 in
theorem rcore_any (n ec : Nat) (a : Option Addr) (L : List T3) (hn : n ≤ 5000) (hlen : L.length ≤ 140737488351232) (w : World) (hE : Row3 .u32 w a L) (hI : ∀ e ∈ L, e.1 < n ∧ e.2.1 < n) :
    Calls Try.prog 22 #[.int .u32 (n : Int), .slice a L.length ec] w fun e w' => e = .returned (.slice (some ⟨w.heap.size, 0, none⟩) n n) ∧ ∃ t, an (lb (it n L t).1) n = false ∧ GU w' w.heap.size n (it n L t).1 ∧ Below w.heap.size w w' := by
  have HE := hide hE
  have HI := hide hI
  have HIk := hide (it_k n L hlen)
  have hmk1 := make_u32 w n (by omega)
  have hmk2 := make_bool (w.alloc (.cells (madeCells #[.int .u64 0] n) 28)) n (by omega)
  have HGU := GU.new w n
  have HGH := GH.new (w.alloc (.cells (madeCells #[.int .u64 0] n) 28)) n
  simp only [World.size_alloc] at hmk2 HGH
  obtain ⟨w1, hw1⟩ : ∃ w1, (w.alloc (.cells (madeCells #[.int .u64 0] n) 28)).alloc (.cells (madeCells #[.bool false] n) 4) = w1 := ⟨_, rfl⟩
  have HB1 : Hid (Below w.heap.size w w1) := by
    show Below _ _ _
    rw [← hw1]; exact bA (b1 _ _ _) (by simp) _
  have HD1 : Hid (Dc w1 w.heap.size (w.heap.size + 1) n (fun _ => NN)) := by
    refine ⟨fun _ => 0, fun _ => false, ?_, ?_, fun v hv => ⟨(fun h => by cases h), fun _ => rfl⟩⟩
    · rw [← hw1]; exact HGU.of (Below.heap_alloc _ _ _ HGU.lt)
    · rw [← hw1]; exact HGH
  have HL1 : Hid ((n : Int) = (lf (fun _ => NN) n : Nat)) := by show _ = _; rw [lf_all]
  rw [hw1] at hmk2
  clear HGU HGH hE hI
  generalize madeCells #[.int .u64 0] n = mc at *
  generalize madeCells #[.bool false] n = mb at *
  have hcv : IntKind.i64.wrap (n : Int) = n := i64w _ (by omega)
  go_enter Try.func22, Try.ntmps22
  go_wp2_with (fail)
  clear hmk1 hmk2 hw1
  go_loopw [7, 8] (fun l k wr => ∃ t : Nat, l = .int .i64 (lf (it n L t).1 n : Nat) ∧ k = .int .u64 (it n L t).2 ∧ Hid (Dc wr w.heap.size (w.heap.size + 1) n (it n L t).1) ∧ Hid (Below w.heap.size w wr)) (fun l k wr => 2 * (intOf l).toNat + (if an (tk (dI L (cgw wr w.heap.size (w.heap.size + 1))) (cgw wr w.heap.size (w.heap.size + 1)) (intOf k)) n = true then 0 else 1))
  case atStart => exact ⟨0, by rw [HL1.out]; rfl, rfl, HD1, HB1⟩
  case round =>
    clear HL1 HD1 HB1
    obtain ⟨t, rfl, rfl, HD, HB⟩ := hrel
    have hkb := HIk.out t
    have HTw := hide (HD.out.tkw HI.out (it n L t).2)
    have hln := lf_n (it n L t).1 n
    obtain ⟨l0, hl0⟩ : ∃ l0, lf (it n L t).1 n = l0 := ⟨_, rfl⟩
    obtain ⟨k0, hk0⟩ : ∃ k0, (it n L t).2 = k0 := ⟨_, rfl⟩
    obtain ⟨C, hC⟩ : ∃ C, (it n L t).1 = C := ⟨_, rfl⟩
    rw [hl0] at hln ⊢
    rw [hk0] at hkb HTw ⊢
    have HKn : Hid (k0 ≠ NN) := kne hkb.2 hlen
    rw [hC] at hl0 HD HTw
    have HCk : Hid (it n L t = (C, k0)) := Prod.ext hC hk0
    have HLl := hide hl0
    clear hC hk0 hl0 hkb
    by_cases hpos : l0 = 0
    · subst hpos
      have HEn : Hid (an (lb C) n = false) := lf_zero HLl.out
      have HG : Hid (GU wr w.heap.size n C) := HD.out.fin HEn.out
      clear HD HTw
      go_wp2
      all_goals go_ret
      all_goals exact ⟨rfl, t, by rw [HCk.out]; exact HEn.out, by rw [HCk.out]; exact HG.out, HB.out⟩
    · have hp1 : (0 : Int) < (l0 : Int) := by omega
      have HAn : Hid (an (lb C) n = true) := by
        show _ = _
        cases h9 : an (lb C) n with
        | true => rfl
        | false => exact absurd (HLl.out.symm.trans (lf_false h9)) hpos
      have hmk := make_u32 wr n (by omega)
      have hG0 := GU.new wr n
      obtain ⟨db, hdb⟩ : ∃ db, db = wr.heap.size := ⟨_, rfl⟩
      obtain ⟨w2, hw2⟩ : ∃ w2, wr.alloc (.cells (madeCells #[.int .u64 0] n) 28) = w2 := ⟨_, rfl⟩
      have hdl := HD.out.lt
      have HDb : Hid (w.heap.size ≠ db ∧ w.heap.size + 1 ≠ db) := ⟨by omega, by omega⟩
      have HBw := hide HB.out.size
      have HD2 : Hid (Dc w2 w.heap.size (w.heap.size + 1) n C) := by
        show Dc _ _ _ _ _
        rw [← hw2]; exact HD.out.of (Below.heap_alloc _ _ _ hdl.1) (Below.heap_alloc _ _ _ hdl.2)
      have HB2 : Hid (Below w.heap.size w w2) := by
        show Below _ _ _
        rw [← hw2]; exact bA2 HB.out _
      have HG2 : Hid (GU w2 db n (dI (L.take 0) C)) := by
        show GU _ _ _ _
        rw [← hw2, hdb]; exact hG0.ext (fun v hv => rfl)
      rw [← hdb, hw2] at hmk
      have HdB := hide (show w.heap.size ≤ db by have := HBw.out; omega)
      clear hG0 hw2 hdb hdl HD HB
      go_wp2_with (fail)
      clear hmk
      go_loopw [10] (fun v wr' => ∃ i : Nat, i ≤ L.length ∧ v = .int .i64 i ∧ Hid (GU wr' db n (dI (L.take i) C)) ∧ Hid (Dc wr' w.heap.size (w.heap.size + 1) n C) ∧ Hid (Below w.heap.size w wr')) (fun v _ => L.length - (intOf v).toNat)
      case atStart => exact ⟨0, Nat.zero_le _, rfl, HG2, HD2, HB2⟩
      case round =>
        clear HG2 HD2 HB2
        obtain ⟨i, hi, rfl, HG, HD, HB⟩ := hrel
        by_cases cc : i < L.length
        · have hcc : (i : Int) < (L.length : Int) := by omega
          obtain ⟨eb, rfl, heb, hce⟩ := HE.out (by omega)
          obtain ⟨⟨x, y, z⟩, hxyz⟩ : ∃ e, L[i]? = some e := ⟨L[i]'(by omega), List.getElem?_eq_getElem (by omega)⟩
          obtain ⟨hxn, hyn⟩ := HI.out _ (List.mem_of_getElem? hxyz)
          simp only at hxn hyn
          obtain ⟨c1, c2, _⟩ := cells3 (hce i _ hxyz)
          simp only at c1 c2
          have d1 := (HB.out.cell (p := eb.add (i * 3)) (by rw [add_block]; exact heb)).trans c1
          have d2 := (HB.out.cell (p := ⟨(eb.add (i * 3)).block, (eb.add (i * 3)).off + 1, none⟩) (by rw [show (⟨(eb.add (i * 3)).block, (eb.add (i * 3)).off + 1, none⟩ : Addr).block = eb.block from add_block _ _]; exact heb)).trans c2
          have HTk : Hid (∀ v, dI (L.take (i + 1)) C v = dI (L.take i) C v + (inc C (x, y, z) v : Nat)) := fun v => by
            unfold dI; rw [take_succ hxyz, dg_app]; simp
          have gx := HG.out.cell x hxn
          have gy := HG.out.cell y hyn
          have ox := HD.out.g x hxn
          have oy := HD.out.g y hyn
          have HSk : Hid ((∀ v, inc C (x, y, z) v = 0) → GU wr db n (dI (L.take (i + 1)) C)) := fun h0 => HG.out.ext (fun v hv => by rw [HTk.out v, h0 v]; simp)
          have bx := dI_b (L.take i) C x
          have by' := dI_b (L.take i) C y
          have htl : (L.take i).length ≤ L.length := by rw [List.length_take]; omega
          have HD5 := HD
          clear c1 c2 hce heb hxyz hi
          by_cases hxy : x = y
          · subst hxy
            have HE1 := hide (HSk.out (fun v => inc_same C x z v))
            have hxb : ((x : Int) != (x : Int)) = false := by simp
            clear HSk HTk HG
            go_wp2
            all_goals exact ⟨⟨i + 1, cc, by go_num, HE1, HD, HB⟩, by simp [intOf]; omega⟩
          · have hxb : ((x : Int) != (y : Int)) = true := by simp; omega
            cases hbx : lb C x with
            | false =>
              have HE1 := hide (HSk.out (fun v => by unfold inc; rw [if_neg (fun h => by unfold lb at hbx; simp at hbx; exact hbx h.2.1)]))
              rw [hbx] at ox
              simp only [Bool.not_false] at ox
              clear HSk HTk HG hbx
              go_wp2
              all_goals exact ⟨⟨i + 1, cc, by go_num, HE1, HD, HB⟩, by simp [intOf]; omega⟩
            | true =>
              rw [hbx] at ox
              simp only [Bool.not_true] at ox
              cases hby : lb C y with
              | false =>
                have HE1 := hide (HSk.out (fun v => by unfold inc; rw [if_neg (fun h => by unfold lb at hby; simp at hby; exact hby h.2.2)]))
                rw [hby] at oy
                simp only [Bool.not_false] at oy
                clear HSk HTk HG hbx hby
                go_wp2
                all_goals exact ⟨⟨i + 1, cc, by go_num, HE1, HD, HB⟩, by simp [intOf]; omega⟩
              | true =>
                rw [hby] at oy
                simp only [Bool.not_true] at oy
                have wx : IntKind.u64.wrap (dI (L.take i) C x + 1) = dI (L.take i) C x + 1 := wu _ (by omega) (by omega)
                have wy : IntKind.u64.wrap (dI (L.take i) C y + 1) = dI (L.take i) C y + 1 := wu _ (by omega) (by omega)
                have hfx := HG.out.fz x
                have hG1 := (HG.out.set x (dI (L.take i) C x + 1)).1
                have hfy := hG1.fz y
                have gy1 := hG1.cell y hyn
                rw [up_ne _ _ _ _ (fun e => hxy e.symm)] at gy1
                have hG2 := (hG1.set y (dI (L.take i) C y + 1)).1
                have HE1 : Hid (GU ((wr.setCell ⟨db, x, none⟩ (.int .u64 (dI (L.take i) C x + 1))).setCell ⟨db, y, none⟩ (.int .u64 (dI (L.take i) C y + 1))) db n (dI (L.take (i + 1)) C)) := hG2.ext (fun v hv => by
                  have hi : inc C (x, y, z) v = (if v = x then 1 else 0) + (if v = y then 1 else 0) := by
                    unfold inc
                    rw [if_pos ⟨hxy, by unfold lb at hbx; simpa using hbx, by unfold lb at hby; simpa using hby⟩]
                  rw [HTk.out v, hi]
                  by_cases e1 : v = y
                  · subst e1; rw [up_eq, if_neg (fun e => hxy e.symm), if_pos rfl]; simp
                  · rw [up_ne _ _ _ _ e1, if_neg e1]
                    by_cases e2 : v = x
                    · subst e2; rw [up_eq, if_pos rfl]; simp
                    · rw [up_ne _ _ _ _ e2, if_neg e2]; simp)
                have HD1 : Hid (Dc ((wr.setCell ⟨db, x, none⟩ (.int .u64 (dI (L.take i) C x + 1))).setCell ⟨db, y, none⟩ (.int .u64 (dI (L.take i) C y + 1))) w.heap.size (w.heap.size + 1) n C) := HD.out.of ((Below.heap_setCell _ _ _ _ HDb.out.1).trans (Below.heap_setCell _ _ _ _ HDb.out.1)) ((Below.heap_setCell _ _ _ _ HDb.out.2).trans (Below.heap_setCell _ _ _ _ HDb.out.2))
                have HB1 : Hid (Below w.heap.size w ((wr.setCell ⟨db, x, none⟩ (.int .u64 (dI (L.take i) C x + 1))).setCell ⟨db, y, none⟩ (.int .u64 (dI (L.take i) C y + 1)))) := below_set (below_set HB.out HdB.out _ _) HdB.out _ _
                obtain ⟨vx', hvx⟩ : ∃ q, dI (L.take i) C x = q := ⟨_, rfl⟩
                obtain ⟨vy', hvy⟩ : ∃ q, dI (L.take i) C y = q := ⟨_, rfl⟩
                rw [hvx] at gx wx gy1 HE1 HD1 HB1 hfy
                rw [hvy] at gy wy gy1 HE1 HD1 HB1
                clear HSk HTk HG hbx hby hG1 hG2 HD hvx hvy bx by'
                go_wp2
                all_goals exact ⟨⟨i + 1, cc, by go_num, HE1, HD1, HB1⟩, by simp [intOf]; omega⟩
        · have him : i = L.length := by omega
          subst him
          rw [List.take_length] at HG
          obtain ⟨D, hD⟩ : ∃ D, dI L C = D := ⟨_, rfl⟩
          have HDb' : Hid (∀ v, v < n → D v < NN) := fun v _ => by
            rw [← hD]; exact Int.lt_of_le_of_lt (dI_b L C v).2 (by show 2 * (L.length : Int) < 18446744073709551615; omega)
          have HDD := hide hD
          rw [hD] at HG HTw
          clear hD cc hi
          have HD0 : Hid (Dc wr w.heap.size (w.heap.size + 1) n (cj D C k0 0)) := HD.out.ext (fun v hv => by unfold cj; rw [if_neg (by omega)])
          have HG0 := HG
          have HB0 := HB
          have HL0 : Hid (l0 = lf (cj D C k0 0) n) := by show _ = _; rw [← HLl.out]; exact lf_ext (fun v hv => by unfold cj; rw [if_neg (by omega)])
          clear HD HG HB
          go_wp2_with (fail)
          go_loopw [13, 14, 7, 15] (fun tv lv l' i' wr' => ∃ (j : Nat) (mm : Int) (ll : Nat), j ≤ n ∧ i' = .int .i64 j ∧ tv = .bool (an (tk D C k0) j) ∧ lv = .int .u64 mm ∧ l' = .int .i64 ll ∧ Hid (ll = lf (cj D C k0 j) n) ∧ Hid (an (tk D C k0) j = false → mm = ls D C j) ∧ Hid (Dc wr' w.heap.size (w.heap.size + 1) n (cj D C k0 j)) ∧ Hid (GU wr' db n D) ∧ Hid (Below w.heap.size w wr')) (fun _ _ _ i' _ => n - (intOf i').toNat)
          case atStart => exact ⟨0, _, l0, Nat.zero_le _, rfl, rfl, rfl, rfl, HL0, fun _ => rfl, HD0, HG0, HB0⟩
          case round =>
            clear HL0 HD0 HG0 HB0
            obtain ⟨j, mm, ll, hj, rfl, rfl, rfl, rfl, HLL, HMM, HD, HG, HB⟩ := hrel
            by_cases cc : j < n
            · have hcc : (j : Int) < (n : Int) := by omega
              have oj := HD.out.g j cc
              have hlb : lb (cj D C k0 j) j = lb C j := by unfold lb; rw [cj_at]
              have dj := HG.out.cell j cc
              rw [hlb] at oj
              cases hb : lb C j with
              | false =>
                have ht : tk D C k0 j = false := by unfold tk; rw [hb]; rfl
                have HA : Hid (an (tk D C k0) j = an (tk D C k0) (j + 1)) := by show _ = _; simp only [an, ht]; simp
                have HM1 : Hid (an (tk D C k0) (j + 1) = false → mm = ls D C (j + 1)) := fun h9 => by
                  rw [← HA.out] at h9
                  rw [HMM.out h9]; simp [ls, hb]
                have HC1 := hide (cj_f (D := D) (C := C) (k := k0) ht)
                rw [hb] at oj
                simp only [Bool.not_false] at oj
                rw [← HC1.out] at HLL HD
                clear ht hb hlb HMM
                go_wp2
                all_goals exact ⟨⟨j + 1, mm, ll, cc, by go_num, by rw [HA.out], rfl, rfl, HLL, HM1, HD, HG, HB⟩, by simp [intOf]; omega⟩
              | true =>
                rw [hb] at oj
                simp only [Bool.not_true] at oj
                by_cases hk : D j ≤ k0
                · have ht : tk D C k0 j = true := by unfold tk; rw [hb]; simp [hk]
                  have HA : Hid (an (tk D C k0) (j + 1) = true) := by show _ = _; simp only [an, ht]; simp
                  have hlu := lf_up (C := cj D C k0 j) (k := k0) cc (by rw [hlb]; exact hb) HKn.out
                  rw [← cj_t ht] at hlu
                  have hll := HLL.out
                  have hl1 : 1 ≤ ll := by omega
                  have hln2 := lf_n (cj D C k0 j) n
                  have HLL1 : Hid (ll - 1 = lf (cj D C k0 (j + 1)) n) := (by show _ = _; omega)
                  have hsub : IntKind.i64.wrap ((ll : Int) - 1) = ((ll - 1 : Nat) : Int) := by
                    rw [show (ll : Int) - 1 = ((ll - 1 : Nat) : Int) by omega]; exact i64w _ (by omega)
                  obtain ⟨hT1, ⟨cx, hcx⟩, hcf⟩ := HD.out.take j cc k0 HKn.out
                  have hfz := (HD.out.fz j).1
                  have HD1 : Hid (Dc ((wr.setCell ⟨w.heap.size + 1, j, none⟩ (.bool true)).setCell ⟨w.heap.size, j, none⟩ (.int .u64 k0)) w.heap.size (w.heap.size + 1) n (cj D C k0 (j + 1))) := by
                    show Dc _ _ _ _ _
                    rw [cj_t ht]; exact hT1
                  have HG1 : Hid (GU ((wr.setCell ⟨w.heap.size + 1, j, none⟩ (.bool true)).setCell ⟨w.heap.size, j, none⟩ (.int .u64 k0)) db n D) := HG.out.of ((Below.heap_setCell _ _ _ _ (fun e => HDb.out.1 e.symm)).trans (Below.heap_setCell _ _ _ _ (fun e => HDb.out.2 e.symm)))
                  have HB1 : Hid (Below w.heap.size w ((wr.setCell ⟨w.heap.size + 1, j, none⟩ (.bool true)).setCell ⟨w.heap.size, j, none⟩ (.int .u64 k0))) := below_set (below_set HB.out (by omega) _ _) (Nat.le_refl _) _ _
                  have HM1 : Hid (an (tk D C k0) (j + 1) = false → mm = ls D C (j + 1)) := fun h9 => by rw [HA.out] at h9; cases h9
                  clear ht hb hlb hlu hll hln2 HLL HMM HD HG HB hT1
                  go_wp2
                  all_goals exact ⟨⟨j + 1, mm, ll - 1, cc, by go_num, by rw [HA.out], rfl, rfl, HLL1, HM1, HD1, HG1, HB1⟩, by simp [intOf]; omega⟩
                · have ht : tk D C k0 j = false := by unfold tk; rw [hb]; simp [hk]
                  have HA : Hid (an (tk D C k0) j = an (tk D C k0) (j + 1)) := by show _ = _; simp only [an, ht]; simp
                  have HM1 : Hid (an (tk D C k0) (j + 1) = false → min mm (D j) = ls D C (j + 1)) := fun h9 => by
                    rw [← HA.out] at h9
                    rw [HMM.out h9]; simp [ls, hb]
                  have HC1 := hide (cj_f (D := D) (C := C) (k := k0) ht)
                  rw [← HC1.out] at HLL HD
                  clear ht hb hlb HMM
                  by_cases h1 : mm < D j
                  · have HM2 : Hid (an (tk D C k0) (j + 1) = false → mm = ls D C (j + 1)) := fun h9 => by rw [← HM1.out h9, Int.min_eq_left (by omega)]
                    go_wp2
                    all_goals exact ⟨⟨j + 1, mm, ll, cc, by go_num, by rw [HA.out], rfl, rfl, HLL, HM2, HD, HG, HB⟩, by simp [intOf]; omega⟩
                  · have HM2 : Hid (an (tk D C k0) (j + 1) = false → D j = ls D C (j + 1)) := fun h9 => by rw [← HM1.out h9, Int.min_eq_right (by omega)]
                    by_cases h2 : D j < mm
                    · go_wp2
                      all_goals exact ⟨⟨j + 1, D j, ll, cc, by go_num, by rw [HA.out], rfl, rfl, HLL, HM2, HD, HG, HB⟩, by simp [intOf]; omega⟩
                    · have h3 : mm = D j := by omega
                      subst h3
                      go_wp2
                      all_goals exact ⟨⟨j + 1, D j, ll, cc, by go_num, by rw [HA.out], rfl, rfl, HLL, HM2, HD, HG, HB⟩, by simp [intOf]; omega⟩
            · have hjn : j = n := by omega
              subst hjn
              have HTt := HTw.out
              cases hta : an (tk D C k0) j with
              | true =>
                have hs : it j L (t + 1) = (nC D C k0, k0) := by
                  show stp j L (it j L t) = _
                  rw [HCk.out, stp_take (by show an (tk (dI L C) C k0) j = true; rw [HDD.out]; exact hta)]
                  show (nC (dI L C) C k0, k0) = _
                  rw [HDD.out]
                have hce : ∀ v, v < j → cj D C k0 j v = nC D C k0 v := fun v hv => cj_n v hv
                have HD1 : Hid (Dc wr w.heap.size (w.heap.size + 1) j (it j L (t + 1)).1) := by
                  show Dc _ _ _ _ _
                  rw [hs]; exact HD.out.ext hce
                have HLe : Hid (ll = lf (it j L (t + 1)).1 j) := by
                  show _ = _
                  rw [hs, HLL.out]; exact lf_ext hce
                have HLt : Hid (ll < l0) := by
                  show _ < _
                  rw [HLL.out, ← HLl.out, lf_ext hce]; exact lf_lt HKn.out j hta
                have HS := hide hs
                clear hs hce HMM HLL HTt
                go_wp2
                refine ⟨⟨t + 1, by rw [← HLe.out], by rw [HS.out], HD1, HB⟩, ?_⟩
                exact meas HLt.out (ite1 _)
              | false =>
                have hm9 : mm = ls D C j := HMM.out hta
                have hs : it j L (t + 1) = (C, ls D C j) := by
                  show stp j L (it j L t) = _
                  rw [HCk.out, stp_least (by show an (tk (dI L C) C k0) j = false; rw [HDD.out]; exact hta) HAn.out]
                  show (C, ls (dI L C) C j) = _
                  rw [HDD.out]
                have hce : ∀ v, v < j → cj D C k0 j v = C v := fun v hv => (cj_n v hv).trans (nC_none hta v hv)
                have hD9 : Dc wr w.heap.size (w.heap.size + 1) j C := HD.out.ext hce
                have HD1 : Hid (Dc wr w.heap.size (w.heap.size + 1) j (it j L (t + 1)).1) := by
                  show Dc _ _ _ _ _
                  rw [hs]; exact hD9
                have HLe : Hid (ll = lf (it j L (t + 1)).1 j) := by
                  show _ = _
                  rw [hs, HLL.out]; exact lf_ext hce
                have HL2 : Hid (ll = l0) := by
                  show _ = _
                  rw [HLL.out, ← HLl.out]; exact lf_ext hce
                have hT2 := tk_ls HAn.out HDb'.out
                have hT3 := (hD9.tkw HI.out (ls D C j))
                rw [HDD.out, hT2] at hT3
                have HT3 := hide hT3
                have HT4 : Hid (_ = false) := hide (HTt.trans hta)
                have HS := hide hs
                subst hm9
                clear hs hce HMM HLL HTt hD9 hT2 hT3
                go_wp2
                refine ⟨⟨t + 1, by rw [← HLe.out], by rw [HS.out], HD1, HB⟩, ?_⟩
                exact meas2 HL2.out HT3.out HT4.out
end Au
end Go.Proofs.Ytcepfmeoeepjdaa
