import Derived.Test.YtclgbificccadaaSvZ
import Derived.Deep.DeepCutAuto
import Derived.BigRegion
namespace Go.Proofs.Ytclgbificccadaa
namespace Sv
open Go.RowKit Go.Shelf
set_option linter.unusedVariables false
attribute [local go_sem] Oper.semAt_some
theorem Rv.two {g ga gb : Nat} {t : TypeId} {w w' : World} {L : List Value} (h : Rv w g t L) (ht : Two ga gb w w') (h1 : g ≠ ga) (h2 : g ≠ gb) : Rv w' g t L := ht.rv h h1 h2
/-- b while its records become 99. -/
def b99 (j m : Nat) : List T3 := List.replicate j r99 ++ List.replicate (m - j) (0, 0, 0)
theorem b99_len (j m : Nat) (h : j ≤ m) : (b99 j m).length = m := by simp [b99]; omega
theorem b99_get (j m : Nat) (h : j < m) : (b99 j m)[j]? = some (0, 0, 0) := by
  unfold b99
  rw [List.getElem?_append_right (by simp), List.length_replicate, Nat.sub_self, List.getElem?_replicate, if_pos (by omega)]
theorem b99_set (j m : Nat) (h : j < m) : (b99 j m).set j r99 = b99 (j + 1) m := by
  unfold b99
  rw [List.set_append_right _ _ (by simp)]
  simp only [List.length_replicate, Nat.sub_self]
  rw [show m - j = (m - (j + 1)) + 1 by omega, List.replicate_succ, List.set_cons_zero, List.replicate_succ', List.append_assoc]
  rfl
theorem cl_set0 (M : List T3) (T : List Value) (q : Nat) (e : T3) (x : Int) (h : M[q]? = some e) : (cl .u64 M ++ T).set (q * 3) (.int .u32 x) = cl .u64 (M.set q (x, e.2)) ++ T := by
  have hq := (List.getElem?_eq_some_iff.1 h).1
  have h2 := cl_set_app M T q (x, e.2) hq
  rw [← h2]
  obtain ⟨a, b, c⟩ := cl_get .u64 M q e h
  have hl := cl_len .u64 M
  apply List.ext_getElem?
  intro i
  have e1 : (cl .u64 M ++ T)[q * 3 + 1]? = some (.int .u64 e.2.1) := by rw [List.getElem?_append_left (by omega)]; exact b
  have e2 : (cl .u64 M ++ T)[q * 3 + 2]? = some (.int .u64 e.2.2) := by rw [List.getElem?_append_left (by omega)]; exact c
  have hL : q * 3 + 2 < (cl .u64 M ++ T).length := by rw [List.length_append]; omega
  generalize cl .u64 M ++ T = Z at *
  simp only [List.getElem?_set, List.length_set]
  by_cases h1 : q * 3 + 2 = i
  · subst h1
    rw [if_neg (by omega), if_pos rfl, if_pos hL, e2]
  · rw [if_neg h1]
    by_cases h3 : q * 3 + 1 = i
    · subst h3
      rw [if_neg (by omega), if_pos rfl, if_pos (by omega), e1]
    · rw [if_neg h3]
/-- What the loop over the parts reads. -/
abbrev CA (x : Addr) (j : Nat) (e : T3) (B2 : Nat) (N K : Int) (W : World) : Prop := W.cell? ⟨B2, 0, none⟩ = some (.int .u32 N) ∧ W.cell? ⟨B2, 1, none⟩ = some (.int .i64 K) ∧ W.cell? (x.add (j * 3)) = some (.int .u32 e.1)
set_option maxRecDepth 20000 in
set_option maxHeartbeats 8000000 in
theorem shuffles_any (a : Option Addr) (c : Nat) (L : List T3) (n k parts more fan : Int) (hn0 : 0 ≤ n) (hn1 : n ≤ 4294967295) (hmo : -9223372036854775808 ≤ more ∧ more ≤ 9223372036854775807) (w : World) (hl : L.length * 24 ≤ 140737488351232) (hr : Row3 .u64 w a L) (hu : ∀ e ∈ L, 0 ≤ e.1 ∧ e.1 ≤ 4294967295) :
    Calls Try.prog 7 #[.int .u32 n, .int .i64 k, .int .i64 parts, .slice a L.length c, .int .i64 more, .int .i64 fan] w fun e w' => e = .returned (.bool true) ∧ Below w.heap.size w w' := by
  have HR : Hid (∀ W, Below w.heap.size w W → Row3 .u64 W a L) := fun W hW => hr.on hW (Nat.le_refl _)
  have HU : Hid (∀ e ∈ L, 0 ≤ e.1 ∧ e.1 ≤ 4294967295) := hu
  obtain ⟨N, K, F0, hNK, hsp, hrs⟩ := split_both n k hn0 hn1
  have HV : Hid (Vx N K L) := fun e he => ⟨hNK.elim .inl (fun h => .inr (by have := hu e he; omega)), (hu e he).1, (hu e he).2⟩
  have HSP : Hid (∀ w, Calls Try.prog 12 #[.int .u32 n, .int .i64 k] w fun e w' => e = .returned (.tuple #[rg N K, .int .i64 F0]) ∧ Below w.heap.size w w') := hsp
  have HRS : Hid (∀ w, Calls Try.prog 16 #[.int .u32 n, .int .i64 k] w fun e w' => e = .returned (.tuple #[rg N K, .int .i64 F0]) ∧ Below w.heap.size w w') := hrs
  clear hr hu hsp hrs hNK
  obtain ⟨hm1, hm2⟩ := hmo
  go_enter Try.func7, Try.ntmps7
  go_wp2_with (fail)
  refine (HSP.out _).mono ?_
  rintro e1 w1 ⟨rfl, hb1⟩
  go_wp2_with (fail)
  refine (HRS.out _).mono ?_
  rintro e2 w2 ⟨rfl, hb2⟩
  have hx1 : Rv w2 w1.heap.size 39 [.int .u32 N, .int .i64 K] := (Rv.new w1 39 _).on hb2 (by simp)
  have hs1 := hb1.size
  have hB2 : Below w.heap.size w w2 := (hb1.alloc hs1 _).trans (hb2.mono (by simp; omega))
  have hx1l := hx1.lt
  generalize w1.heap.size = B1 at *
  clear hb1 hb2 HSP HRS
  go_upto_region 3 with (fail)
  have hx2 : Rv (w2.alloc (.cells #[.int .u32 N, .int .i64 K] 53)) w2.heap.size 53 [.int .u32 N, .int .i64 K] := Rv.new w2 53 _
  have hx1' := hx1.alloc (.cells #[.int .u32 N, .int .i64 K] 53)
  have hB3 : Below w.heap.size w (w2.alloc (.cells #[.int .u32 N, .int .i64 K] 53)) := hB2.alloc hB2.size _
  have hs3 : w2.heap.size < (w2.alloc (.cells #[.int .u32 N, .int .i64 K] 53)).heap.size := by simp
  generalize hW3 : w2.alloc (.cells #[.int .u32 N, .int .i64 K] 53) = W3 at *
  generalize w2.heap.size = B2 at *
  clear hW3 hx1 hB2
  go_cut [17] (fun v wx => (∃ x : Int, -(L.length : Int) ≤ x ∧ x ≤ 100 ∧ v = .int .i64 x) ∧ wx = W3)
  case first =>
    as_aux_lemma =>
      go_wp2_with (fail)
      all_goals
        go_meet
        exact ⟨⟨_, by omega, by omega, rfl⟩, rfl⟩
  case rest =>
    obtain ⟨⟨x, hxa, hxb, rfl⟩, hwc⟩ := hcut
    subst wc
    clear hm1 hm2
    obtain ⟨m, hm⟩ : ∃ m : Nat, (m : Int) = (L.length : Int) + x := ⟨((L.length : Int) + x).toNat, by omega⟩
    have hml : m ≤ L.length + 100 := by omega
    have hls : (L.length + 2) * 24 ≤ 140737488355328 := by omega
    have hms : (m + 2) * 24 ≤ 140737488355328 := by omega
    have HM : Hid (∀ W, Calls Try.prog 24 #[.slice none 0 0, .int .i64 ((L.length : Int) + x)] W fun e w' => ∃ g cap T, e = .returned (.slice (some ⟨g, 0, none⟩) m cap) ∧ m + 2 ≤ cap ∧ W.heap.size ≤ g ∧ Below W.heap.size W w' ∧ Rv w' g 44 (cl .u64 (b99 0 m ++ [m77, m78]) ++ T)) := fun W => by
      have h := updates_any none 0 [] m hms W (fun h => by simp at h)
      rw [ups_nil, hm] at h
      exact h
    have hxw : IntKind.i64.wrap ((L.length : Int) + x) = (L.length : Int) + x := by simp only [IntKind.wrap, IntKind.signed, IntKind.bits]; simp; omega
    have hs3' := hB3.size
    go_wp2_with (fail)
    refine (updates_any a c L L.length hls W3 (HR.out W3 hB3)).mono ?_
    rintro e1 w4 ⟨ga, ca, T1, rfl, hca, hga, hb4, hA4⟩
    rw [ups_self] at hA4
    have hB4 := hB3.trans (hb4.mono hs3')
    have hs4 := hb4.size
    have hx1'' := hx1'.on hb4 (by omega)
    have hx2'' := hx2.on hb4 (by omega)
    have hgal := hA4.lt
    clear hb4 hx1' hx2 hB3 hls
    go_wp2_with (fail)
    refine (HM.out w4).mono ?_
    rintro e1 w5 ⟨gb, cb, T2, rfl, hcb, hgb, hb5, hA5⟩
    have hB5 := hB4.trans (hb5.mono hB4.size)
    have hx1 := hx1''.on hb5 (by omega)
    have hx2 := hx2''.on hb5 (by omega)
    have hA := hA4.on hb5 (by omega)
    have hgbl := hA5.lt
    clear hb5 hx1'' hx2'' hB4 hA4 HM hxw hm hxa hxb
    have hab : ga ≠ gb := by omega
    go_wp2
    go_loopw [20] (fun i wr => ∃ j : Nat, j ≤ m ∧ i = .int .i64 (j : Int) ∧ Two gb gb w5 wr ∧ Rv wr gb 44 (cl .u64 (b99 j m ++ [m77, m78]) ++ T2)) (fun i _ => m - (intOf i).toNat)
    case atStart => exact ⟨0, Nat.zero_le _, rfl, Two.refl _ _ _, hA5⟩
    case round =>
      clear hA5
      obtain ⟨j, hj, rfl, hT, hV⟩ := hrel
      by_cases hjm : j < m
      · as_aux_lemma =>
          have hjm' : (j : Int) < (m : Int) := by omega
          have hb9 := b99_get j m hjm
          have hb9' : (b99 j m ++ [m77, m78])[j]? = some (0, 0, 0) := by rw [List.getElem?_append_left (by rw [b99_len j m (by omega)]; exact hjm)]; exact hb9
          obtain ⟨y0, y1, y2⟩ := hV.cells3 hb9'
          have f0 := hV.frozen (j * 3)
          have HN : Hid (Two gb gb w5 (wr.setCell ⟨gb, j * 3, none⟩ (.int .u32 99)) ∧ Rv (wr.setCell ⟨gb, j * 3, none⟩ (.int .u32 99)) gb 44 (cl .u64 (b99 (j + 1) m ++ [m77, m78]) ++ T2)) := by
            refine ⟨hT.set _ _ (.inl rfl), ?_⟩
            have h := hV.set (j * 3) (.int .u32 99)
            rw [cl_set0 _ _ _ _ 99 hb9', List.set_append_left _ _ (by rw [b99_len j m (by omega)]; exact hjm), b99_set j m hjm] at h
            exact h
          clear hT hV hb9 hb9' HR HU HV hx1 hx2 hA hB5
          go_wp2
          exact ⟨⟨j + 1, by omega, by go_num, HN.out.1, HN.out.2⟩, by simp [intOf]; omega⟩
      · obtain rfl : m = j := by omega
        have hb : b99 m m = List.replicate m r99 := by unfold b99; rw [Nat.sub_self]; simp
        rw [hb] at hV
        replace hx1 := hx1.two hT (by omega) (by omega)
        replace hx2 := hx2.two hT (by omega) (by omega)
        replace hA := hA.two hT hab hab
        replace hB5 : Below w.heap.size w wr := hB5.trans (hT.toBelow (B := w.heap.size) (by have := hB5.size; omega) (by have := hB5.size; omega) (by have := hB5.size; omega))
        have hT5 := hT.size
        clear hT hb
        generalize wr = W0 at *
        as_aux_lemma =>
          have c0 : W0.cell? ⟨B1, 0, none⟩ = some (.int .u32 N) := hx1.cell rfl
          have c1 : W0.cell? ⟨B1, 1, none⟩ = some (.int .i64 K) := hx1.cell rfl
          have HA : Hid (Rv W0 ga 44 (cl .u64 (L ++ [m77, m78]) ++ T1) ∧ Rv W0 gb 44 (cl .u64 (List.replicate m r99 ++ [m77, m78]) ++ T2) ∧ Rv W0 B2 53 [.int .u32 N, .int .i64 K] ∧ Below w.heap.size w W0) := ⟨hA, hV, hx2, hB5⟩
          have hBs := hB5.size
          clear hA hV hx1 hx2 hB5
          go_wp2_with (fail)
          refine (shuffle_all N K parts fan L (by omega) HV.out ca m cb ga gb T1 T2 hab hca hcb W0 HA.out.1 HA.out.2.1).mono ?_
          rintro e6 w6 ⟨v1, v2, v3, rfl, hP⟩
          have hT6 := hP.two
          have hs6 := hT6.size
          have hB6 : Below w.heap.size w w6 := HA.out.2.2.2.trans (hT6.toBelow (B := w.heap.size) hBs (by omega) (by omega))
          have hx2 : Rv w6 B2 53 [.int .u32 N, .int .i64 K] := HA.out.2.2.1.two hT6 (by omega) (by omega)
          have hB2l := hx2.lt
          have HP : Hid (PH N K parts fan L m ga gb T1 T2 W0 v1 v2 v3 w6) := hP
          have HX2 : Hid (Rv w6 B2 53 [.int .u32 N, .int .i64 K]) := hx2
          have HB6 : Hid (Below w.heap.size w w6) := hB6
          have hw6 := hB6.size
          clear hP c0 c1 hx2 hB6 hT6
          go_wp2_with (fail)
          refine (rstages_any parts fan w6).mono ?_
          rintro e7 w7 ⟨hst, h7⟩
          subst w7
          obtain ⟨s, F, rfl⟩ := hst.ints
          have HST : Hid (St parts fan (.returned (.tuple #[.int .i64 s, .int .i64 F]))) := hst
          clear hst
          rcases HP.out with ⟨s', F', hF', hst', rfl, rfl, rfl, hb⟩ | ⟨s', hst', hmn, rfl, rfl, rfl, hb⟩ | ⟨s', kk, hst', hmn, rfl, hk2, hG, rfl, rfl, rfl, hb⟩ | ⟨s', kk, ff, hst', hmn, rfl, rfl, hk2, hG, hSG⟩
          · as_aux_lemma =>
              obtain ⟨rfl, rfl⟩ := HST.out.eq hst'
              have hFb : (F == 0) = false := by simp; exact hF'
              clear hst'
              go_wp2
              go_loopw [27, 26] (fun i v wr => ∃ j : Nat, j ≤ L.length ∧ i = .int .i64 (j : Int) ∧ wr.ownsRow w6.heap.size 3 1 v j (iv ((ats N K L).take j)) ∧ Below w6.heap.size w6 wr) (fun i _ _ => L.length - (intOf i).toNat)
              case atStart => exact ⟨0, Nat.zero_le _, rfl, World.ownsRow_nil _ _ _ _, Below.refl _ _⟩
              case round =>
                obtain ⟨j, hj, rfl, hO, hB⟩ := hrel
                by_cases hjl : j < L.length
                · as_aux_lemma =>
                    obtain ⟨e, he⟩ : ∃ e, L[j]? = some e := ⟨L[j], List.getElem?_eq_getElem hjl⟩
                    have hBW := HB6.out.trans (hB.mono hw6)
                    obtain ⟨x9, rfl, hx⟩ := HR.out wr hBW (by omega)
                    have hjl' : (j : Int) < (L.length : Int) := by omega
                    have HK : Hid (∀ W, Below w6.heap.size w6 W → CA x9 j e B2 N K W) := fun W hW => by
                      obtain ⟨x', hx', hA⟩ := HR.out W (HB6.out.trans (hW.mono hw6)) (by omega)
                      cases hx'
                      obtain ⟨q0, q1, q2⟩ := cells3 (hA.2 j e he)
                      exact ⟨(HX2.out.on hW hB2l).cell rfl, (HX2.out.on hW hB2l).cell rfl, q0⟩
                    have hve := HV.out e (List.mem_of_getElem? he)
                    have HPT : Hid (∀ W, Calls Try.prog 19 #[.agg #[.int .u32 N, .int .i64 K], .int .u32 e.1] W (fun e' w' => e' = .returned (.int .i64 (pt N K e.1)) ∧ Below W.heap.size W w')) := fun W => rpart_any N K e.1 hve.1 hve.2.1 hve.2.2 W
                    have HT : Hid ((ats N K L).take (j + 1) = (ats N K L).take j ++ [pt N K e.1]) := take_snoc (ats_get he)
                    have HO : Hid (wr.ownsRow w6.heap.size 3 1 u26 j (iv ((ats N K L).take j))) := hO
                    have hd9 : Below w6.heap.size w6 wr.drew := hB.drew
                    have hK9 : Hid (CA x9 j e B2 N K wr.drew) := HK.out _ hd9
                    have hwr := hB.size
                    clear hx he hve hO hB hBW HV HR HU HA HP HX2 HB6 HST
                    try clear hmn'
                    try clear hmn
                    try clear hG
                    try clear hXY
                    try clear hXl
                    try clear hYl
                    try clear hRs
                    try clear hRa
                    try clear hRb
                    try clear hT6
                    try clear hb
                    go_wp2
                    go_region_held3 (CA x9 j e B2 N K) ((first | with_reducible exact HK.out _ hB9 | with_reducible exact HK.out _ hd8 | with_reducible exact hK9.out))
                      ((first
                        | (go_at_call 19; refine (HPT.out _).mono ?_; rintro e5 w5 ⟨rfl, o5⟩; (replace hd9 := hd9.trans (o5.mono hwr)); (replace hK9 : Hid (CA x9 j e B2 N K w5) := HK.out w5 hd9); have HO5 : Hid (w5.ownsRow w6.heap.size 3 1 u26 j (iv ((ats N K L).take j))) := own_below (w := wr.drew) HO.out o5; have hw5 := hd9.size; have hd8 : Below w6.heap.size w6 (w5.alloc (.cells #[.int .i64 (pt N K e.1)] 3)) := hd9.alloc hw5 _; clear o5)
                        | (refine step_append1 (by rfl) _ _ (by rfl) w6.heap.size u26 w5.heap.size 1 j ((ats N K L).take j) (pt N K e.1) (by rfl) (HO5.out.alloc _) (by rfl) (by simp) (by omega) (by simp only [World.size_alloc]; omega) ?_; intro v9 w9 hown9 hgr9 hat9; have hB9 : Below w6.heap.size w6 w9 := hd8.grown hgr9 (by simp only [World.size_alloc]; omega) (fun j hj => (HO5.out.lt j hj).1))))
                    have HF : Hid (w9.ownsRow w6.heap.size 3 1 v9 (j + 1) (iv ((ats N K L).take (j + 1))) ∧ Below w6.heap.size w6 w9) := ⟨by rw [HT.out]; exact hown9, hB9⟩
                    clear hown9 hgr9 hat9 hB9 HO5 HO HT HK HPT hd8 hd9 hK9
                    go_wp2
                    exact ⟨⟨j + 1, by omega, by go_num, HF.out.1, HF.out.2⟩, by simp [intOf]; omega⟩
                · as_aux_lemma =>
                    obtain rfl : j = L.length := by omega
                    obtain ⟨F3, hF3⟩ : ∃ F3, F3 = F := ⟨_, rfl⟩
                    rw [← hF3] at hFb hF' ⊢
                    clear hF3 HST
                    have hB7 : Below w.heap.size w wr := HB6.out.trans (hB.mono hw6)
                    have hAb : Rv wr ga 44 (cl .u64 (L ++ [m77, m78]) ++ T1) := (HA.out.1.on hb HA.out.1.lt).on hB (by have := HA.out.1.lt; omega)
                    have hBb : Rv wr gb 44 (cl .u64 (List.replicate m r99 ++ [m77, m78]) ++ T2) := (HA.out.2.1.on hb HA.out.2.1.lt).on hB (by have := HA.out.2.1.lt; omega)
                    clear hO hB HA HP HX2 HB6 HV HU hb

                    go_wp2_with (fail)
                    refine (marked_any ga ca L.length L T1 rfl hca (by omega) _ hAb).mono ?_
                    rintro e8 w8' ⟨rfl, h8⟩
                    subst w8'
                    go_wp2_with (fail)
                    refine (marked_any gb cb m (List.replicate m r99) T2 (by simp) hcb hms _ hBb).mono ?_
                    rintro e8 w8' ⟨rfl, h8⟩
                    subst w8'
                    go_wp2_with (fail)
                    refine (num_any F3 _).mono ?_
                    rintro e8 w8' ⟨rfl, h8⟩
                    subst w8'
                    go_wp2
                    go_loop [35] (fun i => ∃ q : Nat, L.length ≤ q ∧ q ≤ m + L.length ∧ i = .int .i64 (q : Int)) (fun i => m + L.length - (intOf i).toNat)
                    case atStart => exact ⟨L.length, Nat.le_refl _, by omega, rfl⟩
                    case round =>
                      obtain ⟨q, hq, hq2, rfl⟩ := hrel
                      by_cases hqm : q < m
                      · have hqm' : (q : Int) < (m : Int) := by omega
                        obtain ⟨y0, y1, y2⟩ := hBb.cells3 (j := q) (e := r99) (by rw [List.getElem?_append_left (by simp; exact hqm), List.getElem?_replicate, if_pos hqm])
                        clear hAb hBb
                        go_wp2
                        exact ⟨⟨q + 1, by omega, by omega, by go_num⟩, by simp [intOf]; omega⟩
                      · have hqm' : ¬ (q : Int) < (m : Int) := by omega
                        have HAB : Hid (Rv wr ga 44 (cl .u64 (L ++ [m77, m78]) ++ T1) ∧ Rv wr gb 44 (cl .u64 (List.replicate m r99 ++ [m77, m78]) ++ T2)) := ⟨hAb, hBb⟩
                        clear hAb hBb
                        go_wp2_with (fail)
                        refine (samed_any ga ca a c L (cl .u64 [m77, m78] ++ T1) (by omega) _ (by rw [← cl_more]; exact HAB.out.1) (HR.out _ hB7)).mono ?_
                        rintro e9 w9 ⟨rfl, hb9⟩
                        have hBb := HAB.out.2.on hb9 HAB.out.2.lt
                        have hB9 := hB7.trans (hb9.mono hB7.size)
                        rw [cl_more] at hBb
                        clear hb9 HAB
                        go_wp2_with (fail)
                        refine (untouched_any gb cb m (cl .u64 [m77, m78] ++ T2) (by omega) _ hBb).mono ?_
                        rintro e10 w10 ⟨rfl, h10⟩
                        subst w10
                        clear hBb
                        go_wp2
                        go_ret
                        exact ⟨rfl, hB9⟩
          · as_aux_lemma =>
              obtain ⟨rfl, rfl⟩ := HST.out.eq hst'
              have hmn' : (m : Int) < (L.length : Int) := by omega
              clear hst'
              go_wp2
              go_loopw [27, 26] (fun i v wr => ∃ j : Nat, j ≤ L.length ∧ i = .int .i64 (j : Int) ∧ wr.ownsRow w6.heap.size 3 1 v j (iv ((ats N K L).take j)) ∧ Below w6.heap.size w6 wr) (fun i _ _ => L.length - (intOf i).toNat)
              case atStart => exact ⟨0, Nat.zero_le _, rfl, World.ownsRow_nil _ _ _ _, Below.refl _ _⟩
              case round =>
                obtain ⟨j, hj, rfl, hO, hB⟩ := hrel
                by_cases hjl : j < L.length
                · as_aux_lemma =>
                    obtain ⟨e, he⟩ : ∃ e, L[j]? = some e := ⟨L[j], List.getElem?_eq_getElem hjl⟩
                    have hBW := HB6.out.trans (hB.mono hw6)
                    obtain ⟨x9, rfl, hx⟩ := HR.out wr hBW (by omega)
                    have hjl' : (j : Int) < (L.length : Int) := by omega
                    have HK : Hid (∀ W, Below w6.heap.size w6 W → CA x9 j e B2 N K W) := fun W hW => by
                      obtain ⟨x', hx', hA⟩ := HR.out W (HB6.out.trans (hW.mono hw6)) (by omega)
                      cases hx'
                      obtain ⟨q0, q1, q2⟩ := cells3 (hA.2 j e he)
                      exact ⟨(HX2.out.on hW hB2l).cell rfl, (HX2.out.on hW hB2l).cell rfl, q0⟩
                    have hve := HV.out e (List.mem_of_getElem? he)
                    have HPT : Hid (∀ W, Calls Try.prog 19 #[.agg #[.int .u32 N, .int .i64 K], .int .u32 e.1] W (fun e' w' => e' = .returned (.int .i64 (pt N K e.1)) ∧ Below W.heap.size W w')) := fun W => rpart_any N K e.1 hve.1 hve.2.1 hve.2.2 W
                    have HT : Hid ((ats N K L).take (j + 1) = (ats N K L).take j ++ [pt N K e.1]) := take_snoc (ats_get he)
                    have HO : Hid (wr.ownsRow w6.heap.size 3 1 u26 j (iv ((ats N K L).take j))) := hO
                    have hd9 : Below w6.heap.size w6 wr.drew := hB.drew
                    have hK9 : Hid (CA x9 j e B2 N K wr.drew) := HK.out _ hd9
                    have hwr := hB.size
                    clear hx he hve hO hB hBW HV HR HU HA HP HX2 HB6 HST
                    try clear hmn'
                    try clear hmn
                    try clear hG
                    try clear hXY
                    try clear hXl
                    try clear hYl
                    try clear hRs
                    try clear hRa
                    try clear hRb
                    try clear hT6
                    try clear hb
                    go_wp2
                    go_region_held3 (CA x9 j e B2 N K) ((first | with_reducible exact HK.out _ hB9 | with_reducible exact HK.out _ hd8 | with_reducible exact hK9.out))
                      ((first
                        | (go_at_call 19; refine (HPT.out _).mono ?_; rintro e5 w5 ⟨rfl, o5⟩; (replace hd9 := hd9.trans (o5.mono hwr)); (replace hK9 : Hid (CA x9 j e B2 N K w5) := HK.out w5 hd9); have HO5 : Hid (w5.ownsRow w6.heap.size 3 1 u26 j (iv ((ats N K L).take j))) := own_below (w := wr.drew) HO.out o5; have hw5 := hd9.size; have hd8 : Below w6.heap.size w6 (w5.alloc (.cells #[.int .i64 (pt N K e.1)] 3)) := hd9.alloc hw5 _; clear o5)
                        | (refine step_append1 (by rfl) _ _ (by rfl) w6.heap.size u26 w5.heap.size 1 j ((ats N K L).take j) (pt N K e.1) (by rfl) (HO5.out.alloc _) (by rfl) (by simp) (by omega) (by simp only [World.size_alloc]; omega) ?_; intro v9 w9 hown9 hgr9 hat9; have hB9 : Below w6.heap.size w6 w9 := hd8.grown hgr9 (by simp only [World.size_alloc]; omega) (fun j hj => (HO5.out.lt j hj).1))))
                    have HF : Hid (w9.ownsRow w6.heap.size 3 1 v9 (j + 1) (iv ((ats N K L).take (j + 1))) ∧ Below w6.heap.size w6 w9) := ⟨by rw [HT.out]; exact hown9, hB9⟩
                    clear hown9 hgr9 hat9 hB9 HO5 HO HT HK HPT hd8 hd9 hK9
                    go_wp2
                    exact ⟨⟨j + 1, by omega, by go_num, HF.out.1, HF.out.2⟩, by simp [intOf]; omega⟩
                · as_aux_lemma =>
                    obtain rfl : j = L.length := by omega

                    have hB7 : Below w.heap.size w wr := HB6.out.trans (hB.mono hw6)
                    have hAb : Rv wr ga 44 (cl .u64 (L ++ [m77, m78]) ++ T1) := (HA.out.1.on hb HA.out.1.lt).on hB (by have := HA.out.1.lt; omega)
                    have hBb : Rv wr gb 44 (cl .u64 (List.replicate m r99 ++ [m77, m78]) ++ T2) := (HA.out.2.1.on hb HA.out.2.1.lt).on hB (by have := HA.out.2.1.lt; omega)
                    clear hO hB HA HP HX2 HB6 HST HV HU hb

                    go_wp2_with (fail)
                    refine (marked_any ga ca L.length L T1 rfl hca (by omega) _ hAb).mono ?_
                    rintro e8 w8' ⟨rfl, h8⟩
                    subst w8'
                    go_wp2_with (fail)
                    refine (marked_any gb cb m (List.replicate m r99) T2 (by simp) hcb hms _ hBb).mono ?_
                    rintro e8 w8' ⟨rfl, h8⟩
                    subst w8'
                    go_wp2_with (fail)
                    refine (num_any 94 _).mono ?_
                    rintro e8 w8' ⟨rfl, h8⟩
                    subst w8'
                    go_wp2
                    go_loop [35] (fun i => ∃ q : Nat, L.length ≤ q ∧ q ≤ m + L.length ∧ i = .int .i64 (q : Int)) (fun i => m + L.length - (intOf i).toNat)
                    case atStart => exact ⟨L.length, Nat.le_refl _, by omega, rfl⟩
                    case round =>
                      obtain ⟨q, hq, hq2, rfl⟩ := hrel
                      by_cases hqm : q < m
                      · omega
                      · have hqm' : ¬ (q : Int) < (m : Int) := by omega
                        have HAB : Hid (Rv wr ga 44 (cl .u64 (L ++ [m77, m78]) ++ T1) ∧ Rv wr gb 44 (cl .u64 (List.replicate m r99 ++ [m77, m78]) ++ T2)) := ⟨hAb, hBb⟩
                        clear hAb hBb
                        go_wp2_with (fail)
                        refine (samed_any ga ca a c L (cl .u64 [m77, m78] ++ T1) (by omega) _ (by rw [← cl_more]; exact HAB.out.1) (HR.out _ hB7)).mono ?_
                        rintro e9 w9 ⟨rfl, hb9⟩
                        have hBb := HAB.out.2.on hb9 HAB.out.2.lt
                        have hB9 := hB7.trans (hb9.mono hB7.size)
                        rw [cl_more] at hBb
                        clear hb9 HAB
                        go_wp2_with (fail)
                        refine (untouched_any gb cb m (cl .u64 [m77, m78] ++ T2) (by omega) _ hBb).mono ?_
                        rintro e10 w10 ⟨rfl, h10⟩
                        subst w10
                        clear hBb
                        go_wp2
                        go_ret
                        exact ⟨rfl, hB9⟩
          · as_aux_lemma =>
              obtain ⟨rfl, rfl⟩ := HST.out.eq hst'
              have hmn' : ¬ (m : Int) < (L.length : Int) := by omega
              clear hst'
              go_wp2
              rw [show decide (m < L.length) = false by simp; omega]
              go_loopw [27, 26] (fun i v wr => ∃ j : Nat, j ≤ L.length ∧ i = .int .i64 (j : Int) ∧ wr.ownsRow w6.heap.size 3 1 v j (iv ((ats N K L).take j)) ∧ Below w6.heap.size w6 wr) (fun i _ _ => L.length - (intOf i).toNat)
              case atStart => exact ⟨0, Nat.zero_le _, rfl, World.ownsRow_nil _ _ _ _, Below.refl _ _⟩
              case round =>
                obtain ⟨j, hj, rfl, hO, hB⟩ := hrel
                by_cases hjl : j < L.length
                · as_aux_lemma =>
                    obtain ⟨e, he⟩ : ∃ e, L[j]? = some e := ⟨L[j], List.getElem?_eq_getElem hjl⟩
                    have hBW := HB6.out.trans (hB.mono hw6)
                    obtain ⟨x9, rfl, hx⟩ := HR.out wr hBW (by omega)
                    have hjl' : (j : Int) < (L.length : Int) := by omega
                    have HK : Hid (∀ W, Below w6.heap.size w6 W → CA x9 j e B2 N K W) := fun W hW => by
                      obtain ⟨x', hx', hA⟩ := HR.out W (HB6.out.trans (hW.mono hw6)) (by omega)
                      cases hx'
                      obtain ⟨q0, q1, q2⟩ := cells3 (hA.2 j e he)
                      exact ⟨(HX2.out.on hW hB2l).cell rfl, (HX2.out.on hW hB2l).cell rfl, q0⟩
                    have hve := HV.out e (List.mem_of_getElem? he)
                    have HPT : Hid (∀ W, Calls Try.prog 19 #[.agg #[.int .u32 N, .int .i64 K], .int .u32 e.1] W (fun e' w' => e' = .returned (.int .i64 (pt N K e.1)) ∧ Below W.heap.size W w')) := fun W => rpart_any N K e.1 hve.1 hve.2.1 hve.2.2 W
                    have HT : Hid ((ats N K L).take (j + 1) = (ats N K L).take j ++ [pt N K e.1]) := take_snoc (ats_get he)
                    have HO : Hid (wr.ownsRow w6.heap.size 3 1 u26 j (iv ((ats N K L).take j))) := hO
                    have hd9 : Below w6.heap.size w6 wr.drew := hB.drew
                    have hK9 : Hid (CA x9 j e B2 N K wr.drew) := HK.out _ hd9
                    have hwr := hB.size
                    clear hx he hve hO hB hBW HV HR HU HA HP HX2 HB6 HST
                    try clear hmn'
                    try clear hmn
                    try clear hG
                    try clear hXY
                    try clear hXl
                    try clear hYl
                    try clear hRs
                    try clear hRa
                    try clear hRb
                    try clear hT6
                    try clear hb
                    go_wp2
                    go_region_held3 (CA x9 j e B2 N K) ((first | with_reducible exact HK.out _ hB9 | with_reducible exact HK.out _ hd8 | with_reducible exact hK9.out))
                      ((first
                        | (go_at_call 19; refine (HPT.out _).mono ?_; rintro e5 w5 ⟨rfl, o5⟩; (replace hd9 := hd9.trans (o5.mono hwr)); (replace hK9 : Hid (CA x9 j e B2 N K w5) := HK.out w5 hd9); have HO5 : Hid (w5.ownsRow w6.heap.size 3 1 u26 j (iv ((ats N K L).take j))) := own_below (w := wr.drew) HO.out o5; have hw5 := hd9.size; have hd8 : Below w6.heap.size w6 (w5.alloc (.cells #[.int .i64 (pt N K e.1)] 3)) := hd9.alloc hw5 _; clear o5)
                        | (refine step_append1 (by rfl) _ _ (by rfl) w6.heap.size u26 w5.heap.size 1 j ((ats N K L).take j) (pt N K e.1) (by rfl) (HO5.out.alloc _) (by rfl) (by simp) (by omega) (by simp only [World.size_alloc]; omega) ?_; intro v9 w9 hown9 hgr9 hat9; have hB9 : Below w6.heap.size w6 w9 := hd8.grown hgr9 (by simp only [World.size_alloc]; omega) (fun j hj => (HO5.out.lt j hj).1))))
                    have HF : Hid (w9.ownsRow w6.heap.size 3 1 v9 (j + 1) (iv ((ats N K L).take (j + 1))) ∧ Below w6.heap.size w6 w9) := ⟨by rw [HT.out]; exact hown9, hB9⟩
                    clear hown9 hgr9 hat9 hB9 HO5 HO HT HK HPT hd8 hd9 hK9
                    go_wp2
                    exact ⟨⟨j + 1, by omega, by go_num, HF.out.1, HF.out.2⟩, by simp [intOf]; omega⟩
                · as_aux_lemma =>
                    obtain rfl : j = L.length := by omega

                    have hIR : IR wr u26 (ats N K L) := IR.of (by rw [List.take_of_length_le (by rw [ats_len]; omega)] at hO; exact hO) (ats_len N K L)
                    clear hO
                    go_wp2_with (fail)
                    refine (order_any u26 (ats N K L) kk hk2 (by rw [ats_len]; omega) _ hIR).mono ?_
                    rintro e8 w8 ⟨hb8, ho⟩
                    obtain ⟨_, rfl⟩ := ho.resolve_right (fun h => hG ((ats_ok N K L kk).1 h.1))
                    clear ho hIR
                    replace hB := hB.trans (hb8.mono hB.size)
                    clear hb8

                    have hB7 : Below w.heap.size w w8 := HB6.out.trans (hB.mono hw6)
                    have hAb : Rv w8 ga 44 (cl .u64 (L ++ [m77, m78]) ++ T1) := (HA.out.1.on hb HA.out.1.lt).on hB (by have := HA.out.1.lt; omega)
                    have hBb : Rv w8 gb 44 (cl .u64 (List.replicate m r99 ++ [m77, m78]) ++ T2) := (HA.out.2.1.on hb HA.out.2.1.lt).on hB (by have := HA.out.2.1.lt; omega)
                    clear hB hG HA HP HX2 HB6 HST HV HU hb

                    go_wp2_with (fail)
                    refine (marked_any ga ca L.length L T1 rfl hca (by omega) _ hAb).mono ?_
                    rintro e8 w8' ⟨rfl, h8⟩
                    subst w8'
                    go_wp2_with (fail)
                    refine (marked_any gb cb m (List.replicate m r99) T2 (by simp) hcb hms _ hBb).mono ?_
                    rintro e8 w8' ⟨rfl, h8⟩
                    subst w8'
                    go_wp2_with (fail)
                    refine (num_any 93 _).mono ?_
                    rintro e8 w8' ⟨rfl, h8⟩
                    subst w8'
                    go_wp2
                    go_loop [35] (fun i => ∃ q : Nat, L.length ≤ q ∧ q ≤ m + L.length ∧ i = .int .i64 (q : Int)) (fun i => m + L.length - (intOf i).toNat)
                    case atStart => exact ⟨L.length, Nat.le_refl _, by omega, rfl⟩
                    case round =>
                      obtain ⟨q, hq, hq2, rfl⟩ := hrel
                      by_cases hqm : q < m
                      · have hqm' : (q : Int) < (m : Int) := by omega
                        obtain ⟨y0, y1, y2⟩ := hBb.cells3 (j := q) (e := r99) (by rw [List.getElem?_append_left (by simp; exact hqm), List.getElem?_replicate, if_pos hqm])
                        clear hAb hBb
                        go_wp2
                        exact ⟨⟨q + 1, by omega, by omega, by go_num⟩, by simp [intOf]; omega⟩
                      · have hqm' : ¬ (q : Int) < (m : Int) := by omega
                        have HAB : Hid (Rv w8 ga 44 (cl .u64 (L ++ [m77, m78]) ++ T1) ∧ Rv w8 gb 44 (cl .u64 (List.replicate m r99 ++ [m77, m78]) ++ T2)) := ⟨hAb, hBb⟩
                        clear hAb hBb
                        go_wp2_with (fail)
                        refine (samed_any ga ca a c L (cl .u64 [m77, m78] ++ T1) (by omega) _ (by rw [← cl_more]; exact HAB.out.1) (HR.out _ hB7)).mono ?_
                        rintro e9 w9 ⟨rfl, hb9⟩
                        have hBb := HAB.out.2.on hb9 HAB.out.2.lt
                        have hB9 := hB7.trans (hb9.mono hB7.size)
                        rw [cl_more] at hBb
                        clear hb9 HAB
                        go_wp2_with (fail)
                        refine (untouched_any gb cb m (cl .u64 [m77, m78] ++ T2) (by omega) _ hBb).mono ?_
                        rintro e10 w10 ⟨rfl, h10⟩
                        subst w10
                        clear hBb
                        go_wp2
                        go_ret
                        exact ⟨rfl, hB9⟩
          · as_aux_lemma =>
              obtain ⟨rfl, rfl⟩ := HST.out.eq hst'
              have hmn' : ¬ (m : Int) < (L.length : Int) := by omega
              obtain ⟨s0, g, X, Y, hSg, rfl, rfl, rfl, hgW, hRs, hXl, hYl, hXY, hRa, hRb, hT6⟩ := hSG
              obtain ⟨s1, rfl, hs1, hSg1⟩ := hst'.nat
              obtain rfl := hSg.uniq hSg1
              clear hst' hSg hSg1
              go_wp2
              rw [show decide (m < L.length) = false by simp; omega]
              go_loopw [27, 26] (fun i v wr => ∃ j : Nat, j ≤ L.length ∧ i = .int .i64 (j : Int) ∧ wr.ownsRow w6.heap.size 3 1 v j (iv ((ats N K L).take j)) ∧ Below w6.heap.size w6 wr) (fun i _ _ => L.length - (intOf i).toNat)
              case atStart => exact ⟨0, Nat.zero_le _, rfl, World.ownsRow_nil _ _ _ _, Below.refl _ _⟩
              case round =>
                obtain ⟨j, hj, rfl, hO, hB⟩ := hrel
                by_cases hjl : j < L.length
                · as_aux_lemma =>
                    obtain ⟨e, he⟩ : ∃ e, L[j]? = some e := ⟨L[j], List.getElem?_eq_getElem hjl⟩
                    have hBW := HB6.out.trans (hB.mono hw6)
                    obtain ⟨x9, rfl, hx⟩ := HR.out wr hBW (by omega)
                    have hjl' : (j : Int) < (L.length : Int) := by omega
                    have HK : Hid (∀ W, Below w6.heap.size w6 W → CA x9 j e B2 N K W) := fun W hW => by
                      obtain ⟨x', hx', hA⟩ := HR.out W (HB6.out.trans (hW.mono hw6)) (by omega)
                      cases hx'
                      obtain ⟨q0, q1, q2⟩ := cells3 (hA.2 j e he)
                      exact ⟨(HX2.out.on hW hB2l).cell rfl, (HX2.out.on hW hB2l).cell rfl, q0⟩
                    have hve := HV.out e (List.mem_of_getElem? he)
                    have HPT : Hid (∀ W, Calls Try.prog 19 #[.agg #[.int .u32 N, .int .i64 K], .int .u32 e.1] W (fun e' w' => e' = .returned (.int .i64 (pt N K e.1)) ∧ Below W.heap.size W w')) := fun W => rpart_any N K e.1 hve.1 hve.2.1 hve.2.2 W
                    have HT : Hid ((ats N K L).take (j + 1) = (ats N K L).take j ++ [pt N K e.1]) := take_snoc (ats_get he)
                    have HO : Hid (wr.ownsRow w6.heap.size 3 1 u26 j (iv ((ats N K L).take j))) := hO
                    have hd9 : Below w6.heap.size w6 wr.drew := hB.drew
                    have hK9 : Hid (CA x9 j e B2 N K wr.drew) := HK.out _ hd9
                    have hwr := hB.size
                    clear hx he hve hO hB hBW HV HR HU HA HP HX2 HB6 HST
                    try clear hmn'
                    try clear hmn
                    try clear hG
                    try clear hXY
                    try clear hXl
                    try clear hYl
                    try clear hRs
                    try clear hRa
                    try clear hRb
                    try clear hT6
                    try clear hb
                    go_wp2
                    go_region_held3 (CA x9 j e B2 N K) ((first | with_reducible exact HK.out _ hB9 | with_reducible exact HK.out _ hd8 | with_reducible exact hK9.out))
                      ((first
                        | (go_at_call 19; refine (HPT.out _).mono ?_; rintro e5 w5 ⟨rfl, o5⟩; (replace hd9 := hd9.trans (o5.mono hwr)); (replace hK9 : Hid (CA x9 j e B2 N K w5) := HK.out w5 hd9); have HO5 : Hid (w5.ownsRow w6.heap.size 3 1 u26 j (iv ((ats N K L).take j))) := own_below (w := wr.drew) HO.out o5; have hw5 := hd9.size; have hd8 : Below w6.heap.size w6 (w5.alloc (.cells #[.int .i64 (pt N K e.1)] 3)) := hd9.alloc hw5 _; clear o5)
                        | (refine step_append1 (by rfl) _ _ (by rfl) w6.heap.size u26 w5.heap.size 1 j ((ats N K L).take j) (pt N K e.1) (by rfl) (HO5.out.alloc _) (by rfl) (by simp) (by omega) (by simp only [World.size_alloc]; omega) ?_; intro v9 w9 hown9 hgr9 hat9; have hB9 : Below w6.heap.size w6 w9 := hd8.grown hgr9 (by simp only [World.size_alloc]; omega) (fun j hj => (HO5.out.lt j hj).1))))
                    have HF : Hid (w9.ownsRow w6.heap.size 3 1 v9 (j + 1) (iv ((ats N K L).take (j + 1))) ∧ Below w6.heap.size w6 w9) := ⟨by rw [HT.out]; exact hown9, hB9⟩
                    clear hown9 hgr9 hat9 hB9 HO5 HO HT HK HPT hd8 hd9 hK9
                    go_wp2
                    exact ⟨⟨j + 1, by omega, by go_num, HF.out.1, HF.out.2⟩, by simp [intOf]; omega⟩
                · as_aux_lemma =>
                    obtain rfl : j = L.length := by omega

                    have hIR : IR wr u26 (ats N K L) := IR.of (by rw [List.take_of_length_le (by rw [ats_len]; omega)] at hO; exact hO) (ats_len N K L)
                    clear hO
                    go_wp2_with (fail)
                    refine (order_any u26 (ats N K L) kk hk2 (by rw [ats_len]; omega) _ hIR).mono ?_
                    rintro e8 w8 ⟨hb8, ho⟩
                    obtain ⟨_, vo, vs, rfl, hIo, hIs⟩ := ho.resolve_left (fun h => h.1 ((ats_ok N K L kk).2 hG))
                    clear ho hIR
                    rw [sts_ats] at hIs
                    replace hB := hB.trans (hb8.mono hB.size)
                    have hB7 : Below w.heap.size w w8 := HB6.out.trans (hB.mono hw6)
                    have hga0 := HA.out.1.lt
                    have hgb0 := HA.out.2.1.lt
                    replace hRs := hRs.on hB (by have := hRs.lt; omega)
                    replace hRa := hRa.on hB (by omega)
                    replace hRb := hRb.on hB (by omega)
                    clear hb8 hB HA HP HX2 HB6 HST HV HU hT6 hG
                    have hgx : g ≠ ga ∧ g ≠ gb := by omega
                    have hmxl := mx_len (pn N K) L kk kk
                    obtain ⟨g29, c29, rfl, hg29, hC29⟩ := hIs.resolve_left (fun h => by rw [h.2] at hmxl; simp at hmxl)
                    rw [hmxl]
                    have hol : (nz (ord (ats N K L) kk)).length = L.length := by
                      rw [nz_len]
                      have h9 := congrArg List.length (stg_ord N K L kk)
                      rw [List.length_map, ← hXY] at h9
                      rw [← h9]; unfold sw; split
                      · exact hXl
                      · exact hYl
                    obtain ⟨xo, co, rfl, hCo⟩ : ∃ xo co, vo = .slice xo L.length co ∧ (0 < L.length → ∃ g28, xo = some ⟨g28, 0, none⟩ ∧ g28 < w8.heap.size ∧ ∀ i x, (nz (ord (ats N K L) kk))[i]? = some x → w8.cell? ⟨g28, i, none⟩ = some (.int .i64 x)) := by
                      rcases hIo with ⟨h1, h2⟩ | ⟨g28, c28, h1, h2, h3⟩
                      · rw [h2] at hol
                        refine ⟨none, 0, by rw [h1, ← hol]; rfl, fun h => ?_⟩
                        rw [← hol] at h; simp at h
                      · exact ⟨_, c28, by rw [h1, hol], fun _ => ⟨g28, rfl, h2, h3⟩⟩
                    clear hIo hIs hol
                    have HCo : Hid (0 < L.length → ∃ g28, xo = some ⟨g28, 0, none⟩ ∧ g28 < w8.heap.size ∧ ∀ i x, (nz (ord (ats N K L) kk))[i]? = some x → w8.cell? ⟨g28, i, none⟩ = some (.int .i64 x)) := hCo
                    have HC29 : Hid (∀ i x, (mx (pn N K) L kk kk)[i]? = some x → w8.cell? ⟨g29, i, none⟩ = some (.int .i64 x)) := hC29
                    have HRs : Hid (Rv w8 g 3 (iv (mx (pn N K) L kk kk))) := hRs
                    clear hCo hC29 hRs
                    rw [← cl_more] at hRa
                    rw [← cl_more, ← List.append_assoc] at hRb
                    have hYR : (Y ++ List.replicate (m - L.length) r99).length = m := by rw [List.length_append, List.length_replicate, hYl]; omega
                    have hIn : ∃ Ti, Rv w8 (sw s0 ga gb) 44 (cl .u64 (stg (pn N K) kk L) ++ Ti) := by
                      rw [← hXY]
                      by_cases hs : s0 % 2 = 0
                      · simp only [sw, if_pos hs]
                        exact ⟨_, by rw [cl_more] at hRa; exact hRa⟩
                      · simp only [sw, if_neg hs]
                        exact ⟨_, by rw [List.append_assoc, cl_more] at hRb; exact hRb⟩
                    obtain ⟨Ti, hIn⟩ := hIn
                    have hSl : (stg (pn N K) kk L).length = L.length := by
                      rw [← hXY]; unfold sw; split
                      · exact hXl
                      · exact hYl
                    obtain ⟨gi, hgi⟩ : ∃ gi, gi = sw s0 ga gb := ⟨_, rfl⟩
                    obtain ⟨S, hS⟩ : ∃ S, S = stg (pn N K) kk L := ⟨_, rfl⟩
                    rw [← hgi, ← hS] at hIn
                    rw [← hS] at hSl
                    rw [← hgi]
                    have HGI : Hid (gi = sw s0 ga gb) := hgi
                    have HS : Hid (S = stg (pn N K) kk L ∧ sw s0 X Y = S) := ⟨hS, by rw [hXY, hS]⟩
                    clear hgi hS hXY
                    go_wp2_with (fail)
                    refine (marked_any ga ca L.length X T1 hXl hca (by omega) _ hRa).mono ?_
                    rintro e8 w8' ⟨rfl, h8⟩
                    subst w8'
                    go_wp2_with (fail)
                    refine (marked_any gb cb m _ T2 hYR hcb hms _ hRb).mono ?_
                    rintro e8 w8' ⟨rfl, h8⟩
                    subst w8'
                    go_wp2_with (fail)
                    refine (num_any 0 _).mono ?_
                    rintro e8 w8' ⟨rfl, h8⟩
                    subst w8'
                    have HRA : Hid (Rv w8 ga 44 (cl .u64 (X ++ [m77, m78]) ++ T1)) := hRa
                    have HRB : Hid (Rv w8 gb 44 (cl .u64 ((Y ++ List.replicate (m - L.length) r99) ++ [m77, m78]) ++ T2)) := hRb
                    have HIN : Hid (Rv w8 gi 44 (cl .u64 S ++ Ti)) := hIn
                    clear hRa hRb hIn
                    go_wp2
                    go_loop [35] (fun i => ∃ q : Nat, L.length ≤ q ∧ q ≤ m ∧ i = .int .i64 (q : Int)) (fun i => m - (intOf i).toNat)
                    case atStart => exact ⟨L.length, Nat.le_refl _, by omega, rfl⟩
                    case round =>
                      obtain ⟨q, hq, hq2, rfl⟩ := hrel
                      by_cases hqm : q < m
                      · as_aux_lemma =>
                          have hqm' : (q : Int) < (m : Int) := by omega
                          obtain ⟨y0, y1, y2⟩ := HRB.out.cells3 (j := q) (e := r99) (by rw [List.getElem?_append_left (by rw [hYR]; exact hqm), List.getElem?_append_right (by omega), List.getElem?_replicate, if_pos (by omega)])
                          clear HRA HRB HIN HS HGI HCo HC29 HRs HR
                          go_wp2
                          exact ⟨⟨q + 1, by omega, by omega, by go_num⟩, by simp [intOf]; omega⟩
                      · as_aux_lemma =>
                          have hqm' : ¬ (q : Int) < (m : Int) := by omega
                          go_wp2
                          go_loopw [37] (fun i wr => ∃ q : Nat, q ≤ L.length ∧ i = .int .i64 (q : Int) ∧ Below w8.heap.size w8 wr) (fun i _ => L.length - (intOf i).toNat)
                          case atStart => exact ⟨0, Nat.zero_le _, rfl, Below.refl _ _⟩
                          case round =>
                            obtain ⟨p, hp, rfl, hB⟩ := hrel
                            by_cases hpl : p < L.length
                            · as_aux_lemma =>
                                have hpl' : (p : Int) < (L.length : Int) := by omega
                                obtain ⟨x, hx⟩ : ∃ x, S[p]? = some x := ⟨S[p]'(by omega), List.getElem?_eq_getElem (by omega)⟩
                                obtain ⟨i0, i1, i2⟩ := (HIN.out.on hB HIN.out.lt).cells3 hx
                                rw [HS.out.1] at hx
                                obtain ⟨t, ht1, ht2, ht3⟩ := ord_at hx
                                obtain ⟨g28, rfl, hg28, hC28⟩ := HCo.out (by omega)
                                have o0 : wr.cell? ⟨g28, p, none⟩ = some (.int .i64 (t : Int)) := (hB.cell (p := ⟨g28, p, none⟩) hg28).trans (hC28 p t ht1)
                                obtain ⟨x9, rfl, hA9⟩ := HR.out wr (hB7.trans (hB.mono hB7.size)) (by omega)
                                obtain ⟨u0, u1, u2⟩ := cells3 (hA9.2 t x ht3)
                                have ht' : (t : Int) < (L.length : Int) := by omega
                                clear hx ht1 ht3 hC28 hA9 HRA HRB HIN HS HGI HCo HC29 HRs HR
                                go_wp2
                                go_region
                                all_goals
                                  go_wp2
                                  exact ⟨⟨p + 1, by omega, by go_num, hB.drew⟩, by simp [intOf]; omega⟩
                            · as_aux_lemma =>
                                obtain rfl : p = L.length := by omega
                                go_wp2
                                go_loopw [38] (fun i wr => ∃ q : Nat, q ≤ kk + 1 ∧ i = .int .i64 (q : Int) ∧ Below w8.heap.size w8 wr) (fun i _ => kk + 1 - (intOf i).toNat)
                                case atStart => exact ⟨0, Nat.zero_le _, rfl, hB⟩
                                case round =>
                                  clear hB
                                  obtain ⟨p, hp, rfl, hB⟩ := hrel
                                  by_cases hpk : p < kk + 1
                                  · as_aux_lemma =>
                                      have hpk' : (p : Int) < (kk : Int) + 1 := by omega
                                      obtain ⟨x, hx⟩ : ∃ x, (mx (pn N K) L kk kk)[p]? = some x := ⟨(mx (pn N K) L kk kk)[p]'(by rw [mx_len]; omega), List.getElem?_eq_getElem (by rw [mx_len]; omega)⟩
                                      have o0 := (HRs.out.on hB HRs.out.lt).cell (iv_get hx)
                                      have o1 : wr.cell? ⟨g29, p, none⟩ = some (.int .i64 x) := (hB.cell (p := ⟨g29, p, none⟩) hg29).trans (HC29.out p x hx)
                                      clear hx HRA HRB HIN HS HGI HCo HC29 HRs HR
                                      go_wp2
                                      go_region
                                      all_goals
                                        go_wp2
                                        exact ⟨⟨p + 1, by omega, by go_num, hB.drew⟩, by simp [intOf]; omega⟩
                                  · as_aux_lemma =>
                                      have hpk' : ¬ (p : Int) < (kk : Int) + 1 := by omega
                                      have hB9 : Below w.heap.size w wr := hB7.trans (hB.mono hB7.size)
                                      replace HIN : Hid (Rv wr gi 44 (cl .u64 S ++ Ti)) := HIN.out.on hB HIN.out.lt
                                      replace HRA : Hid (Rv wr ga 44 (cl .u64 (X ++ [m77, m78]) ++ T1)) := HRA.out.on hB HRA.out.lt
                                      replace HRB : Hid (Rv wr gb 44 (cl .u64 ((Y ++ List.replicate (m - L.length) r99) ++ [m77, m78]) ++ T2)) := HRB.out.on hB HRB.out.lt
                                      clear hB hB7 HCo HC29 HRs HR
                                      by_cases hL0 : L.length = 0
                                      · as_aux_lemma =>
                                          have hL0' : (L.length : Int) = 0 := by omega
                                          clear HRA HRB HIN HS HGI
                                          go_wp2
                                          go_ret
                                          exact ⟨rfl, hB9⟩
                                      · as_aux_lemma =>
                                          have hL0' : (0 : Int) < (L.length : Int) := by omega
                                          obtain ⟨e0, he0⟩ : ∃ e0, S[0]? = some e0 := ⟨S[0]'(by omega), List.getElem?_eq_getElem (by omega)⟩
                                          obtain ⟨i0, i1, i2⟩ := HIN.out.cells3 he0
                                          have f1 := HIN.out.frozen 1
                                          simp only [Nat.zero_mul, Nat.zero_add] at i0 i1 i2
                                          have hc0 : ∀ V, (wr.setCell ⟨gi, 1, none⟩ (.int .u64 V)).cell? ⟨gi, 0, none⟩ = some (.int .u32 e0.1) := fun V => (HIN.out.set 1 (.int .u64 V)).cell (j := 0) (by
                                            have := HIN.out; rw [List.getElem?_set_ne (by omega), List.getElem?_append_left (by rw [cl_len]; omega)]
                                            exact (cl_get .u64 S 0 e0 he0).1)
                                          have hc1 : ∀ V, (wr.setCell ⟨gi, 1, none⟩ (.int .u64 V)).cell? ⟨gi, 1, none⟩ = some (.int .u64 V) := fun V => (HIN.out.set 1 (.int .u64 V)).cell (j := 1) (by
                                            rw [List.getElem?_set_self (by rw [List.length_append, cl_len]; omega)])
                                          have hc2 : ∀ V, (wr.setCell ⟨gi, 1, none⟩ (.int .u64 V)).cell? ⟨gi, 2, none⟩ = some (.int .u64 e0.2.2) := fun V => (HIN.out.set 1 (.int .u64 V)).cell (j := 2) (by
                                            rw [List.getElem?_set_ne (by omega), List.getElem?_append_left (by rw [cl_len]; omega)]
                                            exact (cl_get .u64 S 0 e0 he0).2.2)
                                          have hgw : w.heap.size ≤ gi := by rw [HGI.out]; unfold sw; split <;> omega
                                          have HBV : Hid (∀ V, Below w.heap.size w (wr.setCell ⟨gi, 1, none⟩ (.int .u64 V))) := fun V => hB9.trans (((Two.refl gi gi wr).set ⟨gi, 1, none⟩ (.int .u64 V) (.inl rfl)).toBelow (B := w.heap.size) hB9.size hgw hgw)
                                          by_cases hs : s0 % 2 = 0
                                          · as_aux_lemma =>
                                              obtain rfl : gi = ga := by rw [HGI.out]; unfold sw; rw [if_pos hs]
                                              have ht : (s0 : Int).tmod 2 = 0 := by rw [Int.tmod_eq_emod_of_nonneg (by omega)]; omega
                                              have ht2 : (s0 : Int) % 2 = 0 := by omega
                                              clear HRA HRB HIN HS HGI he0 hs hB9
                                              go_wp2
                                              go_region
                                              all_goals
                                                go_wp2
                                                go_ret
                                                exact ⟨rfl, (HBV.out _).drew⟩
                                          · as_aux_lemma =>
                                              obtain rfl : gi = gb := by rw [HGI.out]; unfold sw; rw [if_neg hs]
                                              have ht : (s0 : Int).tmod 2 = 1 := by rw [Int.tmod_eq_emod_of_nonneg (by omega)]; omega
                                              have ht2 : (s0 : Int) % 2 = 1 := by omega
                                              obtain rfl : Y = S := by have := HS.out.2; unfold sw at this; rw [if_neg hs] at this; exact this
                                              have HRV : Hid (∀ V, Rv (wr.setCell ⟨gi, 1, none⟩ (.int .u64 V)) gi 44 (cl .u64 ((Y.set 0 (e0.1, V, e0.2.2) ++ List.replicate (m - L.length) r99) ++ [m77, m78]) ++ T2)) := fun V => by
                                                have h := HRB.out.set 1 (.int .u64 V)
                                                have he1 : ((Y ++ List.replicate (m - L.length) r99) ++ [m77, m78])[0]? = some e0 := by
                                                  rw [List.append_assoc, List.getElem?_append_left (by omega)]; exact he0
                                                have h2 := cl_set1 _ T2 0 e0 V he1
                                                rw [Nat.zero_mul, Nat.zero_add] at h2
                                                rw [h2, List.append_assoc, List.set_append_left _ _ (by omega), ← List.append_assoc] at h
                                                exact h
                                              clear HRA HRB HIN HS HGI he0 hs hB9 hYR
                                              go_wp2
                                              go_region
                                              all_goals
                                                go_upto_region 57 with (fail)
                                                have hRF := HRV.out (IntKind.u64.wrap (e0.2.1 + 1))
                                                have hBF := HBV.out (IntKind.u64.wrap (e0.2.1 + 1))
                                                obtain ⟨Z, hZ⟩ : ∃ Z, Z = Y.set 0 (e0.1, IntKind.u64.wrap (e0.2.1 + 1), e0.2.2) := ⟨_, rfl⟩
                                                have hZl : Z.length = L.length := by rw [hZ, List.length_set]; exact hYl
                                                rw [← hZ] at hRF
                                                obtain ⟨WF, hWF⟩ : ∃ WF, WF = (wr.setCell ⟨gi, 1, none⟩ (.int .u64 (IntKind.u64.wrap (e0.2.1 + 1)))).drew := ⟨_, rfl⟩
                                                rw [← hWF]
                                                replace hRF : Rv WF gi 44 (cl .u64 ((Z ++ List.replicate (m - L.length) r99) ++ [m77, m78]) ++ T2) := by rw [hWF]; exact hRF
                                                replace hBF : Below w.heap.size w WF := by rw [hWF]; exact hBF.drew
                                                clear hWF hZ HRV HBV hc0 hc1 hc2 i0 i1 i2 f1
                                                have hRZ0 := hRF.alloc (.cells #[.int .u32 55, .int .u64 0, .int .u64 0] 44)
                                                have HRZ : Hid (Rv (WF.alloc (.cells #[.int .u32 55, .int .u64 0, .int .u64 0] 44)) gi 44 (cl .u64 ((Z ++ List.replicate (m - L.length) r99) ++ [m77, m78]) ++ T2)) := hRZ0
                                                rw [List.append_assoc, cl_more] at hRZ0
                                                have HRZ2 : Hid (Rv (WF.alloc (.cells #[.int .u32 55, .int .u64 0, .int .u64 0] 44)) gi 44 (cl .u64 Z ++ (cl .u64 (List.replicate (m - L.length) r99 ++ [m77, m78]) ++ T2))) := hRZ0
                                                have HC55 : Hid (∀ j v, (e3 .u64 (55, 0, 0))[j]? = some v → (WF.alloc (.cells #[.int .u32 55, .int .u64 0, .int .u64 0] 44)).cell? ⟨WF.heap.size, j, none⟩ = some v) := fun j v hj => cell_new _ _ _ _ _ _ rfl (by simpa [e3] using hj)
                                                have HBF : Hid (Below w.heap.size w (WF.alloc (.cells #[.int .u32 55, .int .u64 0, .int .u64 0] 44))) := hBF.alloc hBF.size _
                                                clear hRZ0 hRF hBF
                                                go_wp2_with (at_builtin; refine wpList_append_full rfl _ _ rfl gi L.length WF.heap.size 1 Z (cl .u64 (List.replicate (m - L.length) r99 ++ [m77, m78]) ++ T2) (55, 0, 0) hZl rfl HRZ2.out rfl HC55.out (by omega) ?_)
                                                intro c9 w9 hb9
                                                have hR9 := HRZ.out.on hb9 (by have := HRZ.out.lt; rw [World.size_alloc] at this; exact this)
                                                have hB10 : Below w.heap.size w w9 := HBF.out.trans (hb9.mono (by have := HBF.out.size; rw [World.size_alloc] at this; exact this))
                                                have hZm : (Z ++ List.replicate (m - L.length) r99).length = m := by rw [List.length_append, List.length_replicate, hZl]; omega
                                                clear hb9 HRZ HRZ2 HC55 HBF
                                                go_wp2_with (fail)
                                                refine (marked_any gi cb m (Z ++ List.replicate (m - L.length) r99) T2 hZm hcb hms _ hR9).mono ?_
                                                rintro e8 w8' ⟨rfl, h8⟩
                                                subst w8'
                                                by_cases hmm : m = L.length
                                                · have hmb : ((m : Int) == (L.length : Int)) = true := by simp; omega
                                                  clear hR9 hmm hZm hZl
                                                  go_wp2
                                                  go_ret
                                                  exact ⟨rfl, hB10⟩
                                                · have hmb : ((m : Int) == (L.length : Int)) = false := by simp; omega
                                                  have hlm : (L.length : Int) < (m : Int) := by omega
                                                  obtain ⟨y0, y1, y2⟩ := hR9.cells3 (j := L.length) (e := r99) (by rw [List.getElem?_append_left (by rw [hZm]; omega), List.getElem?_append_right (by omega), List.getElem?_replicate, if_pos (by omega)])
                                                  clear hR9 hmm hZm hZl
                                                  go_wp2
                                                  go_ret
                                                  exact ⟨rfl, hB10⟩
end Sv
end Go.Proofs.Ytclgbificccadaa
