import Derived.Test.YtbnmjmlcedkoaaaTyRw
import Derived.Maps.AppendAt
namespace Go.Proofs.Ytbnmjmlcedkoaaa
namespace Ty
open Go.RowKit
set_option linter.unusedVariables false
def bvals (X : Int) (k : Nat) : List Value := (List.range k).map (fun i => Value.int .i64 (bit X i))
theorem bvals_succ (X : Int) (k : Nat) : bvals X (k + 1) = bvals X k ++ [.int .i64 (bit X k)] := by
  unfold bvals; rw [List.range_succ, List.map_append]; rfl
theorem bvals_len (X : Int) (k : Nat) : (bvals X k).length = k := by simp [bvals]
theorem bvals_get (X : Int) (k i : Nat) (h : i < k) : (bvals X k)[i]? = some (.int .i64 (bit X i)) := by
  unfold bvals; rw [List.getElem?_map, List.getElem?_range h]; rfl
theorem own_step {B k e : Nat} {xs : List Value} {w wr w1 : World} {u : Value} {o : Obj} (hB : B ≤ wr.heap.size)
    (hown : wr.ownsRow B e 1 u k xs) (hnx : Below B w wr) (hgrow : (wr.alloc o).grownBy w1 u.ownBlock) : Below B w w1 :=
  (hnx.alloc (by omega) o).grown hgrow (by simp; omega) (fun j hj => (hown.lt j hj).1)
theorem br_own {w : World} {B k : Nat} {X : Int} {v : Value} (h : w.ownsRow B 3 1 v k (bvals X k)) : ∃ a cap, v = .slice a k cap ∧ BR w a k X := by
  have h' := h
  obtain ⟨h1, h2⟩ := h
  rcases h2 with ⟨rfl, rfl⟩ | ⟨g, cap, cur, rfl, hbb, hh, r⟩
  · exact ⟨none, 0, rfl, fun h => by omega⟩
  · exact ⟨_, cap, rfl, fun _ => ⟨g, rfl, (World.ownsRow.lt h' g rfl).2, fun i hi => by rw [World.ownsRow.cellAt h' i (by omega), bvals_get X k i hi]⟩⟩
theorem ab_zero (A : Int) : ab A = 0 ↔ A = 0 := by unfold ab; split <;> omega
theorem ab_mod (A P : Int) : ab A % P = 0 ↔ A % P = 0 := by
  unfold ab; split
  · constructor
    · intro h; have := Int.emod_eq_zero_of_dvd (Int.dvd_neg.1 (Int.dvd_of_emod_eq_zero h)); simpa using this
    · intro h; exact Int.emod_eq_zero_of_dvd (Int.dvd_neg.2 (Int.dvd_of_emod_eq_zero h))
  · exact Iff.rfl
theorem up_fin (A : Int) (j : Nat) (V : Int) (hA : ¬ A = 0) (hV : V = A * 2 ^ j) (hj : j ≤ 384) (h : True) : (whB V = true → shV A j = whV V ∧ shE A j = 0) ∧ (whB V = false → shV A j = 0 ∧ shE A j = 21) := by
  by_cases hs : Sg V
  · have hj2 : j < 384 := by
      by_cases h9 : j < 384
      · exact h9
      · obtain rfl : j = 384 := by omega
        exfalso
        obtain ⟨s1, s2⟩ := hs
        rw [hV, p384] at *
        have hP := pw 383
        generalize (2 : Int) ^ 383 = P at *
        rcases Int.lt_or_gt_of_ne hA with h5 | h5
        · have : A * (2 * P) ≤ -1 * (2 * P) := Int.mul_le_mul_of_nonneg_right (by omega) (by omega)
          omega
        · have : 1 * (2 * P) ≤ A * (2 * P) := Int.mul_le_mul_of_nonneg_right (by omega) (by omega)
          omega
    obtain ⟨g1, g2⟩ := wh_good hs
    rw [hV] at hs
    obtain ⟨g3, g4⟩ := sh_up A j hA hj2 hs
    rw [g1, g2, g3, g4, hV]
    exact ⟨fun _ => ⟨rfl, rfl⟩, fun h => by cases h⟩
  · obtain ⟨g1, g2⟩ := wh_bad hs
    rw [g1, g2]
    refine ⟨fun h => (by cases h), fun _ => ?_⟩
    rw [hV] at hs
    by_cases h9 : j < 384
    · exact sh_over A j hA h9 hs
    · exact sh_far A j hA (by omega)
theorem dn_lost (A : Int) (p t : Nat) (hA : ¬ A = 0) (hp0 : 0 < p) (hp : p ≤ 384) (ht : t < p) (hb : bit (ab A) t = 1) : shV A (-(p : Int)) = 0 ∧ shE A (-(p : Int)) = 21 := by
  by_cases h9 : p < 384
  · refine sh_lost A p hA h9 hp0 (fun hz => ?_)
    have h5 := (ab_mod A (2 ^ p)).2 hz
    have h6 := bit_mod (ab A) t p ht
    rw [h5] at h6
    rw [← h6] at hb
    unfold bit at hb
    simp at hb
  · exact sh_far A (-(p : Int)) hA (by omega)
theorem dn_more (A : Int) (p t : Nat) (h0 : 0 ≤ ab A) (hl : IsLen (ab A) t) (ht : 0 < t) (hz : ab A % 2 ^ (min t p) = 0) : p < t := by
  by_cases h9 : p < t
  · exact h9
  · exfalso
    rw [Nat.min_eq_left (by omega), Int.emod_eq_of_lt h0 hl.1] at hz
    have h5 := len_ge (ab A) t h0 hl ht
    have := pw (t - 1)
    omega
theorem dn_fin (A : Int) (p : Nat) (V X : Int) (sb : Bool) (hs : Sg A) (hA : ¬ A = 0) (hp0 : 0 < p) (hp : p < 384) (hz : ab A % 2 ^ p = 0) (hX : X = ab A / 2 ^ p) (hsb : decide (A < 0) = sb) (hV : V = if sb = true then -X else X) :
    (whB V = true → shV A (-(p : Int)) = whV V ∧ shE A (-(p : Int)) = 0) ∧ (whB V = false → shV A (-(p : Int)) = 0 ∧ shE A (-(p : Int)) = 21) := by
  have hz2 := (ab_mod A (2 ^ p)).1 hz
  have hVA : V = A / 2 ^ p := by
    rw [hV, hX, ← hsb]
    unfold ab
    by_cases h9 : A < 0
    · rw [if_pos h9, if_pos (by simpa using h9)]
      have hm := Int.mul_ediv_add_emod A (2 ^ p)
      rw [hz2, Int.add_zero] at hm
      have e : -A = 2 ^ p * -(A / 2 ^ p) := by rw [Int.mul_neg, hm]
      rw [e, Int.mul_ediv_cancel_left _ (Int.ne_of_gt (pw p)), Int.neg_neg]
    · rw [if_neg h9, if_neg (by simpa using h9)]
  have hsV : Sg V := by rw [hVA]; exact sg_div A hs p
  obtain ⟨g1, g2⟩ := wh_good hsV
  obtain ⟨g3, g4⟩ := sh_down A p hA hp hp0 hz2
  rw [g1, g2, g3, g4, hVA]
  exact ⟨fun _ => ⟨rfl, rfl⟩, fun h => (by cases h)⟩
set_option maxHeartbeats 3200000 in
set_option maxRecDepth 8000 in
theorem rshift_any (A k : Int) (h : Sg A) (hk0 : -9223372036854775808 ≤ k) (hk1 : k ≤ 9223372036854775807) (w : World) :
    Calls Try.prog 23 #[.agg (sm A), .int .i64 k] w fun e w' => e = .returned (.tuple #[.agg (sm (shV A k)), .int .i64 (shE A k)]) ∧ Below w.heap.size w w' := by
  obtain ⟨v, hv, hvb, hvs, hv0, hv1⟩ := two_sums w 29 A
  obtain ⟨i0, hi, hz0, hz1, hz2⟩ : ∃ i0, Try.prog.info? 3 = some i0 ∧ i0.zero = some (.int .i64 0) ∧ i0.size = 1 ∧ i0.bytes = 8 := by
    have h := infoInt
    cases hh : Try.prog.info? 3 with
    | none => rw [hh] at h; cases h
    | some i => rw [hh] at h; simp at h; exact ⟨i, rfl, h.1, h.2.1, h.2.2⟩
  have HAP : Hid (∀ w, Calls Try.prog 38 #[.agg (sm A)] w fun e w' => ∃ g, e = .returned (.tuple #[.bool (decide (A < 0)), .slice (some ⟨g, 0, none⟩) 384 384]) ∧ w.heap.size ≤ g ∧ Bits w' g (ab A) ∧ Below w.heap.size w w') := fun w => rapart_any A h w
  have HAB := ab_b A h
  have HLT : Hid (ab A < 2 ^ 384) := by
    show _ < _
    rw [p384]
    have := HAB.2
    have hP := pw 383
    generalize (2 : Int) ^ 383 = P at *
    omega
  have h00 := HAB.1
  have hsz : (sm A).size = 6 := rfl
  have HSG : Hid (Sg A) := h
  clear h HAB
  generalize sm A = ca at *
  go_enter Try.func23, Try.ntmps23
  go_wp2_with (refine wpList_load6 29 _ Try.underlying29 sizeRSum rfl _ rfl w.heap.size ca rfl hsz hv0 ?_)
  clear hv
  refine (HAP.out _).mono ?_
  rintro e1 w1 ⟨g, rfl, hg, hb1, hw1⟩
  have b1 := below_chain hvb hw1 (Nat.le_refl _)
  have s1 := hw1.size
  have q1 := (hw1.block _ (by omega)).trans hv1
  have HB1 : Hid (Bits w1 g (ab A)) := hb1
  have lg : g < w1.heap.size := World.rowIs.lt hb1
  clear hw1 hb1 hvb hv0 hv1 HAP
  go_wp2_with (fail)
  refine (rsize_any (ab A) _ 384 384 _ (by omega) h00 HLT.out HB1.out.br).mono ?_
  rintro e2 w2 ⟨⟨n, rfl, hn384, hlen⟩, hw2⟩
  subst w2
  have HLEN : Hid (IsLen (ab A) n) := hlen
  clear hlen
  have hbadr : Below w.heap.size w (w1.setRow (w.heap.size + 1) (sm 0)) := below_setRow (w.heap.size + 1) (sm 0) b1 (by omega)
  have hbadl : (loadVar 29 ⟨w.heap.size + 1, 0, none⟩).run Try.prog (w1.setRow (w.heap.size + 1) (sm 0)) = .ok (.agg (sm 0)) (w1.setRow (w.heap.size + 1) (sm 0)) :=
    run_loadVar_row _ _ 29 29 _ (0, 0) _ (setRow_heap w1 (w.heap.size + 1) _ _ 29 (0, 0) q1) Try.underlying29 rfl sizeRSum
  have hone := sm_one 0
  by_cases hn : n = 0
  · subst hn
    have hA : A = 0 := by
      rw [← ab_zero]
      have h5 := HLEN.out.1
      rw [Int.pow_zero] at h5; omega
    have HG : Hid (shV A k = 0 ∧ shE A k = 0) := by show _ ∧ _; rw [hA]; exact sh_zero k
    clear hA
    go_wp2_with (refine wpList_store6 29 sizeRSum rfl _ _ rfl (w.heap.size + 1) (sm 0) _ rfl (by rw [← zeros_sm]; rfl) rfl rfl hone q1 ?_)
    refine bodyPost_ret (v := .tuple #[.agg (sm 0), .int .i64 0]) ?_ rfl ⟨by rw [HG.out.1, HG.out.2], hbadr⟩
    simp [results, Try.results23, asAddr, hbadl]
  · have hA : ¬ A = 0 := fun hA => by
      have h5 := len_ge (ab A) n h00 HLEN.out (by omega)
      rw [(ab_zero A).2 hA] at h5
      have := pw (n - 1)
      omega
    have HA0 : Hid (¬ A = 0) := hA
    have hnI : ((n : Int) == 0) = false := by simpa using hn
    clear hA
    by_cases hfar : 384 < k ∨ k < -384
    · have HG : Hid (shV A k = 0 ∧ shE A k = 21) := sh_far A k HA0.out (by omega)
      rcases hfar with hf | hf
      · go_wp2_with (refine wpList_store6 29 sizeRSum rfl _ _ rfl (w.heap.size + 1) (sm 0) _ rfl (by rw [← zeros_sm]; rfl) rfl rfl hone q1 ?_)
        refine bodyPost_ret (v := .tuple #[.agg (sm 0), .int .i64 21]) ?_ rfl ⟨by rw [HG.out.1, HG.out.2], hbadr⟩
        simp [results, Try.results23, asAddr, hbadl]
      · have hf2 : ¬ 384 < k := by omega
        go_wp2_with (refine wpList_store6 29 sizeRSum rfl _ _ rfl (w.heap.size + 1) (sm 0) _ rfl (by rw [← zeros_sm]; rfl) rfl rfl hone q1 ?_)
        refine bodyPost_ret (v := .tuple #[.agg (sm 0), .int .i64 21]) ?_ rfl ⟨by rw [HG.out.1, HG.out.2], hbadr⟩
        simp [results, Try.results23, asAddr, hbadl]
    · have hf1 : ¬ 384 < k := by omega
      have hf2 : ¬ k < -384 := by omega
      clear hfar
      go_wp2
      simp only [decide_eq_false (Int.not_lt.mpr hf1), decide_eq_false (Int.not_lt.mpr hf2), Bool.or_self]
      obtain ⟨sb, hsb⟩ : ∃ sb, decide (A < 0) = sb := ⟨_, rfl⟩
      simp only [hsb]
      have HSB : Hid (decide (A < 0) = sb) := hsb
      clear hsb hbadl hbadr
      obtain ⟨m, hm⟩ : ∃ m : Nat, m = k.toNat := ⟨_, rfl⟩
      obtain ⟨X, hX⟩ : ∃ X : Int, X = if 0 ≤ k then ab A * 2 ^ k.toNat else ab A / 2 ^ (-k).toNat := ⟨_, rfl⟩
      have hm384 : m ≤ 384 := by omega
      have HX0 : Hid (∀ j, j < m → bit X j = 0) := fun j hj => by
        have : 0 ≤ k := by omega
        rw [hX, if_pos this]; exact bit_shift_low _ _ _ (by omega)
      have HXX : Hid (X = if 0 ≤ k then ab A * 2 ^ k.toNat else ab A / 2 ^ (-k).toNat) := hX
      have HMM : Hid (m = k.toNat) := hm
      clear hX hm
      go_loopw [9, 10] (fun c i wr => ∃ j : Nat, j ≤ m ∧ i = .int .i64 j ∧ wr.ownsRow w1.heap.size 3 1 c j (bvals X j) ∧ Below w1.heap.size w1 wr) (fun _ i _ => m - (intOf i).toNat)
      case atStart => exact ⟨0, Nat.zero_le _, rfl, World.ownsRow_nil _ _ _ _, Below.refl _ _⟩
      case round =>
        obtain ⟨j, hj, rfl, hown, hnx⟩ := hrel
        have hszr := hnx.size
        by_cases hjm : j < m
        · have hjk : (j : Int) < k := by have := HMM.out; omega
          have HS : Hid (bvals X (j + 1) = bvals X j ++ [.int .i64 0]) := by show _ = _; rw [bvals_succ, HX0.out j hjm]
          go_wp2_with (at_builtin; refine wpList_append_own _ rfl _ _ 73 rfl w1.heap.size 3 i0 (.int .i64 0) 1 8 Try.underlying73 hi hz0 hz1 hz2 rfl (by decide) _ _ _ rfl (hown.alloc _) ⟨wr.heap.size, 0, none⟩ 1 1 [.int .i64 (0)] rfl rfl ?c1 ?c2 ?c3 ?c4 ?c5 ?_)
          case c1 => exact cell_one_new _ _ _
          case c2 => intro u hu; simp at hu; subst hu; rfl
          case c3 => unfold maxLen; omega
          case c4 => omega
          case c5 => simp; omega
          · intro v' w9 hown' hgrow _
            have hb9 := own_step hszr hown hnx hgrow
            rw [← HS.out] at hown'
            clear hgrow hown hnx
            go_wp2
            exact ⟨⟨j + 1, by omega, by go_num, hown', hb9⟩, by simp [intOf]; omega⟩
        · have hjk : ¬ (j : Int) < k := by have := HMM.out; omega
          obtain rfl : j = m := by omega
          go_wp2
          clear hjk
          by_cases hkp : 0 ≤ k
          · obtain ⟨m', rfl⟩ := Int.eq_ofNat_of_zero_le hkp
            have hmm : j = m' := by have := HMM.out; omega
            subst hmm
            have hXe : X = ab A * 2 ^ j := by have := HXX.out; rw [if_pos hkp, Int.toNat_natCast] at this; exact this
            have HX1 : Hid (0 ≤ X) := by show _ ≤ _; rw [hXe]; exact Int.mul_nonneg h00 (Int.le_of_lt (pw j))
            have HX2 : Hid (X < 2 ^ (j + n)) := by
              show _ < _
              rw [hXe, Int.pow_add, Int.mul_comm]
              exact Int.mul_lt_mul_of_pos_left HLEN.out.1 (pw j)
            have HXB : Hid (∀ t, bit X (j + t) = bit (ab A) t) := fun t => by rw [hXe]; exact bit_shift _ _ _
            obtain ⟨V, hV⟩ : ∃ V : Int, V = A * 2 ^ j := ⟨_, rfl⟩
            have HV : Hid (V = if sb = true then -X else X) := by
              show _ = _
              rw [hV, hXe, ← HSB.out]
              unfold ab
              by_cases h9 : A < 0
              · rw [if_pos h9, if_pos (by simpa using h9), Int.neg_mul, Int.neg_neg]
              · rw [if_neg h9, if_neg (by simpa using h9)]
            have HFIN : Hid ((whB V = true → shV A j = whV V ∧ shE A j = 0) ∧ (whB V = false → shV A j = 0 ∧ shE A j = 21)) := by
              exact up_fin A j V HA0.out hV (by omega) trivial
            clear hXe hV
            have hown0 := hown
            have hnx0 := hnx
            have HST : Hid (wr.ownsRow w1.heap.size 3 1 u9 j (bvals X j) ∧ Below w1.heap.size w1 wr) := ⟨hown, hnx⟩
            clear hown hnx hown0 hnx0
            rename World => wr0
            go_loopw [9, 11] (fun c i wr => ∃ t : Nat, t ≤ n ∧ i = .int .i64 t ∧ wr.ownsRow w1.heap.size 3 1 c (j + t) (bvals X (j + t)) ∧ Below w1.heap.size w1 wr) (fun _ i _ => n - (intOf i).toNat)
            case atStart => exact ⟨0, Nat.zero_le _, rfl, HST.out.1, HST.out.2⟩
            case round =>
              clear HST
              obtain ⟨t, ht, rfl, hown, hnx⟩ := hrel
              have hszr := hnx.size
              by_cases htn : t < n
              · have d1 := (hnx.cell (p := ⟨g, t, none⟩) lg).trans (World.rowIs.cell HB1.out (show t < 384 by omega))
                have hpos : ¬ (t : Int) + (j : Int) < 0 := by omega
                have htI : (t : Int) < 384 := by omega
                have HS : Hid (bvals X (j + (t + 1)) = bvals X (j + t) ++ [.int .i64 (bit (ab A) t)]) := by show _ = _; rw [← Nat.add_assoc, bvals_succ, HXB.out]
                generalize bit (ab A) t = bt at *
                go_wp2_with (at_builtin; refine wpList_append_own _ rfl _ _ 73 rfl w1.heap.size 3 i0 (.int .i64 0) 1 8 Try.underlying73 hi hz0 hz1 hz2 rfl (by decide) _ _ _ rfl (hown.alloc _) ⟨wr.heap.size, 0, none⟩ 1 1 [.int .i64 (bt)] rfl rfl ?c1 ?c2 ?c3 ?c4 ?c5 ?_)
                skip
                case c2 => rfl
                case c3 => unfold maxLen; omega
                case c4 => omega
                case c5 => omega
                · intro v' w9 hown' hgrow _
                  have hb9 := own_step hszr hown hnx hgrow
                  rw [← HS.out] at hown'
                  clear hgrow hown hnx
                  go_wp2
                  go_roundw
                  case rel => exact ⟨t + 1, by omega, by go_num, hown', hb9⟩
                  case measure => simp [intOf]; omega
              · obtain rfl : t = n := by omega
                have htt : ¬ (t : Int) < (t : Int) := by omega
                obtain ⟨a2, cap2, rfl, hBR⟩ := br_own hown
                have hB0 : w1.heap.size ≤ wr.heap.size := hnx.size
                have bwr := below_chain b1 hnx (Nat.le_refl _)
                have qwr := (hnx.block _ (by omega)).trans q1
                have HW : Hid (∀ w', BR w' a2 (j + t) X → Calls Try.prog 50 #[.bool sb, .slice a2 (j + t) cap2] w' fun e w'' => e = .returned (.tuple #[.agg (sm (whV V)), .bool (whB V)]) ∧ Below w'.heap.size w' w'') := fun w' hbr => by
                  have hv9 := HV.out
                  cases sb with
                  | true => rw [if_pos rfl] at hv9; rw [hv9]; exact rwhole_neg X a2 ((j + t)) cap2 w' (by omega) HX1.out HX2.out hbr
                  | false => rw [if_neg (by decide)] at hv9; rw [hv9]; exact rwhole_pos X a2 ((j + t)) cap2 w' (by omega) HX1.out HX2.out hbr
                have HBR : Hid (BR wr a2 (j + t) X) := hBR
                have HF := HFIN.out
                clear hown hnx hBR
                go_wp2_with (fail)
                refine (HW.out _ HBR.out).mono ?_
                rintro e5 w5 ⟨rfl, hw5⟩
                have b5 := below_chain bwr hw5 (Nat.le_refl _)
                have s5 := hw5.size
                have q5 := (hw5.block _ (by omega)).trans qwr
                have honeV := sm_one (whV V)
                have hal := heap_alloc_last w5 (.cells #[.int .u64 0, .int .u64 0, .int .u64 0, .int .u64 0, .int .u64 0, .int .u64 0] 29)
                obtain ⟨w6, hw6, b56, s6, q6⟩ := new_sum (W := w5) 29 (whV V)
                have b6 := below_chain b5 b56 (Nat.le_refl _)
                have q7 := (b56.block _ (by omega)).trans q5
                clear hw5 b5 b56 q5 bwr qwr HW HBR
                cases hwb : whB V with
                | true =>
                  have HG : Hid (shV A j = whV V ∧ shE A j = 0) := HF.1 hwb
                  have hbel := below_setRow (w.heap.size + 1) (sm (whV V)) b6 (by omega)
                  have hld : (loadVar 29 ⟨w.heap.size + 1, 0, none⟩).run Try.prog (w6.setRow (w.heap.size + 1) (sm (whV V))) = .ok (.agg (sm (whV V))) (w6.setRow (w.heap.size + 1) (sm (whV V))) :=
                    run_loadVar_row _ _ 29 29 _ (0, 0) _ (setRow_heap w6 (w.heap.size + 1) _ _ 29 (0, 0) q7) Try.underlying29 rfl sizeRSum
                  clear hwb HF
                  go_wp2_with (first
                    | (refine wpList_store6 29 sizeRSum rfl _ _ rfl w5.heap.size (sm (whV V)) _ rfl rfl rfl rfl honeV hal ?_; rw [hw6])
                    | (refine wpList_load6 29 _ Try.underlying29 sizeRSum rfl _ rfl w5.heap.size (sm (whV V)) rfl rfl q6 ?_)
                    | (refine wpList_store6 29 sizeRSum rfl _ _ rfl (w.heap.size + 1) (sm (whV V)) _ rfl rfl rfl rfl honeV q7 ?_))
                  refine bodyPost_ret (v := .tuple #[.agg (sm (whV V)), .int .i64 0]) ?_ rfl ⟨by rw [HG.out.1, HG.out.2], hbel⟩
                  simp [results, Try.results23, asAddr, hld]
                | false =>
                  have HG : Hid (shV A j = 0 ∧ shE A j = 21) := HF.2 hwb
                  have hbel := below_setRow (w.heap.size + 1) (sm 0) b6 (by omega)
                  have hld : (loadVar 29 ⟨w.heap.size + 1, 0, none⟩).run Try.prog (w6.setRow (w.heap.size + 1) (sm 0)) = .ok (.agg (sm 0)) (w6.setRow (w.heap.size + 1) (sm 0)) :=
                    run_loadVar_row _ _ 29 29 _ (0, 0) _ (setRow_heap w6 (w.heap.size + 1) _ _ 29 (0, 0) q7) Try.underlying29 rfl sizeRSum
                  clear hwb HF
                  go_wp2_with (first
                    | (refine wpList_store6 29 sizeRSum rfl _ _ rfl w5.heap.size (sm (whV V)) _ rfl rfl rfl rfl honeV hal ?_; rw [hw6])
                    | (refine wpList_store6 29 sizeRSum rfl _ _ rfl (w.heap.size + 1) (sm 0) _ rfl (by rw [← zeros_sm]; rfl) rfl rfl hone q7 ?_))
                  refine bodyPost_ret (v := .tuple #[.agg (sm 0), .int .i64 21]) ?_ rfl ⟨by rw [HG.out.1, HG.out.2], hbel⟩
                  simp [results, Try.results23, asAddr, hld]
          · obtain ⟨p, rfl⟩ : ∃ p : Nat, k = -(p : Int) := ⟨(-k).toNat, by omega⟩
            have hp0 : 0 < p := by omega
            have hp384 : p ≤ 384 := by omega
            have hj0 : j = 0 := by have := HMM.out; omega
            subst hj0
            rw [show ((0 : Nat) : Int) = 0 from rfl]
            have hXe : X = ab A / 2 ^ p := by have := HXX.out; rw [if_neg hkp, show (- -(p : Int)).toNat = p from by omega] at this; exact this
            have HX1 : Hid (0 ≤ X) := by show _ ≤ _; rw [hXe]; exact Int.ediv_nonneg h00 (Int.le_of_lt (pw p))
            have HXB : Hid (∀ t, p ≤ t → bit X (t - p) = bit (ab A) t) := fun t ht => by
              rw [hXe]; unfold bit
              rw [Int.ediv_ediv_of_nonneg (Int.le_of_lt (pw p)), ← Int.pow_add, show p + (t - p) = t from by omega]
            have HXE : Hid (X = ab A / 2 ^ p) := hXe
            obtain ⟨V, hV⟩ : ∃ V : Int, V = if sb = true then -X else X := ⟨_, rfl⟩
            have HV : Hid (V = if sb = true then -X else X) := hV
            have HST : Hid (wr.ownsRow w1.heap.size 3 1 u9 0 (bvals X 0) ∧ Below w1.heap.size w1 wr) := ⟨hown, hnx⟩
            clear hXe hV hown hnx
            rename World => wr0
            go_loopw [9, 11] (fun c i wr => ∃ t : Nat, t ≤ n ∧ i = .int .i64 t ∧ ab A % 2 ^ (min t p) = 0 ∧ wr.ownsRow w1.heap.size 3 1 c (t - p) (bvals X (t - p)) ∧ Below w1.heap.size w1 wr) (fun _ i _ => n - (intOf i).toNat)
            case atStart => exact ⟨0, Nat.zero_le _, rfl, by rw [Nat.zero_min, Int.pow_zero, Int.emod_one], by rw [Nat.zero_sub]; exact HST.out.1, HST.out.2⟩
            case round =>
              clear HST
              obtain ⟨t, ht, rfl, hzm, hown, hnx⟩ := hrel
              have HZM : Hid (ab A % 2 ^ (min t p) = 0) := hzm
              clear hzm
              have hszr := hnx.size
              by_cases htn : t < n
              · have d1 := (hnx.cell (p := ⟨g, t, none⟩) lg).trans (World.rowIs.cell HB1.out (show t < 384 by omega))
                have htI : (t : Int) < 384 := by omega
                by_cases htp : t < p
                · have hneg : (t : Int) + -(p : Int) < 0 := by omega
                  have hbb := bit_b (ab A) t
                  by_cases hb : bit (ab A) t = 1
                  · have HG : Hid (shV A (-(p : Int)) = 0 ∧ shE A (-(p : Int)) = 21) := dn_lost A p t HA0.out hp0 hp384 htp hb
                    rw [hb] at d1
                    have qwr := (hnx.block _ (by omega)).trans q1
                    have hbel := below_setRow (w.heap.size + 1) (sm 0) (below_chain b1 hnx (Nat.le_refl _)) (by omega)
                    have hld : (loadVar 29 ⟨w.heap.size + 1, 0, none⟩).run Try.prog (wr.setRow (w.heap.size + 1) (sm 0)) = .ok (.agg (sm 0)) (wr.setRow (w.heap.size + 1) (sm 0)) :=
                      run_loadVar_row _ _ 29 29 _ (0, 0) _ (setRow_heap wr (w.heap.size + 1) _ _ 29 (0, 0) qwr) Try.underlying29 rfl sizeRSum
                    clear hb hbb hown hnx
                    go_wp2_with (refine wpList_store6 29 sizeRSum rfl _ _ rfl (w.heap.size + 1) (sm 0) _ rfl (by rw [← zeros_sm]; rfl) rfl rfl hone qwr ?_)
                    refine bodyPost_ret (v := .tuple #[.agg (sm 0), .int .i64 21]) ?_ rfl ⟨by rw [HG.out.1, HG.out.2], hbel⟩
                    simp [results, Try.results23, asAddr, hld]
                  · have hb0 : bit (ab A) t = 0 := by omega
                    have HNX : Hid (ab A % 2 ^ (min (t + 1) p) = 0) := by
                      show _ = _
                      have h5 := HZM.out
                      rw [Nat.min_eq_left (by omega)] at h5
                      rw [Nat.min_eq_left (by omega), low_bit, hb0, h5]; simp
                    have HOW : Hid (wr.ownsRow w1.heap.size 3 1 u9 (t + 1 - p) (bvals X (t + 1 - p)) ∧ Below w1.heap.size w1 wr) := by
                      rw [show t + 1 - p = t - p from by omega]; exact ⟨hown, hnx⟩
                    rw [hb0] at d1
                    clear hb hbb hb0 hown hnx
                    go_wp2
                    go_roundw
                    case rel => exact ⟨t + 1, by omega, by go_num, HNX.out, HOW.out.1, HOW.out.2⟩
                    case measure => simp [intOf]; omega
                · have hneg : ¬ (t : Int) + -(p : Int) < 0 := by omega
                  have HNX : Hid (ab A % 2 ^ (min (t + 1) p) = 0) := by
                    show _ = _
                    have h5 := HZM.out
                    rw [Nat.min_eq_right (by omega)] at h5
                    rw [Nat.min_eq_right (by omega)]; exact h5
                  have HS : Hid (bvals X (t + 1 - p) = bvals X (t - p) ++ [.int .i64 (bit (ab A) t)]) := by show _ = _; rw [show t + 1 - p = (t - p) + 1 from by omega, bvals_succ, HXB.out t (by omega)]
                  generalize bit (ab A) t = bt at *
                  go_wp2_with (at_builtin; refine wpList_append_own _ rfl _ _ 73 rfl w1.heap.size 3 i0 (.int .i64 0) 1 8 Try.underlying73 hi hz0 hz1 hz2 rfl (by decide) _ _ _ rfl (hown.alloc _) ⟨wr.heap.size, 0, none⟩ 1 1 [.int .i64 (bt)] rfl rfl ?n1 ?n2 ?n3 ?n4 ?n5 ?_)
                  skip
                  case n2 => rfl
                  case n3 => unfold maxLen; omega
                  case n4 => omega
                  case n5 => omega
                  · intro v' w9 hown' hgrow _
                    have hb9 := own_step hszr hown hnx hgrow
                    rw [← HS.out, show t - p + 1 = t + 1 - p from by omega] at hown'
                    clear hgrow hown hnx
                    go_wp2
                    go_roundw
                    case rel => exact ⟨t + 1, by omega, by go_num, HNX.out, hown', hb9⟩
                    case measure => simp [intOf]; omega
              · obtain rfl : t = n := by omega
                have htt : ¬ (t : Int) < (t : Int) := by omega
                have hpt : p < t := dn_more A p t h00 HLEN.out (by omega) HZM.out
                have hzp : ab A % 2 ^ p = 0 := by
                  have h5 := HZM.out
                  rw [Nat.min_eq_right (by omega)] at h5; exact h5
                have HX2 : Hid (X < 2 ^ (t - p)) := by
                  show _ < _
                  rw [HXE.out]
                  refine Int.ediv_lt_of_lt_mul (pw p) ?_
                  rw [← Int.pow_add, show t - p + p = t from by omega]; exact HLEN.out.1
                have HFIN : Hid ((whB V = true → shV A (-(p : Int)) = whV V ∧ shE A (-(p : Int)) = 0) ∧ (whB V = false → shV A (-(p : Int)) = 0 ∧ shE A (-(p : Int)) = 21)) := dn_fin A p V X sb HSG.out HA0.out hp0 (by omega) hzp HXE.out HSB.out HV.out
                clear hzp
                obtain ⟨a2, cap2, rfl, hBR⟩ := br_own hown
                have hB0 : w1.heap.size ≤ wr.heap.size := hnx.size
                have bwr := below_chain b1 hnx (Nat.le_refl _)
                have qwr := (hnx.block _ (by omega)).trans q1
                have HW : Hid (∀ w', BR w' a2 (t - p) X → Calls Try.prog 50 #[.bool sb, .slice a2 (t - p) cap2] w' fun e w'' => e = .returned (.tuple #[.agg (sm (whV V)), .bool (whB V)]) ∧ Below w'.heap.size w' w'') := fun w' hbr => by
                  have hv9 := HV.out
                  cases sb with
                  | true => rw [if_pos rfl] at hv9; rw [hv9]; exact rwhole_neg X a2 ((t - p)) cap2 w' (by omega) HX1.out HX2.out hbr
                  | false => rw [if_neg (by decide)] at hv9; rw [hv9]; exact rwhole_pos X a2 ((t - p)) cap2 w' (by omega) HX1.out HX2.out hbr
                have HBR : Hid (BR wr a2 (t - p) X) := hBR
                have HF := HFIN.out
                clear hown hnx hBR
                go_wp2_with (fail)
                refine (HW.out _ HBR.out).mono ?_
                rintro e5 w5 ⟨rfl, hw5⟩
                have b5 := below_chain bwr hw5 (Nat.le_refl _)
                have s5 := hw5.size
                have q5 := (hw5.block _ (by omega)).trans qwr
                have honeV := sm_one (whV V)
                have hal := heap_alloc_last w5 (.cells #[.int .u64 0, .int .u64 0, .int .u64 0, .int .u64 0, .int .u64 0, .int .u64 0] 29)
                obtain ⟨w6, hw6, b56, s6, q6⟩ := new_sum (W := w5) 29 (whV V)
                have b6 := below_chain b5 b56 (Nat.le_refl _)
                have q7 := (b56.block _ (by omega)).trans q5
                clear hw5 b5 b56 q5 bwr qwr HW HBR
                cases hwb : whB V with
                | true =>
                  have HG : Hid (shV A (-(p : Int)) = whV V ∧ shE A (-(p : Int)) = 0) := HF.1 hwb
                  have hbel := below_setRow (w.heap.size + 1) (sm (whV V)) b6 (by omega)
                  have hld : (loadVar 29 ⟨w.heap.size + 1, 0, none⟩).run Try.prog (w6.setRow (w.heap.size + 1) (sm (whV V))) = .ok (.agg (sm (whV V))) (w6.setRow (w.heap.size + 1) (sm (whV V))) :=
                    run_loadVar_row _ _ 29 29 _ (0, 0) _ (setRow_heap w6 (w.heap.size + 1) _ _ 29 (0, 0) q7) Try.underlying29 rfl sizeRSum
                  clear hwb HF
                  go_wp2_with (first
                    | (refine wpList_store6 29 sizeRSum rfl _ _ rfl w5.heap.size (sm (whV V)) _ rfl rfl rfl rfl honeV hal ?_; rw [hw6])
                    | (refine wpList_load6 29 _ Try.underlying29 sizeRSum rfl _ rfl w5.heap.size (sm (whV V)) rfl rfl q6 ?_)
                    | (refine wpList_store6 29 sizeRSum rfl _ _ rfl (w.heap.size + 1) (sm (whV V)) _ rfl rfl rfl rfl honeV q7 ?_))
                  refine bodyPost_ret (v := .tuple #[.agg (sm (whV V)), .int .i64 0]) ?_ rfl ⟨by rw [HG.out.1, HG.out.2], hbel⟩
                  simp [results, Try.results23, asAddr, hld]
                | false =>
                  have HG : Hid (shV A (-(p : Int)) = 0 ∧ shE A (-(p : Int)) = 21) := HF.2 hwb
                  have hbel := below_setRow (w.heap.size + 1) (sm 0) b6 (by omega)
                  have hld : (loadVar 29 ⟨w.heap.size + 1, 0, none⟩).run Try.prog (w6.setRow (w.heap.size + 1) (sm 0)) = .ok (.agg (sm 0)) (w6.setRow (w.heap.size + 1) (sm 0)) :=
                    run_loadVar_row _ _ 29 29 _ (0, 0) _ (setRow_heap w6 (w.heap.size + 1) _ _ 29 (0, 0) q7) Try.underlying29 rfl sizeRSum
                  clear hwb HF
                  go_wp2_with (first
                    | (refine wpList_store6 29 sizeRSum rfl _ _ rfl w5.heap.size (sm (whV V)) _ rfl rfl rfl rfl honeV hal ?_; rw [hw6])
                    | (refine wpList_store6 29 sizeRSum rfl _ _ rfl (w.heap.size + 1) (sm 0) _ rfl (by rw [← zeros_sm]; rfl) rfl rfl hone q7 ?_))
                  refine bodyPost_ret (v := .tuple #[.agg (sm 0), .int .i64 21]) ?_ rfl ⟨by rw [HG.out.1, HG.out.2], hbel⟩
                  simp [results, Try.results23, asAddr, hld]
end Ty
end Go.Proofs.Ytbnmjmlcedkoaaa
