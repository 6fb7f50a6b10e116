import Derived.Test.YtbbpnlflihhflaaDoorHxV
import Derived.Deep.DeepCutAuto
namespace Go.Proofs.YtbbpnlflihhflaaDoor
namespace Hx
open Go.RowKit
set_option linter.unusedVariables false
/-- Hexadecimal digits. -/
def nf (acc : Nat) : List UInt8 → Option Nat
  | [] => some acc
  | c :: r => if dv c.toNat < 0 then none else nf (acc * 16 + (dv c.toNat).toNat) r
/-- What the document's ReadHex holds against its text. -/
def rc (l : List UInt8) : Option Int :=
  if Lib.trimPrefix l [45] = [105, 110, 102] then some (Rd.sg (Lib.hasPrefix l [45]) + 2139095040)
  else if 4 < (Lib.trimPrefix l [45]).length ∧ (Lib.trimPrefix l [45]).length ≤ 10 ∧ (Lib.trimPrefix l [45]).take 4 = [110, 97, 110, 58] then
    (nf 0 ((Lib.trimPrefix l [45]).drop 4)).map fun f => Rd.sg (Lib.hasPrefix l [45]) + (((f % 8388608 : Nat) : Int) + 2139095040)
  else if 5 ≤ (Lib.trimPrefix l [45]).length ∧ (Lib.trimPrefix l [45]).take 2 = [48, 120] then
    (match ff ((Lib.trimPrefix l [45]).drop 2) with | (v, true) => some (Rd.sg (Lib.hasPrefix l [45]) + v % 2147483648) | (_, false) => none)
  else some (Rd.sg (Lib.hasPrefix l [45]) + 0)
theorem ff_b (l : List UInt8) : 0 ≤ (ff l).1 ∧ (ff l).1 < 4294967296 := by
  unfold ff
  cases fs l 0 0 0 false with
  | none => simp
  | some x =>
    obtain ⟨m, e, i⟩ := x
    simp only
    split
    · simp
    · cases p10 (l.drop (i + 1)) with
      | mk n o =>
        cases o
        · simp
        · exact rnd_b _ _ _
theorem sixteen (k m d : Nat) (h : m < 16 ^ k) (hk : k ≤ 5) (hd : d < 16) : m * 16 + d < 16 ^ (k + 1) ∧ m < 1048576 := by
  have h1 : 16 ^ k ≤ 16 ^ 5 := Nat.pow_le_pow_right (by omega) hk
  refine ⟨by rw [Nat.pow_succ]; omega, by omega⟩
set_option maxRecDepth 100000 in
set_option maxHeartbeats 2000000 in
theorem rread_any (l : List UInt8) (hl : l.length ≤ 140737488351232) (w : World) (ht : Tb w) :
    Calls Tryd.prog 5 #[.string (bs l)] w fun r w' => r = .returned (.tuple (match rc l with | none => #[.int .u32 0, .int .i64 15] | some v => if hexL v = l then #[.int .u32 v, .int .i64 0] else #[.int .u32 0, .int .i64 15])) ∧ Below w.heap.size w w' := by
  obtain ⟨RES, hRES⟩ : ∃ RES, (match rc l with | none => (#[.int .u32 0, .int .i64 15] : Array Value) | some v => if hexL v = l then #[.int .u32 v, .int .i64 0] else #[.int .u32 0, .int .i64 15]) = RES := ⟨_, rfl⟩
  rw [hRES]
  have HR : Hid ((match rc l with | none => (#[.int .u32 0, .int .i64 15] : Array Value) | some v => if hexL v = l then #[.int .u32 v, .int .i64 0] else #[.int .u32 0, .int .i64 15]) = RES) := hRES
  clear hRES
  have HT : Hid (Tb w) := ht
  have hsz := bs_size l
  have HRC : Hid (rc l = rc l) := rfl
  have hrc0 : rc l = rc l := rfl
  unfold rc at hrc0
  have htl := tp_len l [45]
  obtain ⟨t, hht⟩ : ∃ t, t = Lib.trimPrefix l [45] := ⟨_, rfl⟩
  obtain ⟨n, hhn⟩ : ∃ n, n = Lib.hasPrefix l [45] := ⟨_, rfl⟩
  have hRC : rc l = (if t = [105, 110, 102] then some (Rd.sg n + 2139095040)
    else if 4 < t.length ∧ t.length ≤ 10 ∧ t.take 4 = [110, 97, 110, 58] then (nf 0 (t.drop 4)).map fun f => Rd.sg n + (((f % 8388608 : Nat) : Int) + 2139095040)
    else if 5 ≤ t.length ∧ t.take 2 = [48, 120] then (match ff (t.drop 2) with | (v, true) => some (Rd.sg n + v % 2147483648) | (_, false) => none)
    else some (Rd.sg n + 0)) := by rw [hht, hhn]; rfl
  have HRC2 : Hid (rc l = (if t = [105, 110, 102] then some (Rd.sg n + 2139095040)
    else if 4 < t.length ∧ t.length ≤ 10 ∧ t.take 4 = [110, 97, 110, 58] then (nf 0 (t.drop 4)).map fun f => Rd.sg n + (((f % 8388608 : Nat) : Int) + 2139095040)
    else if 5 ≤ t.length ∧ t.take 2 = [48, 120] then (match ff (t.drop 2) with | (v, true) => some (Rd.sg n + v % 2147483648) | (_, false) => none)
    else some (Rd.sg n + 0))) := hRC
  have HTN : Hid (t = Lib.trimPrefix l [45] ∧ n = Lib.hasPrefix l [45]) := ⟨hht, hhn⟩
  rw [← hht] at htl
  clear ht hrc0 HRC hRC hht hhn
  go_enter Tryd.func5, Tryd.ntmps5
  go_upto_region 2 with (fail)
  go_cut [5] (fun v wx => v = .bool n ∧ wx = w)
  case first =>
    cases l with
    | nil =>
      have hn : n = false := HTN.out.2
      clear HR HRC2 HTN HT
      have h0 : ¬ (0 : Int) < ((bs []).size : Int) := by rw [hsz]; simp
      go_wp2
      go_meet
      exact ⟨by rw [hn], rfl⟩
    | cons c r =>
      have hg : ∀ h, (bs (c :: r))[0]'h = c := fun h => bs_get _ 0 c rfl h
      have h0 : (0 : Int) < ((bs (c :: r)).size : Int) := by rw [hsz, List.length_cons]; omega
      by_cases hc : c = 45
      · subst hc
        have hn : n = true := by rw [HTN.out.2]; cases r <;> rfl
        clear HR HRC2 HTN HT hsz htl
        go_wp2
        go_meet
        exact ⟨by rw [hn], rfl⟩
      · have hn : n = false := by
          rw [HTN.out.2]
          show ((45 : UInt8) == c && List.isPrefixOf [] r) = false
          rw [beq_eq_false_iff_ne.2 (Ne.symm hc)]; rfl
        have q1 : ((c.toNat : Int) == 45) = false := toNat_ne (k := 45) (by omega) hc
        have q2 : ¬ c.toNat = 45 := by simp at q1; omega
        clear HR HRC2 HTN HT hsz htl hc
        go_wp2
        go_meet
        exact ⟨by rw [hn], rfl⟩
  case rest =>
    obtain ⟨rfl, hwc⟩ := hcut
    subst wc
    go_upto_if 20 with (fail)
    go_cut [4] (fun v wx => v = .string (bs t) ∧ wx = w)
    case first =>
      have ht2 := HTN.out.1
      unfold Lib.trimPrefix at ht2
      rw [← HTN.out.2] at ht2
      cases n
      · obtain rfl : t = l := by simpa using ht2
        clear HR HRC2 HTN HT
        go_wp2
        go_meet
        exact ⟨rfl, rfl⟩
      · have hx : (bs l).extract 1 (bs l).size = bs t := by
          rw [bs_ext2]; congr 1; rw [ht2]; rfl
        have h1 : (1 : Int) ≤ ((bs l).size : Int) := by
          cases l with
          | nil => have := HTN.out.2; cases this
          | cons c r => rw [hsz, List.length_cons]; omega
        clear HR HRC2 HTN HT ht2
        go_wp2
        go_meet
        exact ⟨congrArg Value.string hx, rfl⟩
    case rest =>
      obtain ⟨rfl, hwc⟩ := hcut
      subst wc
      have hst := bs_size t
      clear HTN
      by_cases h1 : t = [105, 110, 102]
      · have hrc : rc l = some (Rd.sg n + 2139095040) := by rw [HRC2.out, if_pos h1]
        have hq : ((bs t).toList == [105, 110, 102]) = true := by rw [bs_toList, h1]; rfl
        have HSG : Hid (∀ W, Calls Tryd.prog 12 #[.bool n, .int .u32 2139095040] W fun e w' => e = .returned (.int .u32 (Rd.sg n + 2139095040)) ∧ w' = W) := fun W => Rd.signed_any n 2139095040 (by omega) (by omega) W
        clear HRC2 h1
        have hVb : 0 ≤ Rd.sg n + 2139095040 ∧ Rd.sg n + 2139095040 < 4294967296 := by have := Rd.sg_b n; omega
        have HX : Hid (∀ W, Tb W → Calls Tryd.prog 7 #[.int .u32 (Rd.sg n + 2139095040)] W fun r W' => r = .returned (.string (bs (hexL (Rd.sg n + 2139095040)))) ∧ Below W.heap.size W W') := fun W hW => rhex_any _ hVb.1 hVb.2 W hW
        generalize hVV : Rd.sg n + 2139095040 = VV at *
        go_wp2_with (fail)
        refine (HSG.out _).mono ?_
        rintro e1 w1 ⟨rfl, h1⟩
        subst w1
        clear HSG
        go_wp2_with (fail)
        refine (HX.out _ HT.out).mono ?_
        rintro e1 w1 ⟨rfl, hb1⟩
        clear HX HT
        by_cases hv : hexL VV = l
        · have hq2 : ((bs (hexL VV)).toList == (bs l).toList) = true := by rw [bs_toList, bs_toList, hv]; simp
          obtain rfl : RES = #[.int .u32 VV, .int .i64 0] := by
            have h := HR.out; rw [hrc] at h; simp only at h; rw [if_pos hv] at h; exact h.symm
          clear HR hv hrc
          generalize hexL VV = xx at *
          go_wp2
          go_ret2
          exact ⟨rfl, hb1⟩
        · have hq2 : ((bs (hexL VV)).toList == (bs l).toList) = false := by rw [bs_toList, bs_toList, beq_eq_false_iff_ne]; exact hv
          obtain rfl : RES = #[.int .u32 0, .int .i64 15] := by
            have h := HR.out; rw [hrc] at h; simp only at h; rw [if_neg hv] at h; exact h.symm
          clear HR hv hrc
          generalize hexL VV = xx at *
          go_wp2
          go_ret2
          exact ⟨rfl, hb1⟩
      · have hq : ((bs t).toList == [105, 110, 102]) = false := by rw [bs_toList, beq_eq_false_iff_ne]; exact h1
        have hr2 := HRC2.out
        rw [if_neg h1] at hr2
        replace HRC2 := hr2
        clear hr2
        have HRC3 : Hid (rc l = (if 4 < t.length ∧ t.length ≤ 10 ∧ t.take 4 = [110, 97, 110, 58] then (nf 0 (t.drop 4)).map fun f => Rd.sg n + (((f % 8388608 : Nat) : Int) + 2139095040)
          else if 5 ≤ t.length ∧ t.take 2 = [48, 120] then (match ff (t.drop 2) with | (v, true) => some (Rd.sg n + v % 2147483648) | (_, false) => none)
          else some (Rd.sg n + 0))) := HRC2
        clear HRC2 h1
        have hx4 : (bs t).extract 0 4 = bs (t.take 4) := by rw [bs_ext]; rfl
        have hx2 : (bs t).extract 0 2 = bs (t.take 2) := by rw [bs_ext]; rfl
        go_upto_region 8 with (fail)
        obtain ⟨B4, hB4⟩ : ∃ B4, B4 = decide (4 < t.length ∧ t.length ≤ 10 ∧ t.take 4 = [110, 97, 110, 58]) := ⟨_, rfl⟩
        have HB4 : Hid (B4 = decide (4 < t.length ∧ t.length ≤ 10 ∧ t.take 4 = [110, 97, 110, 58])) := hB4
        clear hB4
        go_cut [26] (fun v wx => v = .bool B4 ∧ wx = w)
        case first =>
          have b4 := bs_toList (t.take 4)
          clear HR HRC3 HT
          by_cases g1 : 4 < t.length
          · have k1 : (4 : Int) < ((bs t).size : Int) := by omega
            have k0 : (4 : Int) ≤ ((bs t).size : Int) := by omega
            by_cases g2 : t.length ≤ 10
            · have k2 : ((bs t).size : Int) ≤ 10 := by omega
              by_cases g3 : t.take 4 = [110, 97, 110, 58]
              · have k3 : ((bs (t.take 4)).toList == [110, 97, 110, 58]) = true := by rw [b4, g3]; rfl
                have kr : B4 = true := HB4.out.trans <| decide_eq_true ⟨g1, g2, g3⟩
                clear HB4 b4 g3 hst
                generalize bs (t.take 4) = z4 at *
                go_wp2
                go_meet
                exact ⟨by rw [kr], rfl⟩
              · have k3 : ((bs (t.take 4)).toList == [110, 97, 110, 58]) = false := by rw [b4, beq_eq_false_iff_ne]; exact g3
                have kr : B4 = false := HB4.out.trans <| decide_eq_false (fun h => g3 h.2.2)
                clear HB4 b4 g3 hst
                generalize bs (t.take 4) = z4 at *
                go_wp2
                go_meet
                exact ⟨by rw [kr], rfl⟩
            · have k2 : ¬ ((bs t).size : Int) ≤ 10 := by omega
              have kr : B4 = false := HB4.out.trans <| decide_eq_false (fun h => g2 h.2.1)
              clear HB4 b4 hst
              go_wp2
              go_meet
              exact ⟨by rw [kr], rfl⟩
          · have k1 : ¬ (4 : Int) < ((bs t).size : Int) := by omega
            have kr : B4 = false := HB4.out.trans <| decide_eq_false (fun h => g1 h.1)
            clear HB4 b4 hst
            go_wp2
            go_meet
            exact ⟨by rw [kr], rfl⟩
        case rest =>
          obtain ⟨rfl, hwc⟩ := hcut
          subst wc
          cases B4
          · have g4 := of_decide_eq_false HB4.out.symm
            have hr4 := HRC3.out
            rw [if_neg g4] at hr4
            have HRC4 : Hid (rc l = (if 5 ≤ t.length ∧ t.take 2 = [48, 120] then (match ff (t.drop 2) with | (v, true) => some (Rd.sg n + v % 2147483648) | (_, false) => none) else some (Rd.sg n + 0))) := hr4
            clear HRC3 HB4 g4 hr4 hx4
            obtain ⟨B2, hB2⟩ : ∃ B2, B2 = decide (5 ≤ t.length ∧ t.take 2 = [48, 120]) := ⟨_, rfl⟩
            have HB2 : Hid (B2 = decide (5 ≤ t.length ∧ t.take 2 = [48, 120])) := hB2
            clear hB2
            go_upto_region 17 with (fail)
            go_cut [60] (fun v wx => v = .bool B2 ∧ wx = w)
            case first =>
              have b4 := bs_toList (t.take 2)
              clear HR HRC4 HT
              by_cases g1 : 5 ≤ t.length
              · have k1 : (5 : Int) ≤ ((bs t).size : Int) := by omega
                have k0 : (2 : Int) ≤ ((bs t).size : Int) := by omega
                by_cases g3 : t.take 2 = [48, 120]
                · have k3 : ((bs (t.take 2)).toList == [48, 120]) = true := by rw [b4, g3]; rfl
                  have kr : B2 = true := HB2.out.trans <| decide_eq_true ⟨g1, g3⟩
                  clear HB2 b4 g3 hst
                  generalize bs (t.take 2) = z4 at *
                  go_wp2
                  go_meet
                  exact ⟨by rw [kr], rfl⟩
                · have k3 : ((bs (t.take 2)).toList == [48, 120]) = false := by rw [b4, beq_eq_false_iff_ne]; exact g3
                  have kr : B2 = false := HB2.out.trans <| decide_eq_false (fun h => g3 h.2)
                  clear HB2 b4 g3 hst
                  generalize bs (t.take 2) = z4 at *
                  go_wp2
                  go_meet
                  exact ⟨by rw [kr], rfl⟩
              · have k1 : ¬ (5 : Int) ≤ ((bs t).size : Int) := by omega
                have kr : B2 = false := HB2.out.trans <| decide_eq_false (fun h => g1 h.1)
                clear HB2 b4 hst
                go_wp2
                go_meet
                exact ⟨by rw [kr], rfl⟩
            case rest =>
              obtain ⟨rfl, hwc⟩ := hcut
              subst wc
              cases B2
              · have g2 := of_decide_eq_false HB2.out.symm
                have hr5 := HRC4.out
                rw [if_neg g2] at hr5
                have HRCX : Hid (rc l = some (Rd.sg n + 0)) := hr5
                have HSG : Hid (∀ W, Calls Tryd.prog 12 #[.bool n, .int .u32 0] W fun e w' => e = .returned (.int .u32 (Rd.sg n + 0)) ∧ w' = W) := fun W => Rd.signed_any n 0 (by omega) (by omega) W
                clear HRC4 HB2 g2 hr5
                have hVb : 0 ≤ Rd.sg n + 0 ∧ Rd.sg n + 0 < 4294967296 := by have := Rd.sg_b n; omega
                have HX : Hid (∀ W, Tb W → Calls Tryd.prog 7 #[.int .u32 (Rd.sg n + 0)] W fun r W' => r = .returned (.string (bs (hexL (Rd.sg n + 0)))) ∧ Below W.heap.size W W') := fun W hW => rhex_any _ hVb.1 hVb.2 W hW
                generalize hVV : Rd.sg n + 0 = VV at *
                clear hVV
                go_wp2_with (fail)
                refine (HSG.out _).mono ?_
                rintro e1 w1 ⟨rfl, h1⟩
                subst w1
                clear HSG
                go_wp2_with (fail)
                refine (HX.out _ HT.out).mono ?_
                rintro e1 w1 ⟨rfl, hb1⟩
                clear HX HT
                by_cases hv : hexL VV = l
                · have hq2 : ((bs (hexL VV)).toList == (bs l).toList) = true := by rw [bs_toList, bs_toList, hv]; simp
                  obtain rfl : RES = #[.int .u32 VV, .int .i64 0] := by
                    have h := HR.out; rw [HRCX.out] at h; simp only at h; rw [if_pos hv] at h; exact h.symm
                  clear HR hv HRCX
                  generalize hexL VV = xx at *
                  go_wp2
                  go_ret2
                  exact ⟨rfl, hb1⟩
                · have hq2 : ((bs (hexL VV)).toList == (bs l).toList) = false := by rw [bs_toList, bs_toList, beq_eq_false_iff_ne]; exact hv
                  obtain rfl : RES = #[.int .u32 0, .int .i64 15] := by
                    have h := HR.out; rw [HRCX.out] at h; simp only at h; rw [if_neg hv] at h; exact h.symm
                  clear HR hv HRCX
                  generalize hexL VV = xx at *
                  go_wp2
                  go_ret2
                  exact ⟨rfl, hb1⟩
              · have g2 := of_decide_eq_true HB2.out.symm
                have hr5 := HRC4.out
                rw [if_pos g2] at hr5
                obtain ⟨v, o, hvo⟩ : ∃ v o, ff (t.drop 2) = (v, o) := ⟨_, _, rfl⟩
                have hfb := ff_b (t.drop 2)
                rw [hvo] at hfb hr5
                simp only at hfb
                have hx : (bs t).extract 2 (bs t).size = bs (t.drop 2) := by
                  rw [bs_ext, hst, List.take_of_length_le (by rw [List.length_drop]; omega)]
                have k2 : (2 : Int) ≤ ((bs t).size : Int) := by omega
                have HFF : Hid (∀ W, Calls Tryd.prog 11 #[.string (bs (t.drop 2))] W fun e w' => e = .returned (.tuple #[.int .u32 v, .bool o]) ∧ w' = W) := fun W => by
                  have h := finite_any (t.drop 2) (by rw [List.length_drop]; omega) W
                  rw [hvo] at h
                  exact h
                have HR5 : Hid (rc l = (match (v, o) with | (v, true) => some (Rd.sg n + v % 2147483648) | (_, false) => none)) := hr5
                clear HRC4 HB2 g2 hr5 hvo hst
                generalize bs (t.drop 2) = tt at *
                cases o
                · have HRCX : Hid (rc l = none) := HR5.out
                  clear HR5
                  obtain rfl : RES = #[.int .u32 0, .int .i64 15] := by
                    have h := HR.out; rw [HRCX.out] at h; exact h.symm
                  clear HR HRCX HT
                  go_wp2_with (fail)
                  refine (HFF.out _).mono ?_
                  rintro e1 w1 ⟨rfl, h1⟩
                  subst w1
                  clear HFF
                  go_wp2
                  go_ret2
                  exact ⟨rfl, Below.refl _ _⟩
                · have HRCX : Hid (rc l = some (Rd.sg n + v % 2147483648)) := HR5.out
                  clear HR5
                  have hm1 : v.tmod 2147483648 = v % 2147483648 := Int.tmod_eq_emod_of_nonneg hfb.1
                  obtain ⟨q9, hr⟩ : ∃ q9, q9 = v % 2147483648 := ⟨_, rfl⟩
                  have hrb : 0 ≤ q9 ∧ q9 < 2147483648 := by omega
                  have hr2 : v % 2147483648 = q9 := hr.symm
                  rw [hr2] at HRCX hm1
                  clear hr
                  have HSG : Hid (∀ W, Calls Tryd.prog 12 #[.bool n, .int .u32 q9] W fun e w' => e = .returned (.int .u32 (Rd.sg n + q9)) ∧ w' = W) := fun W => Rd.signed_any n q9 hrb.1 hrb.2 W
                  go_wp2_with (fail)
                  refine (HFF.out _).mono ?_
                  rintro e1 w1 ⟨rfl, h1⟩
                  subst w1
                  clear HFF
                  have hVb : 0 ≤ Rd.sg n + q9 ∧ Rd.sg n + q9 < 4294967296 := by have := Rd.sg_b n; omega
                  have HX : Hid (∀ W, Tb W → Calls Tryd.prog 7 #[.int .u32 (Rd.sg n + q9)] W fun r W' => r = .returned (.string (bs (hexL (Rd.sg n + q9)))) ∧ Below W.heap.size W W') := fun W hW => rhex_any _ hVb.1 hVb.2 W hW
                  generalize hVV : Rd.sg n + q9 = VV at *
                  clear hVV
                  go_wp2_with (fail)
                  refine (HSG.out _).mono ?_
                  rintro e1 w1 ⟨rfl, h1⟩
                  subst w1
                  clear HSG
                  go_wp2_with (fail)
                  refine (HX.out _ HT.out).mono ?_
                  rintro e1 w1 ⟨rfl, hb1⟩
                  clear HX HT
                  by_cases hv : hexL VV = l
                  · have hq2 : ((bs (hexL VV)).toList == (bs l).toList) = true := by rw [bs_toList, bs_toList, hv]; simp
                    obtain rfl : RES = #[.int .u32 VV, .int .i64 0] := by
                      have h := HR.out; rw [HRCX.out] at h; simp only at h; rw [if_pos hv] at h; exact h.symm
                    clear HR hv HRCX
                    generalize hexL VV = xx at *
                    go_wp2
                    go_ret2
                    exact ⟨rfl, hb1⟩
                  · have hq2 : ((bs (hexL VV)).toList == (bs l).toList) = false := by rw [bs_toList, bs_toList, beq_eq_false_iff_ne]; exact hv
                    obtain rfl : RES = #[.int .u32 0, .int .i64 15] := by
                      have h := HR.out; rw [HRCX.out] at h; simp only at h; rw [if_neg hv] at h; exact h.symm
                    clear HR hv HRCX
                    generalize hexL VV = xx at *
                    go_wp2
                    go_ret2
                    exact ⟨rfl, hb1⟩
          · have g4 := of_decide_eq_true HB4.out.symm
            obtain ⟨g1, g2, g3⟩ := g4
            have hr4 := HRC3.out
            rw [if_pos ⟨g1, g2, g3⟩] at hr4
            have HRC4 : Hid (rc l = (nf 0 (t.drop 4)).map fun f => Rd.sg n + (((f % 8388608 : Nat) : Int) + 2139095040)) := hr4
            have HG : Hid (∀ k c, t[k + 4]? = some c → ∀ h, (bs t)[k + 4]'h = c) := fun k c hk h => bs_get t (k + 4) c hk h
            have HST : Hid ((bs t).size = t.length) := hst
            clear HRC3 HB4 hr4 g3 hst hx4 hx2
            go_wp2
            go_loop [7, 6] (fun i v => ∃ (k f : Nat), k + 4 ≤ t.length ∧ i = .int .i64 ((k : Int) + 4) ∧ v = .int .u32 (f : Int) ∧ f < 16 ^ k ∧ nf 0 (t.drop 4) = nf f (t.drop (k + 4))) (fun i _ => t.length - (intOf i).toNat)
            case atStart => exact ⟨0, 0, by omega, rfl, rfl, by decide, rfl⟩
            case round =>
              obtain ⟨k, f, hk, rfl, rfl, hf1, hf2⟩ := hrel
              have HF : Hid (f < 16 ^ k ∧ nf 0 (t.drop 4) = nf f (t.drop (k + 4))) := ⟨hf1, hf2⟩
              clear hf1 hf2
              by_cases hkl : k + 4 < t.length
              · obtain ⟨c, hc⟩ : ∃ c, t[k + 4]? = some c := ⟨t[k + 4], List.getElem?_eq_getElem hkl⟩
                have hg := HG.out k c hc
                have hcl := c.toNat_lt
                have hks : (k : Int) + 4 < ((bs t).size : Int) := by have := HST.out; omega
                have HD : Hid (t.drop (k + 4) = c :: t.drop (k + 1 + 4)) := by
                  show t.drop (k + 4) = _
                  rw [List.drop_eq_getElem_cons hkl, (List.getElem?_eq_some_iff.1 hc).2, show k + 1 + 4 = k + 4 + 1 by omega]
                have HC : Hid (∀ W, Calls Tryd.prog 10 #[.int .u8 (c.toNat : Int)] W fun e w' => e = .returned (.int .i64 (dv c.toNat)) ∧ w' = W) := fun W => digit_any c.toNat hcl W
                have hdv := dv_b c.toNat
                have HQ : Hid (nf 0 (t.drop 4) = if dv c.toNat < 0 then none else nf (f * 16 + (dv c.toNat).toNat) (t.drop (k + 1 + 4))) := by
                  show nf 0 (t.drop 4) = _
                  rw [HF.out.2, HD.out, nf]
                generalize dv c.toNat = D at *
                clear hc HD
                by_cases hDn : D < 0
                · have HRCX : Hid (rc l = none) := by show rc l = none; rw [HRC4.out, HQ.out, if_pos hDn]; rfl
                  obtain rfl : RES = #[.int .u32 0, .int .i64 15] := by
                    have h := HR.out; rw [HRCX.out] at h; exact h.symm
                  clear HR HRCX HT HRC4 HQ HF HG HST
                  go_wp2_with (fail)
                  refine (HC.out _).mono ?_
                  rintro e1 w1 ⟨rfl, h1⟩
                  subst w1
                  go_wp2
                  go_ret2
                  exact ⟨rfl, Below.refl _ _⟩
                · obtain ⟨d, rfl⟩ : ∃ d : Nat, D = (d : Int) := ⟨D.toNat, by omega⟩
                  obtain ⟨s1, s2⟩ := sixteen k f d HF.out.1 (by omega) (by omega)
                  have HN : Hid (f * 16 + d < 16 ^ (k + 1) ∧ nf 0 (t.drop 4) = nf (f * 16 + d) (t.drop (k + 1 + 4))) := ⟨s1, by rw [HQ.out, if_neg hDn]; rfl⟩
                  have hw1 : IntKind.u32.wrap (d : Int) = (d : Int) := by rw [IntKind.wrap_u32]; omega
                  clear HF HQ HG HST s1 HR HRC4 HT
                  go_wp2_with (fail)
                  refine (HC.out _).mono ?_
                  rintro e1 w1 ⟨rfl, h1⟩
                  subst w1
                  go_wp2
                  exact ⟨⟨k + 1, f * 16 + d, by omega, by go_num, by go_num, HN.out.1, HN.out.2⟩, by simp [intOf]; omega⟩
              · have hke : k + 4 = t.length := by omega
                have hks : ¬ (k : Int) + 4 < ((bs t).size : Int) := by have := HST.out; omega
                have HE : Hid (nf 0 (t.drop 4) = some f) := by show _ = some f; rw [HF.out.2, hke, List.drop_length]; rfl
                have hfb : f < 16777216 := Nat.lt_of_lt_of_le HF.out.1 (Nat.pow_le_pow_right (n := 16) (by omega) (show k ≤ 6 by omega))
                obtain ⟨g, hg⟩ : ∃ g, g = f % 8388608 := ⟨_, rfl⟩
                have HRCX : Hid (rc l = some (Rd.sg n + ((g : Int) + 2139095040))) := by show rc l = _; rw [HRC4.out, HE.out, hg]; rfl
                have hgb : (g : Int) < 8388608 := by omega
                have hm1 : (f : Int).tmod 8388608 = (g : Int) := by rw [Int.tmod_eq_emod_of_nonneg (by omega)]; omega
                have hm2 : (f : Int) % 8388608 = (g : Int) := by omega
                have hm3 : ((g : Int) + 2139095040).tmod 2147483648 = (g : Int) + 2139095040 := by rw [Int.tmod_eq_emod_of_nonneg (by omega)]; omega
                have hm4 : ((g : Int) + 2139095040) % 2147483648 = (g : Int) + 2139095040 := by omega
                have HSG : Hid (∀ W, Calls Tryd.prog 12 #[.bool n, .int .u32 ((g : Int) + 2139095040)] W fun e w' => e = .returned (.int .u32 (Rd.sg n + ((g : Int) + 2139095040))) ∧ w' = W) := fun W => Rd.signed_any n _ (by omega) (by omega) W
                clear HF HE HG HST HRC4 hg hke
                have hVb : 0 ≤ Rd.sg n + ((g : Int) + 2139095040) ∧ Rd.sg n + ((g : Int) + 2139095040) < 4294967296 := by have := Rd.sg_b n; omega
                have HX : Hid (∀ W, Tb W → Calls Tryd.prog 7 #[.int .u32 (Rd.sg n + ((g : Int) + 2139095040))] W fun r W' => r = .returned (.string (bs (hexL (Rd.sg n + ((g : Int) + 2139095040))))) ∧ Below W.heap.size W W') := fun W hW => rhex_any _ hVb.1 hVb.2 W hW
                generalize hVV : Rd.sg n + ((g : Int) + 2139095040) = VV at *
                clear hVV
                go_wp2_with (fail)
                refine (HSG.out _).mono ?_
                rintro e1 w1 ⟨rfl, h1⟩
                subst w1
                clear HSG
                go_wp2_with (fail)
                refine (HX.out _ HT.out).mono ?_
                rintro e1 w1 ⟨rfl, hb1⟩
                clear HX HT
                by_cases hv : hexL VV = l
                · have hq2 : ((bs (hexL VV)).toList == (bs l).toList) = true := by rw [bs_toList, bs_toList, hv]; simp
                  obtain rfl : RES = #[.int .u32 VV, .int .i64 0] := by
                    have h := HR.out; rw [HRCX.out] at h; simp only at h; rw [if_pos hv] at h; exact h.symm
                  clear HR hv HRCX
                  generalize hexL VV = xx at *
                  go_wp2
                  go_ret2
                  exact ⟨rfl, hb1⟩
                · have hq2 : ((bs (hexL VV)).toList == (bs l).toList) = false := by rw [bs_toList, bs_toList, beq_eq_false_iff_ne]; exact hv
                  obtain rfl : RES = #[.int .u32 0, .int .i64 15] := by
                    have h := HR.out; rw [HRCX.out] at h; simp only at h; rw [if_neg hv] at h; exact h.symm
                  clear HR hv HRCX
                  generalize hexL VV = xx at *
                  go_wp2
                  go_ret2
                  exact ⟨rfl, hb1⟩
end Hx
end Go.Proofs.YtbbpnlflihhflaaDoor
