import Derived.Test.YtobhmadckoemdaaTyRz
import Derived.Test.YtobhmadckoemdaaTyAw
import Derived.Test.YtobhmadckoemdaaTySh
import Derived.Deep.DeepCutAuto
import Derived.Deep.CutBlock
namespace Go.Proofs.Ytobhmadckoemdaa
namespace Ty
open Go.RowKit
set_option linter.unusedVariables false
theorem isLen_one (N : Int) (a b : Nat) (h0 : 0 ≤ N) (ha : IsLen N a) (hb : IsLen N b) : a = b := by
  have key : ∀ a b : Nat, IsLen N a → IsLen N b → ¬ a < b := by
    intro a b ha hb hlt
    have h1 := hb.2 (by omega)
    have h2 := bit_zero_up N (b - 1) a h0 ha.1 (by omega)
    omega
  have h1 := key a b ha hb
  have h2 := key b a hb ha
  omega
/-- The half and the rest behind k dropped bits. -/
def hk (Q : Int) (h0 : Bool) (k : Nat) : Bool := if k = 0 then h0 else bit Q (k - 1) == 1
def rk (Q : Int) (h0 s0 : Bool) (k : Nat) : Bool := if k = 0 then s0 else s0 || h0 || Q % 2 ^ (k - 1) != 0
theorem hk_succ (Q : Int) (h0 : Bool) (k : Nat) : hk Q h0 (k + 1) = (bit Q k == 1) := rfl
theorem rk_succ (Q : Int) (h0 s0 : Bool) (k : Nat) : rk Q h0 s0 (k + 1) = (rk Q h0 s0 k || hk Q h0 k) := by
  unfold rk hk
  by_cases h : k = 0
  · subst h; simp [Int.emod_one]
  · obtain ⟨m, rfl⟩ : ∃ m, k = m + 1 := ⟨k - 1, by omega⟩
    rw [if_neg (by omega), if_neg (by omega), if_neg (by omega), Nat.add_sub_cancel, Nat.add_sub_cancel]
    have e := low_bit Q m
    have hb := bit_b Q m
    have h1 := Int.emod_nonneg Q (Int.ne_of_gt (pw m))
    have hP := pw m
    rw [e]
    rcases (show bit Q m = 0 ∨ bit Q m = 1 by omega) with h | h <;> rw [h]
    · simp
    · have : ¬ (2 ^ m + Q % 2 ^ m = 0) := by omega
      simp [this]
/-- What rounding gives. -/
def rU (neg : Bool) (size : Int) : Int := if 2139095040 ≤ size then 0 else size + if neg then 2147483648 else 0
def rE (size : Int) : Int := if 2139095040 ≤ size then 20 else 0
def b2i (b : Bool) : Int := if b then 1 else 0
/-- Bits to be dropped so that 24 are left. -/
def dr (L : Nat) : Nat := L - 24
theorem kept_b (Q : Int) (L : Nat) (h0 : 0 ≤ Q) (hL : IsLen Q L) : 0 ≤ Q / 2 ^ dr L ∧ Q / 2 ^ dr L < 16777216 ∧ (0 < dr L → 8388608 ≤ Q / 2 ^ dr L) := by
  obtain ⟨h1, h2⟩ := hL
  have hP := pw (dr L)
  have a : 0 ≤ Q / 2 ^ dr L := Int.ediv_nonneg h0 (by omega)
  refine ⟨a, ?_, fun hd => ?_⟩
  · refine Int.ediv_lt_of_lt_mul hP ?_
    have e : (16777216 : Int) = 2 ^ 24 := by decide
    rw [e, ← Int.pow_add]
    have h3 := pow_mono L (24 + dr L) (by unfold dr; omega)
    omega
  · have hl : L = dr L + 24 := by unfold dr at *; omega
    have hb := h2 (by omega)
    have e : bit Q (L - 1) = Q / 2 ^ dr L / 8388608 % 2 := by
      unfold bit
      rw [show L - 1 = dr L + 23 from by omega, Int.pow_add, ← Int.ediv_ediv_of_nonneg (by omega)]
      rfl
    rw [e] at hb
    generalize Q / 2 ^ dr L = x at *
    omega
theorem dv2 (Q : Int) (k : Nat) : Q / 2 ^ k = 2 * (Q / 2 ^ (k + 1)) + bit Q k := by
  unfold bit
  rw [Int.pow_succ, ← Int.ediv_ediv_of_nonneg (Int.le_of_lt (pw k))]
  generalize Q / 2 ^ k = x
  omega
set_option maxRecDepth 8000 in
set_option maxHeartbeats 1600000 in
theorem pack_any (Q : Int) (g : Nat) (L : Nat) (neg h0 s0 : Bool) (mode : Int) (q0 : 0 ≤ Q) (q1 : Q < 2 ^ 384) (hL : IsLen Q L) (hl : L ≤ 384) (m0 : 0 ≤ mode) (m1 : mode ≤ 3) (w : World) (hb : Bits w g Q) :
    Calls Try.prog 44 #[.bool neg, .slice (some ⟨g, 0, none⟩) 384 384, .bool h0, .bool s0, .int .i64 mode] w fun e w' =>
      e = .returned (.tuple #[.int .u32 (rU neg (dr L * 8388608 + Q / 2 ^ dr L + b2i (aw mode neg (Q / 2 ^ dr L % 2 == 1) (hk Q h0 (dr L)) (rk Q h0 s0 (dr L))))), .int .i64 (rE (dr L * 8388608 + Q / 2 ^ dr L + b2i (aw mode neg (Q / 2 ^ dr L % 2 == 1) (hk Q h0 (dr L)) (rk Q h0 s0 (dr L)))))]) ∧ w' = w := by
  have hbr : BR w (some ⟨g, 0, none⟩) 384 Q := fun _ => ⟨g, rfl, World.rowIs.lt hb, fun i hi => World.rowIs.cell hb hi⟩
  have HS : Hid (Calls Try.prog 43 #[.slice (some ⟨g, 0, none⟩) 384 384] w fun e w' => e = .returned (.int .i64 L) ∧ w' = w) :=
    (rsize_any Q (some ⟨g, 0, none⟩) 384 384 w (by omega) q0 q1 hbr).mono (by
      rintro e w' ⟨⟨n, he, hn, hi⟩, hw⟩
      exact ⟨by rw [he, isLen_one Q n L q0 hi hL], hw⟩)
  have HB : Hid (∀ i, i < 384 → w.cell? ⟨g, i, none⟩ = some (.int .i64 (bit Q i))) := fun i hi => World.rowIs.cell hb hi
  have HK : Hid (0 ≤ Q / 2 ^ dr L ∧ Q / 2 ^ dr L < 16777216 ∧ (0 < dr L → 8388608 ≤ Q / 2 ^ dr L)) := kept_b Q L q0 hL
  have HZ : Hid (Q / 2 ^ L = 0) := Int.ediv_eq_zero_of_lt q0 hL.1
  have HD : Hid (dr L = L - 24) := rfl
  obtain ⟨d, hd⟩ : ∃ d, d = dr L := ⟨_, rfl⟩
  rw [← hd]
  rw [← hd] at HK HD
  clear hbr hb hL hd q1
  go_enter Try.func44, Try.ntmps44
  go_wp2_with (fail)
  refine HS.out.mono ?_
  rintro e9 w9 ⟨rfl, hw9⟩
  subst w9
  clear HS
  go_upto_region 2 with fail
  go_cut [13] (fun x wx => x = .int .i64 d ∧ wx = w)
  case first =>
    obtain ⟨X, hX⟩ : ∃ X : Int, (L : Int) - 24 = X := ⟨_, rfl⟩
    have HXX : Hid ((L : Int) - 24 = X ∧ d = L - 24) := ⟨hX, HD.out⟩
    have hXw : IntKind.i64.wrap X = X := by rw [IntKind.wrap_i64]; omega
    clear hl HD
    by_cases hx : 0 < X
    · go_wp2
      go_meet
      exact ⟨by have := HXX.out; congr 1; omega, rfl⟩
    · go_wp2
      go_meet
      exact ⟨by have := HXX.out; congr 1; omega, rfl⟩
  case rest =>
    obtain ⟨rfl, hwc⟩ := hcut
    subst wc
    go_wp2
    go_loop [2, 3, 14] (fun h r i => ∃ k : Nat, k ≤ d ∧ i = .int .i64 k ∧ h = .bool (hk Q h0 k) ∧ r = .bool (rk Q h0 s0 k)) (fun _ _ i => d - (intOf i).toNat)
    case atStart => exact ⟨0, by omega, rfl, rfl, rfl⟩
    case round =>
      obtain ⟨k, hkd, rfl, rfl, rfl⟩ := hrel
      by_cases hlt : k < d
      · have hdl : d ≤ 384 := by have := HD.out; omega
        have c1 := HB.out k (by omega)
        have HH : Hid (hk Q h0 (k + 1) = (bit Q k == 1)) := hk_succ Q h0 k
        have HR : Hid (rk Q h0 s0 (k + 1) = (rk Q h0 s0 k || hk Q h0 k)) := rk_succ Q h0 s0 k
        generalize rk Q h0 s0 k = r9 at *
        generalize hk Q h0 k = h9 at *
        have hk384 : (k : Int) < 384 := by omega
        cases r9
        · go_wp2
          go_round
          case rel => exact ⟨k + 1, by omega, by go_num, by rw [HH.out], by rw [HR.out]; rfl⟩
          case measure => simp [intOf]; omega
        · go_wp2
          go_round
          case rel => exact ⟨k + 1, by omega, by go_num, by rw [HH.out], by rw [HR.out]; rfl⟩
          case measure => simp [intOf]; omega
      · obtain rfl : k = d := by omega
        clear hlt hkd
        obtain ⟨h9, eh⟩ : ∃ h9, hk Q h0 k = h9 := ⟨_, rfl⟩
        obtain ⟨r9, er⟩ : ∃ r9, rk Q h0 s0 k = r9 := ⟨_, rfl⟩
        have EH : Hid (hk Q h0 k = h9 ∧ rk Q h0 s0 k = r9) := ⟨eh, er⟩
        rw [eh, er]
        clear eh er
        go_wp2
        go_loop [15, 16] (fun m i => ∃ t : Nat, k ≤ t ∧ t ≤ L ∧ i = .int .i64 ((t : Int) - 1) ∧ m = .int .u32 (Q / 2 ^ t)) (fun _ i => (intOf i + 1).toNat)
        case atStart => exact ⟨L, by have := HD.out; omega, Nat.le_refl _, rfl, by rw [HZ.out]⟩
        case round =>
          obtain ⟨t, htk, htL, rfl, rfl⟩ := hrel
          have hmb : 0 ≤ Q / 2 ^ t ∧ Q / 2 ^ t < 16777216 := by
            have h1 : 0 ≤ Q / 2 ^ t := Int.ediv_nonneg q0 (Int.le_of_lt (pw t))
            have h2 := HK.out.2.1
            have h3 : Q / 2 ^ t ≤ Q / 2 ^ k := by
              obtain ⟨c, rfl⟩ : ∃ c, t = k + c := ⟨t - k, by omega⟩
              rw [Int.pow_add, ← Int.ediv_ediv_of_nonneg (Int.le_of_lt (pw k))]
              exact Int.ediv_le_self _ HK.out.1
            omega
          by_cases hlt : k < t
          · obtain ⟨p, rfl⟩ : ∃ p, t = p + 1 := ⟨t - 1, by omega⟩
            have c1 := HB.out p (by omega)
            have HV : Hid (Q / 2 ^ p = 2 * (Q / 2 ^ (p + 1)) + bit Q p) := dv2 Q p
            have hbb := bit_b Q p
            generalize Q / 2 ^ (p + 1) = M at *
            generalize bit Q p = b at *
            have hpi : ((p + 1 : Nat) : Int) - 1 = (p : Int) := by omega
            have hkp : (k : Int) ≤ (p : Int) := by omega
            have hp384 : (p : Int) < 384 := by omega
            have hpk2 : k ≤ p := by omega
            have hpL : p ≤ L := by omega
            rw [hpi]
            clear hpi hlt htk htL
            go_wp2
            go_round
            case rel => exact ⟨p, hpk2, hpL, rfl, by rw [HV.out]⟩
            case measure => simp [intOf]
          · obtain rfl : t = k := by omega
            clear hlt htk
            have HM : Hid (∃ M, Q / 2 ^ t = M) := ⟨_, rfl⟩
            obtain ⟨M, hM⟩ := HM.out
            have HQM : Hid (Q / 2 ^ t = M) := hM
            rw [hM] at hmb HK
            rw [hM]
            clear hM HM
            have hki : ¬ (t : Int) ≤ (t : Int) - 1 := by omega
            go_upto_block 4 with fail
            go_cut [17] (fun x wx => x = .bool (aw mode neg (M % 2 == 1) h9 r9) ∧ wx = w)
            case first =>
              have hc : mode = 0 ∨ mode = 1 ∨ mode = 2 ∨ mode = 3 := by omega
              rcases hc with rfl | rfl | rfl | rfl
              · by_cases hp : M % 2 = 1
                · have hpb : (M % 2 == 1) = true := by simp [hp]
                  cases h9 <;> cases r9
                  all_goals (go_wp2; go_meet; exact ⟨by simp [aw, hp], rfl⟩)
                · have hpb : (M % 2 == 1) = false := by simp [hp]
                  cases h9 <;> cases r9
                  all_goals (go_wp2; go_meet; exact ⟨by simp [aw, hp], rfl⟩)
              · go_wp2
                go_meet
                exact ⟨rfl, rfl⟩
              · cases neg <;> cases h9 <;> cases r9
                all_goals (go_wp2; go_meet; exact ⟨rfl, rfl⟩)
              · cases neg <;> cases h9 <;> cases r9
                all_goals (go_wp2; go_meet; exact ⟨rfl, rfl⟩)
            case rest =>
              obtain ⟨rfl, hwc⟩ := hcut
              subst wc
              obtain ⟨U, hU⟩ : ∃ U, aw mode neg (M % 2 == 1) h9 r9 = U := ⟨_, rfl⟩
              have HU : Hid (aw mode neg (M % 2 == 1) h9 r9 = U) := hU
              rw [hU]
              clear hU
              have hK0 : M < 8388608 → (t : Int) = 0 := fun h => by
                by_cases h0 : 0 < t
                · have := HK.out.2.2 h0; omega
                · omega
              have HK0 : Hid (M < 8388608 → (t : Int) = 0) := hK0
              have ht : (t : Int) ≤ 360 := by have := HD.out; omega
              clear hK0 HK HD hki htL
              cases U <;> cases neg
              all_goals
                by_cases c1 : M ≤ 8388607
                · have ht0 := HK0.out (by omega)
                  by_cases c2 : M = 8388607
                  · go_wp2
                    go_ret2
                    exact ⟨ret_two (by rw [HQM.out, EH.out.1, EH.out.2, HU.out]; simp only [rU, b2i, if_true, if_false, Bool.false_eq_true]; first | omega | (split <;> omega)) (by rw [HQM.out, EH.out.1, EH.out.2, HU.out]; simp only [rE, b2i, if_true, if_false, Bool.false_eq_true]; first | omega | (split <;> omega)), rfl⟩
                  · go_wp2
                    go_ret2
                    exact ⟨ret_two (by rw [HQM.out, EH.out.1, EH.out.2, HU.out]; simp only [rU, b2i, if_true, if_false, Bool.false_eq_true]; first | omega | (split <;> omega)) (by rw [HQM.out, EH.out.1, EH.out.2, HU.out]; simp only [rE, b2i, if_true, if_false, Bool.false_eq_true]; first | omega | (split <;> omega)), rfl⟩
                by_cases c3 : M = 16777215
                · by_cases c4 : 253 < (t : Int)
                  · go_wp2
                    go_ret2
                    exact ⟨ret_two (by rw [HQM.out, EH.out.1, EH.out.2, HU.out]; simp only [rU, b2i, if_true, if_false, Bool.false_eq_true]; first | omega | (split <;> omega)) (by rw [HQM.out, EH.out.1, EH.out.2, HU.out]; simp only [rE, b2i, if_true, if_false, Bool.false_eq_true]; first | omega | (split <;> omega)), rfl⟩
                  · by_cases c5 : (t : Int) = 253
                    · go_wp2
                      go_ret2
                      exact ⟨ret_two (by rw [HQM.out, EH.out.1, EH.out.2, HU.out]; simp only [rU, b2i, if_true, if_false, Bool.false_eq_true]; first | omega | (split <;> omega)) (by rw [HQM.out, EH.out.1, EH.out.2, HU.out]; simp only [rE, b2i, if_true, if_false, Bool.false_eq_true]; first | omega | (split <;> omega)), rfl⟩
                    · go_wp2
                      go_ret2
                      exact ⟨ret_two (by rw [HQM.out, EH.out.1, EH.out.2, HU.out]; simp only [rU, b2i, if_true, if_false, Bool.false_eq_true]; first | omega | (split <;> omega)) (by rw [HQM.out, EH.out.1, EH.out.2, HU.out]; simp only [rE, b2i, if_true, if_false, Bool.false_eq_true]; first | omega | (split <;> omega)), rfl⟩
                by_cases c4 : 253 < (t : Int)
                · go_wp2
                  go_ret2
                  exact ⟨ret_two (by rw [HQM.out, EH.out.1, EH.out.2, HU.out]; simp only [rU, b2i, if_true, if_false, Bool.false_eq_true]; first | omega | (split <;> omega)) (by rw [HQM.out, EH.out.1, EH.out.2, HU.out]; simp only [rE, b2i, if_true, if_false, Bool.false_eq_true]; first | omega | (split <;> omega)), rfl⟩
                · go_wp2
                  go_ret2
                  exact ⟨ret_two (by rw [HQM.out, EH.out.1, EH.out.2, HU.out]; simp only [rU, b2i, if_true, if_false, Bool.false_eq_true]; first | omega | (split <;> omega)) (by rw [HQM.out, EH.out.1, EH.out.2, HU.out]; simp only [rE, b2i, if_true, if_false, Bool.false_eq_true]; first | omega | (split <;> omega)), rfl⟩
end Ty
end Go.Proofs.Ytobhmadckoemdaa
