import Derived.Test.YtobhmadckoemdaaTyPk
import Derived.Test.YtobhmadckoemdaaTyLo
namespace Go.Proofs.Ytobhmadckoemdaa
namespace Ty
open Go.RowKit
set_option linter.unusedVariables false
theorem len_ex (Q : Int) (h0 : 0 ≤ Q) : ∀ n : Nat, Q < 2 ^ n → ∃ L, L ≤ n ∧ IsLen Q L
  | 0, h => ⟨0, Nat.le_refl _, h, fun h => by omega⟩
  | n + 1, h => by
    by_cases hn : Q < 2 ^ n
    · obtain ⟨L, hL, hi⟩ := len_ex Q h0 n hn
      exact ⟨L, by omega, hi⟩
    · refine ⟨n + 1, Nat.le_refl _, h, fun _ => ?_⟩
      have hb := bit_b Q n
      by_cases hz : bit Q n = 0
      · exact absurd (len_less Q n h0 h hz) hn
      · show bit Q (n + 1 - 1) = 1
        rw [Nat.add_sub_cancel]; omega
/-- One bit of a division. -/
theorem bd_step (N n : Int) (i : Nat) (h0 : 0 < n) : 0 ≤ 2 * (N / 2 ^ (i + 1) % n) + bit N i ∧ 2 * (N / 2 ^ (i + 1) % n) + bit N i < 2 * n ∧
    (n ≤ 2 * (N / 2 ^ (i + 1) % n) + bit N i → bit (N / n) i = 1 ∧ N / 2 ^ i % n = 2 * (N / 2 ^ (i + 1) % n) + bit N i - n) ∧
    (¬ n ≤ 2 * (N / 2 ^ (i + 1) % n) + bit N i → bit (N / n) i = 0 ∧ N / 2 ^ i % n = 2 * (N / 2 ^ (i + 1) % n) + bit N i) := by
  have hX := dv2 N i
  have hb := bit_b N i
  have e : bit (N / n) i = N / 2 ^ i / n % 2 := by
    unfold bit
    rw [Int.ediv_ediv_of_nonneg (by omega), Int.ediv_ediv_of_nonneg (Int.le_of_lt (pw _)), Int.mul_comm]
  rw [e]
  have hm := Int.mul_ediv_add_emod (N / 2 ^ (i + 1)) n
  have r0 := Int.emod_nonneg (N / 2 ^ (i + 1)) (show n ≠ 0 by omega)
  have r1 := Int.emod_lt_of_pos (N / 2 ^ (i + 1)) h0
  generalize bit N i = b at *
  generalize N / 2 ^ i = Y at *
  generalize N / 2 ^ (i + 1) = X at *
  generalize hq : X / n = q at *
  generalize X % n = r at *
  refine ⟨by omega, by omega, fun h => ?_, fun h => ?_⟩
  · have e1 : Y = (2 * r + b - n) + n * (2 * q + 1) := by rw [hX, Int.mul_add, Int.mul_one, ← Int.mul_assoc, Int.mul_comm n 2, Int.mul_assoc]; omega
    have e2 : Y / n = 2 * q + 1 := by rw [e1, Int.add_mul_ediv_left _ _ (by omega), Int.ediv_eq_zero_of_lt (by omega) (by omega)]; omega
    have e3 : Y % n = 2 * r + b - n := by rw [e1, Int.add_mul_emod_self_left, Int.emod_eq_of_lt (by omega) (by omega)]
    exact ⟨by rw [e2]; omega, e3⟩
  · have e1 : Y = (2 * r + b) + n * (2 * q) := by rw [hX, ← Int.mul_assoc, Int.mul_comm n 2, Int.mul_assoc]; omega
    have e2 : Y / n = 2 * q := by rw [e1, Int.add_mul_ediv_left _ _ (by omega), Int.ediv_eq_zero_of_lt (by omega) (by omega)]; omega
    have e3 : Y % n = 2 * r + b := by rw [e1, Int.add_mul_emod_self_left, Int.emod_eq_of_lt (by omega) (by omega)]
    exact ⟨by rw [e2]; omega, e3⟩
/-- What rounding gives of the n-th part, before sign and span. -/
def sz (A n mode : Int) (L : Nat) : Int :=
  (dr L : Int) * 8388608 + ab A / n / 2 ^ dr L + b2i (aw mode (decide (A < 0)) (ab A / n / 2 ^ dr L % 2 == 1) (hlf (ab A / n) (ab A % n) n (dr L)) (mor (ab A / n) (ab A % n) n (dr L)))
theorem hk_hlf (Q r n : Int) (d : Nat) : hk Q (decide (n - r ≤ r)) d = hlf Q r n d := rfl
theorem rk_mor (Q r n : Int) (d : Nat) (h0 : 0 < n) (r0 : 0 ≤ r) : rk Q (decide (n - r ≤ r)) (r != 0 && r != n - r) d = mor Q r n d := by
  unfold rk mor
  by_cases h : d = 0
  · rw [if_pos h, if_pos h]
  · rw [if_neg h, if_neg h]
    have e : ((r != 0 && r != n - r) || decide (n - r ≤ r)) = (r != 0) := by
      by_cases hz : r = 0
      · subst hz
        have : ¬ n - 0 ≤ 0 := by omega
        simp; omega
      · by_cases h2 : r = n - r
        · have : n - r ≤ r := by omega
          simp [hz, this]
        · have h3 : (r != n - r) = true := by simpa using h2
          simp [hz, h3]
    rw [e]
theorem sz_zero (A n mode : Int) (L : Nat) (h0 : 0 < n) (hA : ab A = 0) (hL : IsLen (ab A / n) L) : sz A n mode L = 0 ∧ decide (A < 0) = false := by
  have hA0 : A = 0 := by unfold ab at hA; split at hA <;> omega
  have e : ab A / n = 0 := by rw [hA]; exact Int.zero_ediv n
  have e2 : ab A % n = 0 := by rw [hA]; exact Int.zero_emod n
  rw [e] at hL
  have hl0 : L = 0 := isLen_one 0 L 0 (by omega) hL ⟨by decide, fun h => by omega⟩
  subst hl0
  have hd : decide (A < 0) = false := by rw [hA0]; rfl
  refine ⟨?_, hd⟩
  unfold sz
  rw [e, e2, hd]
  have h1 : hlf 0 0 n (dr 0) = false := by
    show decide (n - 0 ≤ 0) = false
    exact decide_eq_false (by omega)
  have h2 : mor 0 0 n (dr 0) = false := rfl
  rw [h1, h2]
  unfold aw b2i dr
  simp
def OMid (w1 wr : World) (g1 : Nat) (N n : Int) (k : Nat) : Prop :=
  Below w1.heap.size w1 wr ∧ Bits wr g1 N ∧ wr.rowIs w1.heap.size 3 384 (fun j => .int .i64 (if k ≤ j then bit (N / n) j else 0))
theorem om_start {w1 : World} {g1 : Nat} {N n : Int} (hb : Bits w1 g1 N) : OMid w1 (w1.alloc (.cells mz 3)) g1 N n 384 :=
  ⟨(Below.refl _ _).alloc (Nat.le_refl _) _, World.rowIs.of_block hb (blk_alloc _ _ _ (World.rowIs.lt hb)), (mz_row w1).congr (fun j hj => by rw [if_neg (by omega)])⟩
theorem om_one {w1 wr : World} {g1 : Nat} {N n : Int} {k : Nat} (h : OMid w1 wr g1 N n (k + 1)) (hb : bit (N / n) k = 1) (hg : g1 ≠ w1.heap.size) : OMid w1 (wr.setCell ⟨w1.heap.size, k, none⟩ (.int .i64 1)) g1 N n k := by
  obtain ⟨b1, r0, r1⟩ := h
  refine ⟨b1.setCell (Nat.le_refl _) _, World.rowIs.setOther r0 hg _, (r1.set k _).congr (fun j hj => ?_)⟩
  by_cases e : j = k
  · subst e; rw [if_pos rfl, if_pos (Nat.le_refl _), hb]
  · rw [if_neg e]
    by_cases h : k + 1 ≤ j
    · rw [if_pos h, if_pos (by omega)]
    · rw [if_neg h, if_neg (by omega)]
theorem om_none {w1 wr : World} {g1 : Nat} {N n : Int} {k : Nat} (h : OMid w1 wr g1 N n (k + 1)) (hb : bit (N / n) k = 0) : OMid w1 wr g1 N n k := by
  obtain ⟨b1, r0, r1⟩ := h
  refine ⟨b1, r0, r1.congr (fun j hj => ?_)⟩
  by_cases e : j = k
  · subst e; rw [if_neg (by omega), if_pos (Nat.le_refl _), hb]
  · by_cases h : k + 1 ≤ j
    · rw [if_pos h, if_pos (by omega)]
    · rw [if_neg h, if_neg (by omega)]
set_option maxRecDepth 8000 in
set_option maxHeartbeats 1600000 in
theorem rover_any (A n mode : Int) (L : Nat) (h : Sg A) (h0 : 0 < n) (h1 : n < 18446744073709551616) (m0 : 0 ≤ mode) (m1 : mode ≤ 3) (hL : IsLen (ab A / n) L) (hl : L ≤ 384) (w : World) :
    Calls Try.prog 32 #[.agg (sm A), .int .u64 n, .int .i64 mode] w fun e w' => e = .returned (.tuple #[.int .u32 (rU (decide (A < 0)) (sz A n mode L)), .int .i64 (rE (sz A n mode L))]) ∧ Below w.heap.size w w' := by
  have HA : Hid (∀ w, Calls Try.prog 42 #[.agg (sm A)] w fun e w' => ∃ g, e = .returned (.tuple #[.bool (decide (A < 0)), .slice (some ⟨g, 0, none⟩) 384 384]) ∧ w.heap.size ≤ g ∧ Bits w' g (ab A) ∧ Below w.heap.size w w') := fun w => rapart_any A h w
  have hsa : (sm A).size = 6 := rfl
  obtain ⟨v, hv, hvb, hv0⟩ : ∃ v, w.alloc (.cells (sm A) 40) = v ∧ Below w.heap.size w v ∧ v.heap[w.heap.size]? = some (.cells (sm A) 40 (0, 0)) := ⟨_, rfl, (Below.refl _ _).alloc (Nat.le_refl _) _, heap_alloc_last w _⟩
  have hn0 : (n == 0) = false := beq_false_of_ne (by omega)
  generalize hca : sm A = ca at *
  go_enter Try.func32, Try.ntmps32
  go_wp2_with (refine wpList_load6 40 _ Try.underlying40 sizeRSum rfl _ rfl w.heap.size ca rfl hsa hv0 ?_)
  clear hv
  refine (HA.out _).mono ?_
  rintro e1 w1 ⟨g1, rfl, hg1, hb1, hw1⟩
  have b1 := below_chain hvb hw1 (Nat.le_refl _)
  have hab := ab_b A h
  have ha1 : ab A < 2 ^ 384 := by
    have := pow_mono 383 384 (by omega)
    have e : (2 : Int) ^ 384 = 2 * 2 ^ 383 := p384
    have := pw 383
    omega
  obtain ⟨LA, hLA, hiA⟩ := len_ex (ab A) hab.1 384 ha1
  have hbr : BR w1 (some ⟨g1, 0, none⟩) 384 (ab A) := fun _ => ⟨g1, rfl, World.rowIs.lt hb1, fun i hi => World.rowIs.cell hb1 hi⟩
  have HS : Hid (Calls Try.prog 43 #[.slice (some ⟨g1, 0, none⟩) 384 384] w1 fun e w' => e = .returned (.int .i64 LA) ∧ w' = w1) :=
    (rsize_any (ab A) (some ⟨g1, 0, none⟩) 384 384 w1 (by omega) hab.1 ha1 hbr).mono (by
      rintro e w' ⟨⟨n, he, hn, hi⟩, hw⟩
      exact ⟨by rw [he, isLen_one (ab A) n LA hab.1 hi hiA], hw⟩)
  have HN : Hid (0 ≤ ab A ∧ ab A < 2 ^ 384) := ⟨hab.1, ha1⟩
  have HB1 : Hid (Bits w1 g1 (ab A)) := hb1
  have HLL : Hid (IsLen (ab A / n) L ∧ L ≤ 384) := ⟨hL, hl⟩
  have HW1 : Hid (Below w.heap.size w w1) := b1
  have HIA : Hid (IsLen (ab A) LA) := hiA
  clear hbr hv0 hvb hw1 HA hb1 hab ha1 hL hl b1 h hsa hiA hg1
  go_wp2_with (fail)
  refine HS.out.mono ?_
  rintro e9 w9 ⟨rfl, hw9⟩
  subst w9
  clear HS
  by_cases hz : LA = 0
  · subst hz
    have hA0 : ab A = 0 := by
      have h1 := HIA.out.1
      have h2 := HN.out.1
      simp at h1
      omega
    obtain ⟨z1, z2⟩ := sz_zero A n mode L h0 hA0 HLL.out.1
    have HZ : Hid (sz A n mode L = 0 ∧ decide (A < 0) = false) := ⟨z1, z2⟩
    clear z1 z2 hA0
    go_wp2
    go_ret2
    exact ⟨ret_two (by rw [HZ.out.1, HZ.out.2]; rfl) (by rw [HZ.out.1]; rfl), HW1.out⟩
  · have hzb : ((LA : Int) == 0) = false := beq_false_of_ne (by omega)
    have hmk := make384
    have HST : Hid (∀ n, OMid w1 (w1.alloc (.cells mz 3)) g1 (ab A) n 384) := fun n => om_start HB1.out
    generalize mz = mz0 at *
    go_wp2
    clear hmk
    have hne : g1 ≠ w1.heap.size := by have := World.rowIs.lt HB1.out; omega
    go_loopw [11, 12, 13] (fun r o i wr => ∃ k : Nat, k ≤ 384 ∧ i = .int .i64 ((k : Int) - 1) ∧ r = .int .u64 (ab A / 2 ^ k % n) ∧ (∃ ob, o = .bool ob) ∧ OMid w1 wr g1 (ab A) n k) (fun _ _ i _ => (intOf i + 1).toNat)
    case atStart => exact ⟨384, Nat.le_refl _, rfl, by rw [Int.ediv_eq_zero_of_lt HN.out.1 HN.out.2, Int.zero_emod], ⟨_, rfl⟩, HST.out n⟩
    case round =>
      clear HST
      obtain ⟨k, hk, rfl, rfl, ⟨ob, rfl⟩, hm⟩ := hrel
      by_cases hk0 : 0 < k
      · obtain ⟨p, rfl⟩ : ∃ p, k = p + 1 := ⟨k - 1, by omega⟩
        obtain ⟨s0, s1, s2, s3⟩ := bd_step (ab A) n p h0
        have hr0 := Int.emod_nonneg (ab A / 2 ^ (p + 1)) (show n ≠ 0 by omega)
        have hr1 := Int.emod_lt_of_pos (ab A / 2 ^ (p + 1)) h0
        have c1 := World.rowIs.cell hm.2.1 (show p < 384 by omega)
        have c2 := hm.2.2.cell (show p < 384 by omega)
        have f2 := hm.2.2.frozen p
        have hbb := bit_b (ab A) p
        have hpi : ((p + 1 : Nat) : Int) - 1 = (p : Int) := by omega
        have hp384 : (p : Int) < 384 := by omega
        rw [hpi]
        generalize ab A / 2 ^ (p + 1) % n = R at *
        generalize bit (ab A) p = b at *
        by_cases ht : n ≤ 2 * R + b
        · obtain ⟨t1, t2⟩ := s2 ht
          have HM : Hid (OMid w1 (wr.setCell ⟨w1.heap.size, p, none⟩ (.int .i64 1)) g1 (ab A) n p) := om_one hm t1 hne
          have HR : Hid (ab A / 2 ^ p % n = 2 * R + b - n) := t2
          by_cases ho : 9223372036854775808 ≤ R
          · have ho1 : (R / 9223372036854775808 == 1) = true := by rw [show R / 9223372036854775808 = 1 from by omega]; rfl
            have e1 : IntKind.u64.wrap (2 * R) = 2 * R - 18446744073709551616 := by rw [IntKind.wrap_u64]; omega
            have e2 : IntKind.u64.wrap (2 * R - 18446744073709551616 + b - n) = 2 * R + b - n := by rw [IntKind.wrap_u64]; omega
            clear t1 t2 s2 s3 hm hpi
            go_wp2
            exact ⟨⟨p, by omega, rfl, by rw [HR.out], ⟨_, rfl⟩, HM.out⟩, by simp [intOf]⟩
          · have ho1 : (R / 9223372036854775808 == 1) = false := by rw [show R / 9223372036854775808 = 0 from by omega]; rfl
            have e1 : IntKind.u64.wrap (2 * R) = 2 * R := by rw [IntKind.wrap_u64]; omega
            have e3 : IntKind.u64.wrap (2 * R + b) = 2 * R + b := by rw [IntKind.wrap_u64]; omega
            have e2 : IntKind.u64.wrap (2 * R + b - n) = 2 * R + b - n := by rw [IntKind.wrap_u64]; omega
            clear t1 t2 s2 s3 hm hpi
            go_wp2
            exact ⟨⟨p, by omega, rfl, by rw [HR.out], ⟨_, rfl⟩, HM.out⟩, by simp [intOf]⟩
        · obtain ⟨t1, t2⟩ := s3 ht
          have HM : Hid (OMid w1 wr g1 (ab A) n p) := om_none hm t1
          have HR : Hid (ab A / 2 ^ p % n = 2 * R + b) := t2
          have ho1 : (R / 9223372036854775808 == 1) = false := by rw [show R / 9223372036854775808 = 0 from by omega]; rfl
          have e1 : IntKind.u64.wrap (2 * R) = 2 * R := by rw [IntKind.wrap_u64]; omega
          have e3 : IntKind.u64.wrap (2 * R + b) = 2 * R + b := by rw [IntKind.wrap_u64]; omega
          clear t1 t2 s2 s3 hm hpi c2 f2
          go_wp2
          exact ⟨⟨p, by omega, rfl, by rw [HR.out], ⟨_, rfl⟩, HM.out⟩, by simp [intOf]⟩
      · obtain rfl : k = 0 := by omega
        have hr0 := Int.emod_nonneg (ab A) (show n ≠ 0 by omega)
        have hr1 := Int.emod_lt_of_pos (ab A) h0
        have e0 : ab A / 2 ^ 0 % n = ab A % n := by simp
        rw [e0]
        clear e0
        have hq : Bits wr w1.heap.size (ab A / n) := hm.2.2.congr (fun j hj => by rw [if_pos (Nat.zero_le j)])
        have hbl := below_chain HW1.out hm.1 (Nat.le_refl _)
        have HP : Hid (Calls Try.prog 44 #[.bool (decide (A < 0)), .slice (some ⟨w1.heap.size, 0, none⟩) 384 384, .bool (decide (n - ab A % n ≤ ab A % n)), .bool (ab A % n != 0 && ab A % n != n - ab A % n), .int .i64 mode] wr fun e w' => e = .returned (.tuple #[.int .u32 (rU (decide (A < 0)) (sz A n mode L)), .int .i64 (rE (sz A n mode L))]) ∧ w' = wr) := by
          have hp := pack_any (ab A / n) w1.heap.size L (decide (A < 0)) (decide (n - ab A % n ≤ ab A % n)) (ab A % n != 0 && ab A % n != n - ab A % n) mode (Int.ediv_nonneg HN.out.1 (by omega)) (Int.lt_of_le_of_lt (Int.ediv_le_self _ HN.out.1) HN.out.2) HLL.out.1 HLL.out.2 m0 m1 wr hq
          rw [hk_hlf, rk_mor _ _ _ _ h0 hr0] at hp
          exact hp
        clear hm hq
        generalize ab A % n = R at *
        by_cases c1 : 9223372036854775808 ≤ R
        · have q1 : (R / 9223372036854775808 == 1) = true := by rw [show R / 9223372036854775808 = 1 from by omega]; rfl
          have q2 : (R / 9223372036854775808 == 0) = false := by rw [show R / 9223372036854775808 = 1 from by omega]; rfl
          have q3 : IntKind.u64.wrap (R * 2) = 2 * R - 18446744073709551616 := by rw [IntKind.wrap_u64]; omega
          have q4 : (2 * R - 18446744073709551616 == n) = false := beq_false_of_ne (by omega)
          have q5 : (R == 0) = false := beq_false_of_ne (by omega)
          have q7 : (R != 0) = true := by simp; omega
          have eh : decide (n - R ≤ R) = true := decide_eq_true (by omega)
          have er : (R != 0 && R != n - R) = true := by simp; omega
          rw [eh, er] at HP
          clear eh er
          go_wp2_with (fail)
          refine HP.out.mono ?_
          rintro e9 w9 ⟨rfl, hw9⟩
          subst w9
          go_wp2
          go_ret2
          exact ⟨rfl, hbl⟩
        have q1 : (R / 9223372036854775808 == 1) = false := by rw [show R / 9223372036854775808 = 0 from by omega]; rfl
        have q2 : (R / 9223372036854775808 == 0) = true := by rw [show R / 9223372036854775808 = 0 from by omega]; rfl
        have q3 : IntKind.u64.wrap (R * 2) = 2 * R := by rw [IntKind.wrap_u64]; omega
        by_cases c2 : 2 * R = n
        · have q4 : (2 * R == n) = true := by simp [c2]
          have q5 : (R == 0) = false := beq_false_of_ne (by omega)
          have q7 : (R != 0) = true := by simp; omega
          have q6 : ¬ n < 2 * R := by omega
          have eh : decide (n - R ≤ R) = true := decide_eq_true (by omega)
          have er : (R != 0 && R != n - R) = false := by simp; omega
          rw [eh, er] at HP
          clear eh er
          go_wp2_with (fail)
          refine HP.out.mono ?_
          rintro e9 w9 ⟨rfl, hw9⟩
          subst w9
          go_wp2
          go_ret2
          exact ⟨rfl, hbl⟩
        have q4 : (2 * R == n) = false := beq_false_of_ne c2
        by_cases c3 : n < 2 * R
        · have q5 : (R == 0) = false := beq_false_of_ne (by omega)
          have q7 : (R != 0) = true := by simp; omega
          have eh : decide (n - R ≤ R) = true := decide_eq_true (by omega)
          have er : (R != 0 && R != n - R) = true := by simp; omega
          rw [eh, er] at HP
          clear eh er
          go_wp2_with (fail)
          refine HP.out.mono ?_
          rintro e9 w9 ⟨rfl, hw9⟩
          subst w9
          go_wp2
          go_ret2
          exact ⟨rfl, hbl⟩
        by_cases c4 : R = 0
        · have q5 : (R == 0) = true := by simp [c4]
          have q8 : ¬ n < 0 := by omega
          have eh : decide (n - R ≤ R) = false := decide_eq_false (by omega)
          have er : (R != 0 && R != n - R) = false := by simp; omega
          rw [eh, er] at HP
          clear eh er
          go_wp2_with (fail)
          refine HP.out.mono ?_
          rintro e9 w9 ⟨rfl, hw9⟩
          subst w9
          go_wp2
          go_ret2
          exact ⟨rfl, hbl⟩
        · have q5 : (R == 0) = false := beq_false_of_ne c4
          have q7 : (R != 0) = true := by simp; omega
          have eh : decide (n - R ≤ R) = false := decide_eq_false (by omega)
          have er : (R != 0 && R != n - R) = true := by simp; omega
          rw [eh, er] at HP
          clear eh er
          go_wp2_with (fail)
          refine HP.out.mono ?_
          rintro e9 w9 ⟨rfl, hw9⟩
          subst w9
          go_wp2
          go_ret2
          exact ⟨rfl, hbl⟩
def Bad (n mode : Int) : Prop := n = 0 ∨ mode < 0 ∨ 3 < mode
set_option maxHeartbeats 800000 in
theorem rover_bad (A n mode : Int) (hb : Bad n mode) (h1 : 0 ≤ n) (w : World) :
    Calls Try.prog 32 #[.agg (sm A), .int .u64 n, .int .i64 mode] w fun e w' => e = .returned (.tuple #[.int .u32 0, .int .i64 2]) ∧ Below w.heap.size w w' := by
  have hB : Below w.heap.size w (w.alloc (.cells (sm A) 40)) := (Below.refl _ _).alloc (Nat.le_refl _) _
  generalize sm A = ca at *
  by_cases c1 : n = 0
  · subst c1
    clear hb
    go_enter Try.func32, Try.ntmps32
    go_wp2
    go_ret2
    exact ⟨rfl, hB⟩
  have hn0 : (n == 0) = false := beq_false_of_ne c1
  by_cases c2 : mode < 0
  · clear hb
    go_enter Try.func32, Try.ntmps32
    go_wp2
    go_ret2
    exact ⟨rfl, hB⟩
  have c3 : 3 < mode := by unfold Bad at hb; omega
  clear hb
  go_enter Try.func32, Try.ntmps32
  go_wp2
  go_ret2
  exact ⟨rfl, hB⟩
end Ty
end Go.Proofs.Ytobhmadckoemdaa
