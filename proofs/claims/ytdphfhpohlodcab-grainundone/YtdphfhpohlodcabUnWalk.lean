import Derived.Test.YtdphfhpohlodcabUnParts
namespace Go.Proofs.Ytdphfhpohlodcab
namespace Un
open Go.RowKit Tot
set_option maxRecDepth 100000 in
set_option maxHeartbeats 4000000 in
theorem walk (a b : Int) (a2 : Option Addr) (len cap : Nat) (zs : List Int) (w : World) (ha : Wh.Fit a) (hb : Wh.Fit b) (hr : Row w a2 len zs) (hs : len * 8 ≤ 140737488351232) (hin : ∀ x : Addr, a2 = some x → 0 < len → x.block < w.heap.size) :
    Calls Try.prog 3 #[.int .i64 a, .int .i64 b, .slice a2 len cap] w fun e w' => e = .returned (.bool true) ∧ Below w.heap.size w w' := by
  obtain ⟨i0, hi, hz0, hz1, hz2⟩ : ∃ i0, Try.prog.info? 2 = some i0 ∧ i0.zero = some (.int .i64 0) ∧ i0.size = 1 ∧ i0.bytes = 8 := by
    have h := info2
    cases hh : Try.prog.info? 2 with
    | none => rw [hh] at h; cases h
    | some i => rw [hh] at h; simp at h; exact ⟨i, rfl, h.1, h.2.1, h.2.2⟩
  have HR : Hid (Row w a2 len zs) := hr
  have HI : Hid (∀ x : Addr, a2 = some x → 0 < len → x.block < w.heap.size) := hin
  obtain ⟨t1, t2⟩ := two_val a b ha hb
  have HT : Hid (val (sum [a, b] 2) = Wh.fv (a + b) ∧ err (sum [a, b] 2) = Wh.fe (a + b)) := ⟨t1, t2⟩
  clear hr hin t1 t2
  by_cases hf : Wh.Fit (a + b)
  · have HA : Hid (Wh.fv (a + b) = a + b ∧ Wh.fe (a + b) = 0) := ⟨Wh.fv_in hf, Wh.fe_in hf⟩
    have HB : Hid (Wh.fv (a + b - b) = a ∧ Wh.fe (a + b - b) = 0) := by
      rw [show a + b - b = a from by omega]; exact ⟨Wh.fv_in ha, Wh.fe_in ha⟩
    go_enter Try.func3, Try.ntmps3
    go_wp2_with fail
    refine (Wh.add_any a b ha hb _).mono ?_
    rintro e1 w9 ⟨rfl, hw9⟩
    subst w9
    rw [HA.out.1, HA.out.2]
    go_wp2_with fail
    refine (Wh.num_any 0 _).mono ?_
    rintro e1 w9 ⟨rfl, hw9⟩
    subst w9
    go_wp2_with fail
    refine (Wh.sub_any (a + b) b hf hb _).mono ?_
    rintro e1 w9 ⟨rfl, hw9⟩
    subst w9
    rw [HB.out.1, HB.out.2]
    go_wp2_with fail
    refine (Wh.num_any 0 _).mono ?_
    rintro e1 w9 ⟨rfl, hw9⟩
    subst w9
    go_wp2_with fail
    refine (total_any _ _ _ [a, b] _ (row_two _ a b ha hb)).mono ?_
    rintro e1 w9 ⟨rfl, hw9⟩
    subst w9
    rw [HT.out.1, HT.out.2, HA.out.1, HA.out.2]
    by_cases zb : b = 0
    · subst zb
      go_wp2
      go_loopw [19, 20] (fun v i wr => ∃ k j : Nat, k + j = len ∧ i = .int .i64 ((j : Int) - 1) ∧ wr.ownsRow w.heap.size 2 1 v k (vals (rev zs len) k) ∧ Below w.heap.size w wr) (fun _ i _ => (intOf i + 1).toNat)
      case atStart => exact ⟨0, len, Nat.zero_add _, rfl, by rw [vals_zero]; exact World.ownsRow_nil _ _ _ _, (Below.refl _ _).alloc (Nat.le_refl _) _⟩
      case round =>
        obtain ⟨k, j, hk, rfl, hown, hnx⟩ := hrel
        have hsz := hnx.size
        obtain ⟨⟨hl, hl2⟩, hc, hbb⟩ := HR.out
        have hrl := rev_len zs len hl
        by_cases hlt : k < len
        · obtain ⟨ad, rfl, hcell⟩ := hc (by omega)
          have hn : j = (len - 1 - k) + 1 := by omega
          generalize hm : len - 1 - k = m at *
          subst hn
          have e9 : (((m + 1 : Nat) : Int) - 1) = (m : Int) := by omega
          simp only [e9]
          have hcx : wr.cell? (ad.add m) = some (.int .i64 (zs.getD m 0)) := (hnx.cell (p := ad.add m) (by unfold Addr.add; split <;> exact HI.out ad rfl (by omega))).trans (hcell _ (by omega))
          have Hs : Hid (vals (rev zs len) (k + 1) = vals (rev zs len) k ++ [.int .i64 (zs.getD m 0)]) := by
            show _ = _; rw [vals_succ _ k (by omega), rev_get zs len k hl hlt, hm]
          generalize zs.getD m 0 = x at *
          clear hcell hc hbb hrl
          go_wp2_with (at_builtin; refine wpList_append_own _ rfl _ _ 22 rfl w.heap.size 2 i0 (.int .i64 0) 1 8 Try.underlying22 hi hz0 hz1 hz2 rfl (by decide) _ _ _ rfl (hown.alloc _) ⟨wr.heap.size, 0, none⟩ 1 1 [.int .i64 x] rfl rfl ?c1 ?c2 ?c3 ?c4 ?c5 ?_)
          case c1 => exact cell_one_new _ _ _
          case c2 => intro u hu; simp at hu; subst hu; rfl
          case c3 => unfold maxLen; omega
          case c4 => omega
          case c5 => simp; omega
          · intro v' w1 hown' hgrow _
            have hb1 := step_own hsz hown hnx hgrow
            rw [← Hs.out] at hown'
            clear hgrow hown hnx
            go_wp2
            exact ⟨⟨k + 1, m, by omega, rfl, hown', hb1⟩, by simp [intOf]⟩
        · have hkk : k = len := by omega
          have hj0 : j = 0 := by omega
          subst hj0
          subst hkk
          have hbr : ∀ i, i < k → -9223372036854775808 ≤ (rev zs k).getD i 0 ∧ (rev zs k).getD i 0 ≤ 9223372036854775807 := fun i hi => by rw [rev_get zs k i hl hi]; exact hbb _ (by omega)
          obtain ⟨av, capv, rfl, hrv⟩ := row_own (by omega) hl2 hbr hown
          have hro := row_old HR.out hnx HI.out
          have HS : Hid (sum (rev zs k) k = sum zs k) := sum_rev zs k hl
          have HN : Hid (val (sum [] 0) = 0 ∧ err (sum [] 0) = 0) := in_range (sum [] 0) (by rw [sum_zero]; omega) (by rw [sum_zero]; omega)
          clear hc hbb hbr hown
          go_wp2_with fail
          refine (total_any _ _ _ zs _ hro).mono ?_
          rintro e1 w2 ⟨rfl, hw2⟩
          subst w2
          go_wp2_with fail
          refine (total_any _ _ _ (rev zs k) _ hrv).mono ?_
          rintro e1 w2 ⟨rfl, hw2⟩
          subst w2
          rw [HS.out]
          go_wp2_with fail
          refine (total_any _ _ _ [] _ (row_none _)).mono ?_
          rintro e1 w2 ⟨rfl, hw2⟩
          subst w2
          rw [HN.out.1, HN.out.2]
          generalize val (sum zs k) = V at *
          generalize err (sum zs k) = E at *
          go_wp2_with fail
          refine (Wh.num_any 0 _).mono ?_
          rintro e1 w2 ⟨rfl, hw2⟩
          subst w2
          go_wp2
          go_ret
          exact ⟨rfl, hnx⟩
    have zb' : (b == 0) = false := by simpa using zb
    by_cases mb : b = -1
    · subst mb
      go_wp2
      go_loopw [19, 20] (fun v i wr => ∃ k j : Nat, k + j = len ∧ i = .int .i64 ((j : Int) - 1) ∧ wr.ownsRow w.heap.size 2 1 v k (vals (rev zs len) k) ∧ Below w.heap.size w wr) (fun _ i _ => (intOf i + 1).toNat)
      case atStart => exact ⟨0, len, Nat.zero_add _, rfl, by rw [vals_zero]; exact World.ownsRow_nil _ _ _ _, (Below.refl _ _).alloc (Nat.le_refl _) _⟩
      case round =>
        obtain ⟨k, j, hk, rfl, hown, hnx⟩ := hrel
        have hsz := hnx.size
        obtain ⟨⟨hl, hl2⟩, hc, hbb⟩ := HR.out
        have hrl := rev_len zs len hl
        by_cases hlt : k < len
        · obtain ⟨ad, rfl, hcell⟩ := hc (by omega)
          have hn : j = (len - 1 - k) + 1 := by omega
          generalize hm : len - 1 - k = m at *
          subst hn
          have e9 : (((m + 1 : Nat) : Int) - 1) = (m : Int) := by omega
          simp only [e9]
          have hcx : wr.cell? (ad.add m) = some (.int .i64 (zs.getD m 0)) := (hnx.cell (p := ad.add m) (by unfold Addr.add; split <;> exact HI.out ad rfl (by omega))).trans (hcell _ (by omega))
          have Hs : Hid (vals (rev zs len) (k + 1) = vals (rev zs len) k ++ [.int .i64 (zs.getD m 0)]) := by
            show _ = _; rw [vals_succ _ k (by omega), rev_get zs len k hl hlt, hm]
          generalize zs.getD m 0 = x at *
          clear hcell hc hbb hrl
          go_wp2_with (at_builtin; refine wpList_append_own _ rfl _ _ 22 rfl w.heap.size 2 i0 (.int .i64 0) 1 8 Try.underlying22 hi hz0 hz1 hz2 rfl (by decide) _ _ _ rfl (hown.alloc _) ⟨wr.heap.size, 0, none⟩ 1 1 [.int .i64 x] rfl rfl ?c1 ?c2 ?c3 ?c4 ?c5 ?_)
          case c1 => exact cell_one_new _ _ _
          case c2 => intro u hu; simp at hu; subst hu; rfl
          case c3 => unfold maxLen; omega
          case c4 => omega
          case c5 => simp; omega
          · intro v' w1 hown' hgrow _
            have hb1 := step_own hsz hown hnx hgrow
            rw [← Hs.out] at hown'
            clear hgrow hown hnx
            go_wp2
            exact ⟨⟨k + 1, m, by omega, rfl, hown', hb1⟩, by simp [intOf]⟩
        · have hkk : k = len := by omega
          have hj0 : j = 0 := by omega
          subst hj0
          subst hkk
          have hbr : ∀ i, i < k → -9223372036854775808 ≤ (rev zs k).getD i 0 ∧ (rev zs k).getD i 0 ≤ 9223372036854775807 := fun i hi => by rw [rev_get zs k i hl hi]; exact hbb _ (by omega)
          obtain ⟨av, capv, rfl, hrv⟩ := row_own (by omega) hl2 hbr hown
          have hro := row_old HR.out hnx HI.out
          have HS : Hid (sum (rev zs k) k = sum zs k) := sum_rev zs k hl
          have HN : Hid (val (sum [] 0) = 0 ∧ err (sum [] 0) = 0) := in_range (sum [] 0) (by rw [sum_zero]; omega) (by rw [sum_zero]; omega)
          clear hc hbb hbr hown
          go_wp2_with fail
          refine (total_any _ _ _ zs _ hro).mono ?_
          rintro e1 w2 ⟨rfl, hw2⟩
          subst w2
          go_wp2_with fail
          refine (total_any _ _ _ (rev zs k) _ hrv).mono ?_
          rintro e1 w2 ⟨rfl, hw2⟩
          subst w2
          rw [HS.out]
          go_wp2_with fail
          refine (total_any _ _ _ [] _ (row_none _)).mono ?_
          rintro e1 w2 ⟨rfl, hw2⟩
          subst w2
          rw [HN.out.1, HN.out.2]
          generalize val (sum zs k) = V at *
          generalize err (sum zs k) = E at *
          go_wp2_with fail
          refine (Wh.num_any 0 _).mono ?_
          rintro e1 w2 ⟨rfl, hw2⟩
          subst w2
          go_wp2
          go_ret
          exact ⟨rfl, hnx⟩
    have mb' : (b == -1) = false := by simpa using mb
    have zb2 : (b != 0) = true := by simpa using zb
    have mb2 : (b != -1) = true := by simpa using mb
    obtain ⟨q1, q2, q3, q4, q5⟩ := quo_rem a b ha zb mb
    have HQ : Hid (Wh.qe a b = 0 ∧ Wh.me b = 0 ∧ Wh.fe (Wh.qv a b * b) = 0) := ⟨q2, q3, q4⟩
    clear q2 q3 q4
    go_wp2_with fail
    refine (Wh.quo_any a b ha hb _).mono ?_
    rintro e1 w9 ⟨rfl, hw9⟩
    subst w9
    rw [HQ.out.1]
    go_wp2_with fail
    refine (Wh.rem_any a b ha hb _).mono ?_
    rintro e1 w9 ⟨rfl, hw9⟩
    subst w9
    rw [HQ.out.2.1]
    go_wp2_with fail
    refine (Wh.mul_any (Wh.qv a b) b q1 hb _).mono ?_
    rintro e1 w9 ⟨rfl, hw9⟩
    subst w9
    rw [HQ.out.2.2]
    go_wp2_with (go_at_call 8; refine (Wh.num_any 0 _).mono ?_; rintro e1 w9 ⟨rfl, hw9⟩; subst w9)
    go_wp2
    clear zb mb zb' mb' zb2 mb2 q1 q5 HQ
    go_loopw [19, 20] (fun v i wr => ∃ k j : Nat, k + j = len ∧ i = .int .i64 ((j : Int) - 1) ∧ wr.ownsRow w.heap.size 2 1 v k (vals (rev zs len) k) ∧ Below w.heap.size w wr) (fun _ i _ => (intOf i + 1).toNat)
    case atStart => exact ⟨0, len, Nat.zero_add _, rfl, by rw [vals_zero]; exact World.ownsRow_nil _ _ _ _, (Below.refl _ _).alloc (Nat.le_refl _) _⟩
    case round =>
      obtain ⟨k, j, hk, rfl, hown, hnx⟩ := hrel
      have hsz := hnx.size
      obtain ⟨⟨hl, hl2⟩, hc, hbb⟩ := HR.out
      have hrl := rev_len zs len hl
      by_cases hlt : k < len
      · obtain ⟨ad, rfl, hcell⟩ := hc (by omega)
        have hn : j = (len - 1 - k) + 1 := by omega
        generalize hm : len - 1 - k = m at *
        subst hn
        have e9 : (((m + 1 : Nat) : Int) - 1) = (m : Int) := by omega
        simp only [e9]
        have hcx : wr.cell? (ad.add m) = some (.int .i64 (zs.getD m 0)) := (hnx.cell (p := ad.add m) (by unfold Addr.add; split <;> exact HI.out ad rfl (by omega))).trans (hcell _ (by omega))
        have Hs : Hid (vals (rev zs len) (k + 1) = vals (rev zs len) k ++ [.int .i64 (zs.getD m 0)]) := by
          show _ = _; rw [vals_succ _ k (by omega), rev_get zs len k hl hlt, hm]
        generalize zs.getD m 0 = x at *
        clear hcell hc hbb hrl
        go_wp2_with (at_builtin; refine wpList_append_own _ rfl _ _ 22 rfl w.heap.size 2 i0 (.int .i64 0) 1 8 Try.underlying22 hi hz0 hz1 hz2 rfl (by decide) _ _ _ rfl (hown.alloc _) ⟨wr.heap.size, 0, none⟩ 1 1 [.int .i64 x] rfl rfl ?c1 ?c2 ?c3 ?c4 ?c5 ?_)
        case c1 => exact cell_one_new _ _ _
        case c2 => intro u hu; simp at hu; subst hu; rfl
        case c3 => unfold maxLen; omega
        case c4 => omega
        case c5 => simp; omega
        · intro v' w1 hown' hgrow _
          have hb1 := step_own hsz hown hnx hgrow
          rw [← Hs.out] at hown'
          clear hgrow hown hnx
          go_wp2
          exact ⟨⟨k + 1, m, by omega, rfl, hown', hb1⟩, by simp [intOf]⟩
      · have hkk : k = len := by omega
        have hj0 : j = 0 := by omega
        subst hj0
        subst hkk
        have hbr : ∀ i, i < k → -9223372036854775808 ≤ (rev zs k).getD i 0 ∧ (rev zs k).getD i 0 ≤ 9223372036854775807 := fun i hi => by rw [rev_get zs k i hl hi]; exact hbb _ (by omega)
        obtain ⟨av, capv, rfl, hrv⟩ := row_own (by omega) hl2 hbr hown
        have hro := row_old HR.out hnx HI.out
        have HS : Hid (sum (rev zs k) k = sum zs k) := sum_rev zs k hl
        have HN : Hid (val (sum [] 0) = 0 ∧ err (sum [] 0) = 0) := in_range (sum [] 0) (by rw [sum_zero]; omega) (by rw [sum_zero]; omega)
        clear hc hbb hbr hown
        go_wp2_with fail
        refine (total_any _ _ _ zs _ hro).mono ?_
        rintro e1 w2 ⟨rfl, hw2⟩
        subst w2
        go_wp2_with fail
        refine (total_any _ _ _ (rev zs k) _ hrv).mono ?_
        rintro e1 w2 ⟨rfl, hw2⟩
        subst w2
        rw [HS.out]
        go_wp2_with fail
        refine (total_any _ _ _ [] _ (row_none _)).mono ?_
        rintro e1 w2 ⟨rfl, hw2⟩
        subst w2
        rw [HN.out.1, HN.out.2]
        generalize val (sum zs k) = V at *
        generalize err (sum zs k) = E at *
        go_wp2_with fail
        refine (Wh.num_any 0 _).mono ?_
        rintro e1 w2 ⟨rfl, hw2⟩
        subst w2
        go_wp2
        go_ret
        exact ⟨rfl, hnx⟩
  · have HA : Hid (Wh.fv (a + b) = 0 ∧ Wh.fe (a + b) = 13) := ⟨Wh.fv_out hf, Wh.fe_out hf⟩
    go_enter Try.func3, Try.ntmps3
    go_wp2_with fail
    refine (Wh.add_any a b ha hb _).mono ?_
    rintro e1 w9 ⟨rfl, hw9⟩
    subst w9
    rw [HA.out.1, HA.out.2]
    go_wp2_with fail
    refine (Wh.num_any 13 _).mono ?_
    rintro e1 w9 ⟨rfl, hw9⟩
    subst w9
    go_wp2_with fail
    refine (total_any _ _ _ [a, b] _ (row_two _ a b ha hb)).mono ?_
    rintro e1 w9 ⟨rfl, hw9⟩
    subst w9
    rw [HT.out.1, HT.out.2, HA.out.1, HA.out.2]
    by_cases zb : b = 0
    · subst zb
      go_wp2
      go_loopw [19, 20] (fun v i wr => ∃ k j : Nat, k + j = len ∧ i = .int .i64 ((j : Int) - 1) ∧ wr.ownsRow w.heap.size 2 1 v k (vals (rev zs len) k) ∧ Below w.heap.size w wr) (fun _ i _ => (intOf i + 1).toNat)
      case atStart => exact ⟨0, len, Nat.zero_add _, rfl, by rw [vals_zero]; exact World.ownsRow_nil _ _ _ _, (Below.refl _ _).alloc (Nat.le_refl _) _⟩
      case round =>
        obtain ⟨k, j, hk, rfl, hown, hnx⟩ := hrel
        have hsz := hnx.size
        obtain ⟨⟨hl, hl2⟩, hc, hbb⟩ := HR.out
        have hrl := rev_len zs len hl
        by_cases hlt : k < len
        · obtain ⟨ad, rfl, hcell⟩ := hc (by omega)
          have hn : j = (len - 1 - k) + 1 := by omega
          generalize hm : len - 1 - k = m at *
          subst hn
          have e9 : (((m + 1 : Nat) : Int) - 1) = (m : Int) := by omega
          simp only [e9]
          have hcx : wr.cell? (ad.add m) = some (.int .i64 (zs.getD m 0)) := (hnx.cell (p := ad.add m) (by unfold Addr.add; split <;> exact HI.out ad rfl (by omega))).trans (hcell _ (by omega))
          have Hs : Hid (vals (rev zs len) (k + 1) = vals (rev zs len) k ++ [.int .i64 (zs.getD m 0)]) := by
            show _ = _; rw [vals_succ _ k (by omega), rev_get zs len k hl hlt, hm]
          generalize zs.getD m 0 = x at *
          clear hcell hc hbb hrl
          go_wp2_with (at_builtin; refine wpList_append_own _ rfl _ _ 22 rfl w.heap.size 2 i0 (.int .i64 0) 1 8 Try.underlying22 hi hz0 hz1 hz2 rfl (by decide) _ _ _ rfl (hown.alloc _) ⟨wr.heap.size, 0, none⟩ 1 1 [.int .i64 x] rfl rfl ?c1 ?c2 ?c3 ?c4 ?c5 ?_)
          case c1 => exact cell_one_new _ _ _
          case c2 => intro u hu; simp at hu; subst hu; rfl
          case c3 => unfold maxLen; omega
          case c4 => omega
          case c5 => simp; omega
          · intro v' w1 hown' hgrow _
            have hb1 := step_own hsz hown hnx hgrow
            rw [← Hs.out] at hown'
            clear hgrow hown hnx
            go_wp2
            exact ⟨⟨k + 1, m, by omega, rfl, hown', hb1⟩, by simp [intOf]⟩
        · have hkk : k = len := by omega
          have hj0 : j = 0 := by omega
          subst hj0
          subst hkk
          have hbr : ∀ i, i < k → -9223372036854775808 ≤ (rev zs k).getD i 0 ∧ (rev zs k).getD i 0 ≤ 9223372036854775807 := fun i hi => by rw [rev_get zs k i hl hi]; exact hbb _ (by omega)
          obtain ⟨av, capv, rfl, hrv⟩ := row_own (by omega) hl2 hbr hown
          have hro := row_old HR.out hnx HI.out
          have HS : Hid (sum (rev zs k) k = sum zs k) := sum_rev zs k hl
          have HN : Hid (val (sum [] 0) = 0 ∧ err (sum [] 0) = 0) := in_range (sum [] 0) (by rw [sum_zero]; omega) (by rw [sum_zero]; omega)
          clear hc hbb hbr hown
          go_wp2_with fail
          refine (total_any _ _ _ zs _ hro).mono ?_
          rintro e1 w2 ⟨rfl, hw2⟩
          subst w2
          go_wp2_with fail
          refine (total_any _ _ _ (rev zs k) _ hrv).mono ?_
          rintro e1 w2 ⟨rfl, hw2⟩
          subst w2
          rw [HS.out]
          go_wp2_with fail
          refine (total_any _ _ _ [] _ (row_none _)).mono ?_
          rintro e1 w2 ⟨rfl, hw2⟩
          subst w2
          rw [HN.out.1, HN.out.2]
          generalize val (sum zs k) = V at *
          generalize err (sum zs k) = E at *
          go_wp2_with fail
          refine (Wh.num_any 0 _).mono ?_
          rintro e1 w2 ⟨rfl, hw2⟩
          subst w2
          go_wp2
          go_ret
          exact ⟨rfl, hnx⟩
    have zb' : (b == 0) = false := by simpa using zb
    by_cases mb : b = -1
    · subst mb
      go_wp2
      go_loopw [19, 20] (fun v i wr => ∃ k j : Nat, k + j = len ∧ i = .int .i64 ((j : Int) - 1) ∧ wr.ownsRow w.heap.size 2 1 v k (vals (rev zs len) k) ∧ Below w.heap.size w wr) (fun _ i _ => (intOf i + 1).toNat)
      case atStart => exact ⟨0, len, Nat.zero_add _, rfl, by rw [vals_zero]; exact World.ownsRow_nil _ _ _ _, (Below.refl _ _).alloc (Nat.le_refl _) _⟩
      case round =>
        obtain ⟨k, j, hk, rfl, hown, hnx⟩ := hrel
        have hsz := hnx.size
        obtain ⟨⟨hl, hl2⟩, hc, hbb⟩ := HR.out
        have hrl := rev_len zs len hl
        by_cases hlt : k < len
        · obtain ⟨ad, rfl, hcell⟩ := hc (by omega)
          have hn : j = (len - 1 - k) + 1 := by omega
          generalize hm : len - 1 - k = m at *
          subst hn
          have e9 : (((m + 1 : Nat) : Int) - 1) = (m : Int) := by omega
          simp only [e9]
          have hcx : wr.cell? (ad.add m) = some (.int .i64 (zs.getD m 0)) := (hnx.cell (p := ad.add m) (by unfold Addr.add; split <;> exact HI.out ad rfl (by omega))).trans (hcell _ (by omega))
          have Hs : Hid (vals (rev zs len) (k + 1) = vals (rev zs len) k ++ [.int .i64 (zs.getD m 0)]) := by
            show _ = _; rw [vals_succ _ k (by omega), rev_get zs len k hl hlt, hm]
          generalize zs.getD m 0 = x at *
          clear hcell hc hbb hrl
          go_wp2_with (at_builtin; refine wpList_append_own _ rfl _ _ 22 rfl w.heap.size 2 i0 (.int .i64 0) 1 8 Try.underlying22 hi hz0 hz1 hz2 rfl (by decide) _ _ _ rfl (hown.alloc _) ⟨wr.heap.size, 0, none⟩ 1 1 [.int .i64 x] rfl rfl ?c1 ?c2 ?c3 ?c4 ?c5 ?_)
          case c1 => exact cell_one_new _ _ _
          case c2 => intro u hu; simp at hu; subst hu; rfl
          case c3 => unfold maxLen; omega
          case c4 => omega
          case c5 => simp; omega
          · intro v' w1 hown' hgrow _
            have hb1 := step_own hsz hown hnx hgrow
            rw [← Hs.out] at hown'
            clear hgrow hown hnx
            go_wp2
            exact ⟨⟨k + 1, m, by omega, rfl, hown', hb1⟩, by simp [intOf]⟩
        · have hkk : k = len := by omega
          have hj0 : j = 0 := by omega
          subst hj0
          subst hkk
          have hbr : ∀ i, i < k → -9223372036854775808 ≤ (rev zs k).getD i 0 ∧ (rev zs k).getD i 0 ≤ 9223372036854775807 := fun i hi => by rw [rev_get zs k i hl hi]; exact hbb _ (by omega)
          obtain ⟨av, capv, rfl, hrv⟩ := row_own (by omega) hl2 hbr hown
          have hro := row_old HR.out hnx HI.out
          have HS : Hid (sum (rev zs k) k = sum zs k) := sum_rev zs k hl
          have HN : Hid (val (sum [] 0) = 0 ∧ err (sum [] 0) = 0) := in_range (sum [] 0) (by rw [sum_zero]; omega) (by rw [sum_zero]; omega)
          clear hc hbb hbr hown
          go_wp2_with fail
          refine (total_any _ _ _ zs _ hro).mono ?_
          rintro e1 w2 ⟨rfl, hw2⟩
          subst w2
          go_wp2_with fail
          refine (total_any _ _ _ (rev zs k) _ hrv).mono ?_
          rintro e1 w2 ⟨rfl, hw2⟩
          subst w2
          rw [HS.out]
          go_wp2_with fail
          refine (total_any _ _ _ [] _ (row_none _)).mono ?_
          rintro e1 w2 ⟨rfl, hw2⟩
          subst w2
          rw [HN.out.1, HN.out.2]
          generalize val (sum zs k) = V at *
          generalize err (sum zs k) = E at *
          go_wp2_with fail
          refine (Wh.num_any 0 _).mono ?_
          rintro e1 w2 ⟨rfl, hw2⟩
          subst w2
          go_wp2
          go_ret
          exact ⟨rfl, hnx⟩
    have mb' : (b == -1) = false := by simpa using mb
    have zb2 : (b != 0) = true := by simpa using zb
    have mb2 : (b != -1) = true := by simpa using mb
    obtain ⟨q1, q2, q3, q4, q5⟩ := quo_rem a b ha zb mb
    have HQ : Hid (Wh.qe a b = 0 ∧ Wh.me b = 0 ∧ Wh.fe (Wh.qv a b * b) = 0) := ⟨q2, q3, q4⟩
    clear q2 q3 q4
    go_wp2_with fail
    refine (Wh.quo_any a b ha hb _).mono ?_
    rintro e1 w9 ⟨rfl, hw9⟩
    subst w9
    rw [HQ.out.1]
    go_wp2_with fail
    refine (Wh.rem_any a b ha hb _).mono ?_
    rintro e1 w9 ⟨rfl, hw9⟩
    subst w9
    rw [HQ.out.2.1]
    go_wp2_with fail
    refine (Wh.mul_any (Wh.qv a b) b q1 hb _).mono ?_
    rintro e1 w9 ⟨rfl, hw9⟩
    subst w9
    rw [HQ.out.2.2]
    go_wp2_with (go_at_call 8; refine (Wh.num_any 0 _).mono ?_; rintro e1 w9 ⟨rfl, hw9⟩; subst w9)
    go_wp2
    clear zb mb zb' mb' zb2 mb2 q1 q5 HQ
    go_loopw [19, 20] (fun v i wr => ∃ k j : Nat, k + j = len ∧ i = .int .i64 ((j : Int) - 1) ∧ wr.ownsRow w.heap.size 2 1 v k (vals (rev zs len) k) ∧ Below w.heap.size w wr) (fun _ i _ => (intOf i + 1).toNat)
    case atStart => exact ⟨0, len, Nat.zero_add _, rfl, by rw [vals_zero]; exact World.ownsRow_nil _ _ _ _, (Below.refl _ _).alloc (Nat.le_refl _) _⟩
    case round =>
      obtain ⟨k, j, hk, rfl, hown, hnx⟩ := hrel
      have hsz := hnx.size
      obtain ⟨⟨hl, hl2⟩, hc, hbb⟩ := HR.out
      have hrl := rev_len zs len hl
      by_cases hlt : k < len
      · obtain ⟨ad, rfl, hcell⟩ := hc (by omega)
        have hn : j = (len - 1 - k) + 1 := by omega
        generalize hm : len - 1 - k = m at *
        subst hn
        have e9 : (((m + 1 : Nat) : Int) - 1) = (m : Int) := by omega
        simp only [e9]
        have hcx : wr.cell? (ad.add m) = some (.int .i64 (zs.getD m 0)) := (hnx.cell (p := ad.add m) (by unfold Addr.add; split <;> exact HI.out ad rfl (by omega))).trans (hcell _ (by omega))
        have Hs : Hid (vals (rev zs len) (k + 1) = vals (rev zs len) k ++ [.int .i64 (zs.getD m 0)]) := by
          show _ = _; rw [vals_succ _ k (by omega), rev_get zs len k hl hlt, hm]
        generalize zs.getD m 0 = x at *
        clear hcell hc hbb hrl
        go_wp2_with (at_builtin; refine wpList_append_own _ rfl _ _ 22 rfl w.heap.size 2 i0 (.int .i64 0) 1 8 Try.underlying22 hi hz0 hz1 hz2 rfl (by decide) _ _ _ rfl (hown.alloc _) ⟨wr.heap.size, 0, none⟩ 1 1 [.int .i64 x] rfl rfl ?c1 ?c2 ?c3 ?c4 ?c5 ?_)
        case c1 => exact cell_one_new _ _ _
        case c2 => intro u hu; simp at hu; subst hu; rfl
        case c3 => unfold maxLen; omega
        case c4 => omega
        case c5 => simp; omega
        · intro v' w1 hown' hgrow _
          have hb1 := step_own hsz hown hnx hgrow
          rw [← Hs.out] at hown'
          clear hgrow hown hnx
          go_wp2
          exact ⟨⟨k + 1, m, by omega, rfl, hown', hb1⟩, by simp [intOf]⟩
      · have hkk : k = len := by omega
        have hj0 : j = 0 := by omega
        subst hj0
        subst hkk
        have hbr : ∀ i, i < k → -9223372036854775808 ≤ (rev zs k).getD i 0 ∧ (rev zs k).getD i 0 ≤ 9223372036854775807 := fun i hi => by rw [rev_get zs k i hl hi]; exact hbb _ (by omega)
        obtain ⟨av, capv, rfl, hrv⟩ := row_own (by omega) hl2 hbr hown
        have hro := row_old HR.out hnx HI.out
        have HS : Hid (sum (rev zs k) k = sum zs k) := sum_rev zs k hl
        have HN : Hid (val (sum [] 0) = 0 ∧ err (sum [] 0) = 0) := in_range (sum [] 0) (by rw [sum_zero]; omega) (by rw [sum_zero]; omega)
        clear hc hbb hbr hown
        go_wp2_with fail
        refine (total_any _ _ _ zs _ hro).mono ?_
        rintro e1 w2 ⟨rfl, hw2⟩
        subst w2
        go_wp2_with fail
        refine (total_any _ _ _ (rev zs k) _ hrv).mono ?_
        rintro e1 w2 ⟨rfl, hw2⟩
        subst w2
        rw [HS.out]
        go_wp2_with fail
        refine (total_any _ _ _ [] _ (row_none _)).mono ?_
        rintro e1 w2 ⟨rfl, hw2⟩
        subst w2
        rw [HN.out.1, HN.out.2]
        generalize val (sum zs k) = V at *
        generalize err (sum zs k) = E at *
        go_wp2_with fail
        refine (Wh.num_any 0 _).mono ?_
        rintro e1 w2 ⟨rfl, hw2⟩
        subst w2
        go_wp2
        go_ret
        exact ⟨rfl, hnx⟩
end Un
end Go.Proofs.Ytdphfhpohlodcab
