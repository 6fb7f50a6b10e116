import Derived.Test.YtdphfhpohlodcabPkC
namespace Go.Proofs.Ytdphfhpohlodcab
namespace Pk
open Go.RowKit
set_option linter.unusedVariables false
set_option maxHeartbeats 800000 in
theorem rput_err (a : Option Addr) (len cap : Nat) (L : List Int) (at' width v : Int) (w : World) (hr : BRow w a len L) (hs : len ≤ 140737488351232) (a0 : -9223372036854775808 ≤ at') (a1 : at' ≤ 9223372036854775807) (b0 : -9223372036854775808 ≤ width) (b1 : width ≤ 9223372036854775807) (he : ¬ ec len at' width = 0) :
    Calls Try.prog 20 #[.slice a len cap, .int .i64 at', .int .i64 width, .int .u64 v] w fun e w' => ∃ x, e = .returned (.tuple #[x, .int .i64 (ec len at' width)]) ∧ w'.ownsRow w.heap.size 5 1 x len (vals L) ∧ Below w.heap.size w w' := by
  obtain ⟨i0, hi, hz0, hz1, hz2⟩ : ∃ i0, Try.prog.info? 5 = some i0 ∧ i0.zero = some (.int .u8 0) ∧ i0.size = 1 ∧ i0.bytes = 1 := by
    have h := info5
    cases hh : Try.prog.info? 5 with
    | none => rw [hh] at h; cases h
    | some i => rw [hh] at h; simp at h; exact ⟨i, rfl, h.1, h.2.1, h.2.2⟩
  obtain ⟨hl, hby, hc⟩ := hr
  go_enter Try.func20, Try.ntmps20
  go_wp2
  go_loopw [10, 11] (fun v i wr => ∃ k : Nat, k ≤ len ∧ i = .int .i64 k ∧ wr.ownsRow w.heap.size 5 1 v k (vals (L.take k)) ∧ Below w.heap.size w wr) (fun _ i _ => len - (intOf i).toNat)
  case atStart => exact ⟨0, Nat.zero_le _, rfl, by rw [List.take_zero]; exact World.ownsRow_nil _ _ _ _, Below.refl _ _⟩
  case round =>
    obtain ⟨kk, hk, rfl, hown, hnx⟩ := hrel
    have hsz := hnx.size
    by_cases hlt : kk < len
    · obtain ⟨ad, rfl, hx, hcell⟩ := hc (by omega)
      have hcx : wr.cell? (ad.add kk) = some (.int .u8 (L.getD kk 0)) := (hnx.cell (p := ad.add kk) (by unfold Addr.add; split <;> exact hx)).trans (hcell kk hlt)
      have Hs : Hid (vals (L.take (kk + 1)) = vals (L.take kk) ++ [.int .u8 (L.getD kk 0)]) := by show _ = _; rw [take_snoc L kk (by omega), vals_snoc]
      generalize L.getD kk 0 = x at *
      clear hcell hc
      go_wp2_with (at_builtin; refine wpList_append_own _ rfl _ _ 36 rfl w.heap.size 5 i0 (.int .u8 0) 1 1 Try.underlying36 hi hz0 hz1 hz2 rfl (by decide) _ _ _ rfl (hown.alloc _) ⟨wr.heap.size, 0, none⟩ 1 1 [.int .u8 x] rfl rfl ?c1 ?c2 ?c3 ?c4 ?c5 ?_)
      case c1 => exact cell_one_new _ _ _
      case c2 => intro u hu; simp at hu; subst hu; rfl
      case c3 => unfold maxLen; omega
      case c4 => omega
      case c5 => simp; omega
      · intro v' w1 hown' hgrow _
        have hb1 := step_own hsz hown hnx hgrow
        rw [← Hs.out] at hown'
        clear hgrow hown hnx
        go_wp2
        exact ⟨⟨kk + 1, by omega, by go_num, hown', hb1⟩, by simp [intOf]; omega⟩
    · have hkk : kk = len := by omega
      subst hkk
      rw [List.take_of_length_le (show L.length ≤ kk by omega)] at hown
      clear hc
      by_cases h1 : width < 1
      · have H : Hid (ec kk at' width = 11) := by show _ = _; unfold ec; rw [if_pos (Or.inl h1)]
        clear he
        go_wp2
        go_ret2
        exact ⟨_, by rw [H.out]; rfl, hown, hnx⟩
      have h1' : 1 ≤ width := by omega
      by_cases h2 : 8 < width
      · have H : Hid (ec kk at' width = 11) := by show _ = _; unfold ec; rw [if_pos (Or.inr h2)]
        clear he
        go_wp2
        go_ret2
        exact ⟨_, by rw [H.out]; rfl, hown, hnx⟩
      have h2' : width ≤ 8 := by omega
      have H : Hid (ec kk at' width = 10) := by show _ = _; unfold ec at *; rw [if_neg (by omega)] at *; split <;> simp_all
      have hd : decide (ec kk at' width = 0) = false := by simpa using he
      clear he
      go_wp2_with fail
      refine (there_any kk at' width _ hs a0 a1 h1' h2').mono ?_
      rintro e9 w9 ⟨rfl, hw9⟩
      subst w9
      rw [hd]
      clear hd
      go_wp2
      go_ret2
      exact ⟨_, by rw [H.out]; rfl, hown, hnx⟩
set_option maxHeartbeats 800000 in
theorem rput_big (a : Option Addr) (len cap o k : Nat) (L : List Int) (v : Int) (w : World) (hr : BRow w a len L) (hs : len ≤ 140737488351232) (h1 : 1 ≤ k) (h2 : k ≤ 8) (h3 : o + k ≤ len) (hv0 : 0 ≤ v) (hv1 : v < 18446744073709551616) (hf : ¬ v / 2 ^ (8 * k) = 0) :
    Calls Try.prog 20 #[.slice a len cap, .int .i64 o, .int .i64 k, .int .u64 v] w fun e w' => ∃ x, e = .returned (.tuple #[x, .int .i64 12]) ∧ w'.ownsRow w.heap.size 5 1 x len (vals L) ∧ Below w.heap.size w w' := by
  have hf' : (v / 2 ^ (8 * k) != 0) = true := by simpa using hf
  have hk8 : k < 8 := by
    apply Nat.lt_of_not_le; intro hc
    obtain rfl : k = 8 := by omega
    apply hf; omega
  clear hf
  obtain ⟨i0, hi, hz0, hz1, hz2⟩ : ∃ i0, Try.prog.info? 5 = some i0 ∧ i0.zero = some (.int .u8 0) ∧ i0.size = 1 ∧ i0.bytes = 1 := by
    have h := info5
    cases hh : Try.prog.info? 5 with
    | none => rw [hh] at h; cases h
    | some i => rw [hh] at h; simp at h; exact ⟨i, rfl, h.1, h.2.1, h.2.2⟩
  obtain ⟨hl, hby, hc⟩ := hr
  go_enter Try.func20, Try.ntmps20
  go_wp2
  go_loopw [10, 11] (fun v i wr => ∃ k : Nat, k ≤ len ∧ i = .int .i64 k ∧ wr.ownsRow w.heap.size 5 1 v k (vals (L.take k)) ∧ Below w.heap.size w wr) (fun _ i _ => len - (intOf i).toNat)
  case atStart => exact ⟨0, Nat.zero_le _, rfl, by rw [List.take_zero]; exact World.ownsRow_nil _ _ _ _, Below.refl _ _⟩
  case round =>
    obtain ⟨kk, hk, rfl, hown, hnx⟩ := hrel
    have hsz := hnx.size
    by_cases hlt : kk < len
    · obtain ⟨ad, rfl, hx, hcell⟩ := hc (by omega)
      have hcx : wr.cell? (ad.add kk) = some (.int .u8 (L.getD kk 0)) := (hnx.cell (p := ad.add kk) (by unfold Addr.add; split <;> exact hx)).trans (hcell kk hlt)
      have Hs : Hid (vals (L.take (kk + 1)) = vals (L.take kk) ++ [.int .u8 (L.getD kk 0)]) := by show _ = _; rw [take_snoc L kk (by omega), vals_snoc]
      generalize L.getD kk 0 = x at *
      clear hcell hc
      go_wp2_with (at_builtin; refine wpList_append_own _ rfl _ _ 36 rfl w.heap.size 5 i0 (.int .u8 0) 1 1 Try.underlying36 hi hz0 hz1 hz2 rfl (by decide) _ _ _ rfl (hown.alloc _) ⟨wr.heap.size, 0, none⟩ 1 1 [.int .u8 x] rfl rfl ?c1 ?c2 ?c3 ?c4 ?c5 ?_)
      case c1 => exact cell_one_new _ _ _
      case c2 => intro u hu; simp at hu; subst hu; rfl
      case c3 => unfold maxLen; omega
      case c4 => omega
      case c5 => simp; omega
      · intro v' w1 hown' hgrow _
        have hb1 := step_own hsz hown hnx hgrow
        rw [← Hs.out] at hown'
        clear hgrow hown hnx
        go_wp2
        exact ⟨⟨kk + 1, by omega, by go_num, hown', hb1⟩, by simp [intOf]; omega⟩
    · have hkk : kk = len := by omega
      subst hkk
      rw [List.take_of_length_le (show L.length ≤ kk by omega)] at hown
      clear hc
      have hd : decide (ec kk (o : Int) (k : Int) = 0) = true := by simpa using ec_ok kk o k h1 h2 h3
      go_wp2_with fail
      refine (there_any kk o k _ hs (by omega) (by omega) (by omega) (by omega)).mono ?_
      rintro e9 w9 ⟨rfl, hw9⟩
      subst w9
      rw [hd]
      clear hd
      go_wp2
      go_ret2
      exact ⟨_, rfl, hown, hnx⟩
set_option maxHeartbeats 800000 in
theorem rput_ok (a : Option Addr) (len cap o k : Nat) (L : List Int) (v : Int) (w : World) (hr : BRow w a len L) (hs : len ≤ 140737488351232) (h1 : 1 ≤ k) (h2 : k ≤ 8) (h3 : o + k ≤ len) (hv0 : 0 ≤ v) (hv1 : v < 18446744073709551616) (hf : v / 2 ^ (8 * k) = 0) :
    Calls Try.prog 20 #[.slice a len cap, .int .i64 o, .int .i64 k, .int .u64 v] w fun e w' => ∃ g c, e = .returned (.tuple #[.slice (some ⟨g, 0, none⟩) len c, .int .i64 0]) ∧ w.heap.size ≤ g ∧ Own w' g c (putL L o v k) ∧ Below w.heap.size w w' := by
  have hf' : (v / 2 ^ (8 * k) != 0) = false := by simpa using hf
  clear hf
  obtain ⟨i0, hi, hz0, hz1, hz2⟩ : ∃ i0, Try.prog.info? 5 = some i0 ∧ i0.zero = some (.int .u8 0) ∧ i0.size = 1 ∧ i0.bytes = 1 := by
    have h := info5
    cases hh : Try.prog.info? 5 with
    | none => rw [hh] at h; cases h
    | some i => rw [hh] at h; simp at h; exact ⟨i, rfl, h.1, h.2.1, h.2.2⟩
  obtain ⟨hl, hby, hc⟩ := hr
  go_enter Try.func20, Try.ntmps20
  go_wp2
  go_loopw [10, 11] (fun v i wr => ∃ k : Nat, k ≤ len ∧ i = .int .i64 k ∧ wr.ownsRow w.heap.size 5 1 v k (vals (L.take k)) ∧ Below w.heap.size w wr) (fun _ i _ => len - (intOf i).toNat)
  case atStart => exact ⟨0, Nat.zero_le _, rfl, by rw [List.take_zero]; exact World.ownsRow_nil _ _ _ _, Below.refl _ _⟩
  case round =>
    obtain ⟨kk, hk, rfl, hown, hnx⟩ := hrel
    have hsz := hnx.size
    by_cases hlt : kk < len
    · obtain ⟨ad, rfl, hx, hcell⟩ := hc (by omega)
      have hcx : wr.cell? (ad.add kk) = some (.int .u8 (L.getD kk 0)) := (hnx.cell (p := ad.add kk) (by unfold Addr.add; split <;> exact hx)).trans (hcell kk hlt)
      have Hs : Hid (vals (L.take (kk + 1)) = vals (L.take kk) ++ [.int .u8 (L.getD kk 0)]) := by show _ = _; rw [take_snoc L kk (by omega), vals_snoc]
      generalize L.getD kk 0 = x at *
      clear hcell hc
      go_wp2_with (at_builtin; refine wpList_append_own _ rfl _ _ 36 rfl w.heap.size 5 i0 (.int .u8 0) 1 1 Try.underlying36 hi hz0 hz1 hz2 rfl (by decide) _ _ _ rfl (hown.alloc _) ⟨wr.heap.size, 0, none⟩ 1 1 [.int .u8 x] rfl rfl ?c1 ?c2 ?c3 ?c4 ?c5 ?_)
      case c1 => exact cell_one_new _ _ _
      case c2 => intro u hu; simp at hu; subst hu; rfl
      case c3 => unfold maxLen; omega
      case c4 => omega
      case c5 => simp; omega
      · intro v' w1 hown' hgrow _
        have hb1 := step_own hsz hown hnx hgrow
        rw [← Hs.out] at hown'
        clear hgrow hown hnx
        go_wp2
        exact ⟨⟨kk + 1, by omega, by go_num, hown', hb1⟩, by simp [intOf]; omega⟩
    · have hkk : kk = len := by omega
      subst hkk
      rw [List.take_of_length_le (show L.length ≤ kk by omega)] at hown
      clear hc
      have hd : decide (ec kk (o : Int) (k : Int) = 0) = true := by simpa using ec_ok kk o k h1 h2 h3
      obtain ⟨av, cv, rfl, _, hg⟩ := row_of_own hl hby hown
      obtain ⟨g, rfl, hg0, hgo⟩ := hg (by omega)
      have hcv := hgo.cap
      unfold maxLen at hcv
      clear hown
      by_cases hk8 : k < 8
      all_goals
        go_wp2_with fail
        refine (there_any kk o k _ hs (by omega) (by omega) (by omega) (by omega)).mono ?_
        rintro e9 w9 ⟨rfl, hw9⟩
        subst w9
        rw [hd]
        go_wp2
        go_loopw [13] (fun i wz => ∃ j : Nat, j ≤ k ∧ i = .int .i64 j ∧ Own wz g cv (putL L o v j) ∧ Below w.heap.size w wz) (fun i _ => k - (intOf i).toNat)
        case atStart => exact ⟨0, Nat.zero_le _, rfl, hgo, hnx⟩
        case round =>
          obtain ⟨j, hj, rfl, ho1, hb1⟩ := hrel
          by_cases hlt : j < k
          · have hc := ho1.cell (j := o + j) (by rw [putL_len]; omega)
            have hfz := ho1.frozen (o + j)
            have hset := ho1.set (o + j) (byteAt v j)
            have hbs := hb1.setCell (p := ⟨g, o + j, none⟩) hg0 (.int .u8 (byteAt v j))
            rw [← putL_succ] at hset
            have e8 : (8 * (j : Int)).toNat = 8 * j := by omega
            have eo : ((o : Int) + (j : Int)).toNat = o + j := by omega
            generalize (putL L o v j).getD (o + j) 0 = old at *
            clear ho1 hb1 hf' hd
            go_wp2
            exact ⟨⟨j + 1, by omega, by go_num, hset, hbs⟩, by simp [intOf]; omega⟩
          · have hjk : j = k := by omega
            subst hjk
            go_wp2
            go_ret2
            exact ⟨g, cv, rfl, hg0, ho1, hb1⟩
end Pk
end Go.Proofs.Ytdphfhpohlodcab
