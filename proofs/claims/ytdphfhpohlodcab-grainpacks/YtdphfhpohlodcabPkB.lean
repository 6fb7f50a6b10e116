import Derived.Test.YtdphfhpohlodcabPkA
namespace Go.Proofs.Ytdphfhpohlodcab
namespace Pk
open Go.RowKit
set_option maxHeartbeats 800000 in
theorem twin_any (a0 : Option Addr) (len cap : Nat) (L : List Int) (w : World) (hr : BRow w a0 len L) (hs : len ≤ 140737488351232) :
    Calls Try.prog 18 #[.slice a0 len cap] w fun e w' => ∃ g c, e = .returned (.slice (some ⟨g, 0, none⟩) len c) ∧ w.heap.size ≤ g ∧ Own w' g c (L ++ [171, 205]) ∧ Below w.heap.size w w' := by
  obtain ⟨i0, hi, hz0, hz1, hz2⟩ : ∃ i0, Try.prog.info? 5 = some i0 ∧ i0.zero = some (.int .u8 0) ∧ i0.size = 1 ∧ i0.bytes = 1 := by
    have h := info5
    cases hh : Try.prog.info? 5 with
    | none => rw [hh] at h; cases h
    | some i => rw [hh] at h; simp at h; exact ⟨i, rfl, h.1, h.2.1, h.2.2⟩
  have HR : Hid (BRow w a0 len L) := hr
  obtain ⟨hl, hby, hc⟩ := hr
  go_enter Try.func18, Try.ntmps18
  go_wp2
  go_loopw [3, 4] (fun v i wr => ∃ k : Nat, k ≤ len ∧ i = .int .i64 k ∧ wr.ownsRow w.heap.size 5 1 v k (vals (L.take k)) ∧ Below w.heap.size w wr) (fun _ i _ => len - (intOf i).toNat)
  case atStart => exact ⟨0, Nat.zero_le _, rfl, by rw [List.take_zero]; exact World.ownsRow_nil _ _ _ _, Below.refl _ _⟩
  case round =>
    obtain ⟨k, hk, rfl, hown, hnx⟩ := hrel
    have hsz := hnx.size
    by_cases hlt : k < len
    · obtain ⟨ad, rfl, hx, hcell⟩ := hc (by omega)
      have hcx : wr.cell? (ad.add k) = some (.int .u8 (L.getD k 0)) := (hnx.cell (p := ad.add k) (by unfold Addr.add; split <;> exact hx)).trans (hcell k hlt)
      have Hs : Hid (vals (L.take (k + 1)) = vals (L.take k) ++ [.int .u8 (L.getD k 0)]) := by show _ = _; rw [take_snoc L k (by omega), vals_snoc]
      generalize L.getD k 0 = x at *
      clear hcell hc
      go_wp2_with (at_builtin; refine wpList_append_own _ rfl _ _ 36 rfl w.heap.size 5 i0 (.int .u8 0) 1 1 Try.underlying36 hi hz0 hz1 hz2 rfl (by decide) _ _ _ rfl (hown.alloc _) ⟨wr.heap.size, 0, none⟩ 1 1 [.int .u8 x] rfl rfl ?c1 ?c2 ?c3 ?c4 ?c5 ?_)
      case c1 => exact cell_one_new _ _ _
      case c2 => intro u hu; simp at hu; subst hu; rfl
      case c3 => unfold maxLen; omega
      case c4 => omega
      case c5 => simp; omega
      · intro v' w1 hown' hgrow _
        have hb1 := step_own hsz hown hnx hgrow
        rw [← Hs.out] at hown'
        clear hgrow hown hnx
        go_wp2
        exact ⟨⟨k + 1, by omega, by go_num, hown', hb1⟩, by simp [intOf]; omega⟩
    · have hkk : k = len := by omega
      subst hkk
      go_wp2_with (at_builtin; refine wpList_append_own _ rfl _ _ 36 rfl w.heap.size 5 i0 (.int .u8 0) 1 1 Try.underlying36 hi hz0 hz1 hz2 rfl (by decide) _ _ _ rfl (hown.alloc _) ⟨wr.heap.size, 0, none⟩ 2 2 [.int .u8 171, .int .u8 205] rfl rfl ?c1 ?c2 ?c3 ?c4 ?c5 ?_)
      case c1 => exact cell_two _ _ _ _
      case c2 => intro u hu; simp at hu; rcases hu with rfl | rfl <;> rfl
      case c3 => unfold maxLen; omega
      case c4 => omega
      case c5 => simp; omega
      · intro v' w1 hown' hgrow _
        have hb1 := step_own hsz hown hnx hgrow
        have hv : vals (L.take k) ++ [.int .u8 171, .int .u8 205] = vals (L ++ [171, 205]) := by
          rw [List.take_of_length_le (by omega)]; simp [vals]
        rw [hv] at hown'
        have hll : (L ++ [171, 205]).length = k + 2 := by simp [hl]
        obtain ⟨av, cv, rfl, _, hg⟩ := row_of_own (L := L ++ [171, 205]) hll (by
          intro x hx
          rcases List.mem_append.1 hx with h | h
          · exact hby x h
          · simp at h; omega) hown'
        obtain ⟨g, rfl, hg0, hgo⟩ := hg (by omega)
        have hcv := hgo.cap
        rw [hll] at hcv
        unfold maxLen at hcv
        clear hgrow hown hnx hown' hv hc
        go_wp2
        go_ret
        exact ⟨g, cv, rfl, hg0, hgo, hb1⟩
/-- The first fault of a place. -/
def ec (len : Nat) (at' width : Int) : Int := if width < 1 ∨ 8 < width then 11 else if at' < 0 ∨ (len : Int) - width < at' then 10 else 0
theorem room_any (a : Option Addr) (len cap : Nat) (at' width : Int) (w : World) (hs : len ≤ 140737488351232) (a0 : -9223372036854775808 ≤ at') (a1 : at' ≤ 9223372036854775807) (b0 : -9223372036854775808 ≤ width) (b1 : width ≤ 9223372036854775807) :
    Calls Try.prog 38 #[.slice a len cap, .int .i64 at', .int .i64 width] w fun e w' => e = .returned (.int .i64 (ec len at' width)) ∧ w' = w := by
  by_cases h1 : width < 1
  · have H : Hid (ec len at' width = 11) := by show _ = _; unfold ec; rw [if_pos (Or.inl h1)]
    go_enter Try.func38, Try.ntmps38
    go_wp2
    go_ret
    exact ⟨ret_int H.out.symm, rfl⟩
  have h1' : 1 ≤ width := by omega
  by_cases h2 : 8 < width
  · have H : Hid (ec len at' width = 11) := by show _ = _; unfold ec; rw [if_pos (Or.inr h2)]
    go_enter Try.func38, Try.ntmps38
    go_wp2
    go_ret
    exact ⟨ret_int H.out.symm, rfl⟩
  have h2' : width ≤ 8 := by omega
  have n : ¬ (width < 1 ∨ 8 < width) := by omega
  by_cases h3 : at' < 0
  · have H : Hid (ec len at' width = 10) := by show _ = _; unfold ec; rw [if_neg n, if_pos (Or.inl h3)]
    clear n
    go_enter Try.func38, Try.ntmps38
    go_wp2
    go_ret
    exact ⟨ret_int H.out.symm, rfl⟩
  have h3' : 0 ≤ at' := by omega
  by_cases h4 : (len : Int) - width < at'
  · have H : Hid (ec len at' width = 10) := by show _ = _; unfold ec; rw [if_neg n, if_pos (Or.inr h4)]
    clear n
    go_enter Try.func38, Try.ntmps38
    go_wp2
    go_ret
    exact ⟨ret_int H.out.symm, rfl⟩
  have h4' : at' ≤ (len : Int) - width := by omega
  have H : Hid (ec len at' width = 0) := by show _ = _; unfold ec; rw [if_neg n, if_neg (by omega)]
  clear n
  go_enter Try.func38, Try.ntmps38
  go_wp2
  go_ret
  exact ⟨ret_int H.out.symm, rfl⟩
/-- The reference asks it in two steps. -/
theorem there_any (len : Nat) (at' width : Int) (w : World) (hs : len ≤ 140737488351232) (a0 : -9223372036854775808 ≤ at') (a1 : at' ≤ 9223372036854775807) (b0 : 1 ≤ width) (b1 : width ≤ 8) :
    Calls Try.prog 40 #[.int .i64 len, .int .i64 at', .int .i64 width] w fun e w' => e = .returned (.bool (decide (ec len at' width = 0))) ∧ w' = w := by
  have n : ¬ (width < 1 ∨ 8 < width) := by omega
  have e : decide (ec len at' width = 0) = decide (0 ≤ at' ∧ at' ≤ (len : Int) - width) := by
    unfold ec; rw [if_neg n]; split <;> simp <;> omega
  have HE : Hid (decide (ec len at' width = 0) = decide (0 ≤ at' ∧ at' ≤ (len : Int) - width)) := e
  clear e n
  by_cases h3 : at' < 0
  · go_enter Try.func40, Try.ntmps40
    go_wp2
    go_ret
    exact ⟨by rw [HE.out]; simp; omega, rfl⟩
  have h3' : 0 ≤ at' := by omega
  by_cases h4 : (len : Int) < at'
  · go_enter Try.func40, Try.ntmps40
    go_wp2
    go_ret
    exact ⟨by rw [HE.out]; simp; omega, rfl⟩
  have h4' : at' ≤ (len : Int) := by omega
  by_cases h5 : width ≤ (len : Int) - at'
  · go_enter Try.func40, Try.ntmps40
    go_wp2
    go_ret
    exact ⟨by rw [HE.out]; simp; omega, rfl⟩
  · have h5' : (len : Int) - at' < width := by omega
    go_enter Try.func40, Try.ntmps40
    go_wp2
    go_ret
    exact ⟨by rw [HE.out]; simp; omega, rfl⟩
end Pk
end Go.Proofs.Ytdphfhpohlodcab
