import Derived.Test.YtfgjhljhjclegaaRfA
namespace Go.Proofs.Ytfgjhljhjclegaa
namespace Rt
open Go.RowKit
set_option linter.unusedVariables false
set_option maxRecDepth 8000
theorem there_ok (k : Nat) (w : World) (h2 : k ≤ 8) :
    Calls Try.prog 90 #[.int .i64 k, .int .i64 0, .int .i64 k] w fun e w' => e = .returned (.bool true) ∧ w' = w := by
  go_enter Try.func90, Try.ntmps90
  go_wp2
  go_ret
  exact ⟨rfl, rfl⟩
theorem row_form {w : World} {B n : Nat} {v : Value} {L : List Int} (hn : L.length = n) (h0 : 0 < n) (h : w.ownsRow B 5 1 v n (vals L)) :
    ∃ g cap, v = .slice (some ⟨g, 0, none⟩) n cap ∧ B ≤ g ∧ Own w g cap L := by
  obtain ⟨g, cap, rfl, hb, hl⟩ := World.ownsRow.form h h0
  exact ⟨g, cap, rfl, hb, Own.of_row hn h⟩
theorem lb_over (v : Int) (k : Nat) : over (List.replicate k 0) 0 (lb v k) = lb v k := by
  unfold over; simp [lb_len]
set_option maxHeartbeats 1600000 in
theorem rput_ok (h c k : Nat) (v : Int) (w : World) (hr : Rw w h (List.replicate k 0)) (h1 : 1 ≤ k) (h2 : k ≤ 8) (hv0 : 0 ≤ v) (hv1 : v < 2 ^ (8 * k)) :
    Calls Try.prog 80 #[.slice (some ⟨h, 0, none⟩) k c, .int .i64 0, .int .i64 k, .int .u64 v] w fun e w' => ∃ g c, e = .returned (.tuple #[.slice (some ⟨g, 0, none⟩) k c, .int .i64 0]) ∧ w.heap.size ≤ g ∧ Own w' g c (lb v k) ∧ Below w.heap.size w w' := by
  have hp := pow8_le k h2
  have hf : v / 2 ^ (8 * k) = 0 := Int.ediv_eq_zero_of_lt hv0 hv1
  have hf' : (v / 2 ^ (8 * k) != 0) = false := by simpa using hf
  have hv2 : v < 18446744073709551616 := by omega
  clear hf hv1 hp
  obtain ⟨i0, hi, hz0, hz1, hz2⟩ := i0x
  have hlt := hr.lt
  have hc : Hid (∀ i, i < k → w.cell? ⟨h, i, none⟩ = some (.int .u8 0)) := fun i hi => by
    have := hr.cell (j := i) (by simp; omega)
    rw [this, List.getD_eq_getElem?_getD, List.getElem?_replicate, if_pos hi]; rfl
  clear hr
  go_enter Try.func80, Try.ntmps80
  go_wp2
  go_loopw [10, 11] (fun v i wr => ∃ j : Nat, j ≤ k ∧ i = .int .i64 j ∧ wr.ownsRow w.heap.size 5 1 v j (vals (List.replicate j 0)) ∧ Below w.heap.size w wr) (fun _ i _ => k - (intOf i).toNat)
  case atStart => exact ⟨0, Nat.zero_le _, rfl, World.ownsRow_nil _ _ _ _, Below.refl _ _⟩
  case round =>
    obtain ⟨kk, hk, rfl, hown, hnx⟩ := hrel
    have hsz := hnx.size
    by_cases hltk : kk < k
    · have hcx : wr.cell? ⟨h, kk, none⟩ = some (.int .u8 0) := (hnx.cell (p := ⟨h, kk, none⟩) hlt).trans (hc.out kk hltk)
      have Hs : Hid (vals (List.replicate (kk + 1) 0) = vals (List.replicate kk 0) ++ [.int .u8 0]) := by show _ = _; rw [List.replicate_succ', vals_snoc]
      go_wp2_with (at_builtin; refine wpList_append_own _ rfl _ _ 27 rfl w.heap.size 5 i0 (.int .u8 0) 1 1 Try.underlying27 hi hz0 hz1 hz2 rfl (by decide) _ _ _ rfl (hown.alloc _) ⟨wr.heap.size, 0, none⟩ 1 1 [.int .u8 0] rfl rfl ?c1 ?c2 ?c3 ?c4 ?c5 ?_)
      case c1 => exact cell_one_new _ _ _
      case c2 => intro u hu; simp at hu; subst hu; rfl
      case c3 => unfold maxLen; omega
      case c4 => omega
      case c5 => simp; omega
      · intro v' w1 hown' hgrow _
        have hb1 := step_own hsz hown hnx hgrow
        rw [← Hs.out] at hown'
        clear hgrow hown hnx
        go_wp2
        exact ⟨⟨kk + 1, by omega, by go_num, hown', hb1⟩, by simp [intOf]; omega⟩
    · have hkk : kk = k := by omega
      subst hkk
      clear hc
      obtain ⟨g, cv, rfl, hg0, hgo⟩ := row_form (by simp) (by omega) hown
      have hcv := hgo.cap
      unfold maxLen at hcv
      simp only [List.length_replicate] at hcv
      clear hown
      by_cases hk8 : kk < 8
      all_goals
        go_wp2_with fail
        refine (there_ok kk _ h2).mono ?_
        rintro e9 w9 ⟨rfl, hw9⟩
        subst w9
        go_wp2
        go_loopw [13] (fun i wz => ∃ j : Nat, j ≤ kk ∧ i = .int .i64 j ∧ Own wz g cv (over (List.replicate kk 0) 0 (lb v j)) ∧ Below w.heap.size w wz) (fun i _ => kk - (intOf i).toNat)
        case atStart => exact ⟨0, Nat.zero_le _, rfl, by rw [show lb v 0 = [] from rfl, over_nil]; exact hgo, hnx⟩
        case round =>
          obtain ⟨j, hj, rfl, ho1, hb1⟩ := hrel
          by_cases hlt : j < kk
          · have hll : (over (List.replicate kk (0 : Int)) 0 (lb v j)).length = kk := by rw [over_len _ _ _ (by rw [lb_len]; simp; omega)]; simp
            have hc := ho1.cell (j := j) (by omega)
            have hfz := ho1.frozen j
            have hset := ho1.set j (byteAt v j)
            have hbs := hb1.setCell (p := ⟨g, j, none⟩) hg0 (.int .u8 (byteAt v j))
            have e7 := over_snoc (List.replicate kk (0 : Int)) (lb v j) 0 (byteAt v j) (by rw [lb_len]; simp; omega)
            rw [lb_len, ← lb_succ, Nat.zero_add] at e7
            rw [e7] at hset
            have e8 : (8 * (j : Int)).toNat = 8 * j := by omega
            have HB : Hid (byteAt v j = v / 2 ^ (8 * j) % 256) := rfl
            generalize (over (List.replicate kk (0 : Int)) 0 (lb v j)).getD j 0 = old at *
            clear ho1 hb1 hf' e7 hll
            go_wp2
            exact ⟨⟨j + 1, by omega, by go_num, hset, hbs⟩, by simp [intOf]; omega⟩
          · have hjk : j = kk := by omega
            subst hjk
            rw [lb_over] at ho1
            go_wp2
            go_ret2
            exact ⟨g, cv, rfl, hg0, ho1, hb1⟩
set_option maxHeartbeats 800000 in
theorem le_ok (k : Nat) (v : Int) (w : World) (h1 : 1 ≤ k) (h2 : k ≤ 8) (hv0 : 0 ≤ v) (hv1 : v < 2 ^ (8 * k)) :
    Calls Try.prog 51 #[.int .u64 v, .int .i64 k] w fun e w' => ∃ g c, e = .returned (.slice (some ⟨g, 0, none⟩) k c) ∧ w.heap.size ≤ g ∧ Own w' g c (lb v k) ∧ Below w.heap.size w w' := by
  have mk := make_bytes k (by omega) w
  have HP : Hid (∀ c, Calls Try.prog 80 #[.slice (some ⟨w.heap.size, 0, none⟩) k c, .int .i64 0, .int .i64 k, .int .u64 v] (w.alloc (.cells (vals (List.replicate k 0)).toArray 5)) fun e w' => ∃ g c, e = .returned (.tuple #[.slice (some ⟨g, 0, none⟩) k c, .int .i64 0]) ∧ w.heap.size ≤ g ∧ Own w' g c (lb v k) ∧ Below w.heap.size w w') := fun c => by
    refine (rput_ok w.heap.size c k v _ (Rw.new w _) h1 h2 hv0 hv1).mono ?_
    rintro e w' ⟨g, c, rfl, hg, ho, hb⟩
    refine ⟨g, c, rfl, by simp at hg; omega, ho, ((Below.refl _ _).alloc (Nat.le_refl _) _).trans (hb.mono (by simp))⟩
  clear hv1
  generalize w.alloc (.cells (vals (List.replicate k 0)).toArray 5) = w1 at *
  go_enter Try.func51, Try.ntmps51
  go_wp2_with fail
  refine (HP.out _).mono ?_
  rintro e9 w9 ⟨g, c, rfl, hg, ho, hb⟩
  go_wp2
  go_ret
  exact ⟨g, c, rfl, hg, ho, hb⟩
end Rt
end Go.Proofs.Ytfgjhljhjclegaa
