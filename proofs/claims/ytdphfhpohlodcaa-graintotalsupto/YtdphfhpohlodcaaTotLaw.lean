import Derived.Test.YtdphfhpohlodcaaTotCalls
import Derived.Maps.AppendAt
import Derived.WalkSmall
namespace Go.Proofs.Ytdphfhpohlodcaa
namespace Tot
open Go.RowKit
theorem info2 : (Try.prog.info? 2).map (fun i => (i.zero, i.size, i.bytes)) = some (some (.int .i64 0), 1, 8) := by kernel_rfl
def vals (zs : List Int) (k : Nat) : List Value := (zs.take k).map (Value.int .i64)
theorem vals_zero (zs : List Int) : vals zs 0 = [] := by simp [vals]
theorem vals_succ (zs : List Int) (k : Nat) (h : k < zs.length) : vals zs (k + 1) = vals zs k ++ [.int .i64 (zs.getD k 0)] := by
  unfold vals
  rw [List.take_succ_eq_append_getElem h, List.map_append]
  simp [List.getD_eq_getElem?_getD, h]
theorem vals_len (zs : List Int) (k : Nat) (h : k ≤ zs.length) : (vals zs k).length = k := by simp [vals]; omega
theorem num_any (e : Int) (w : World) : Calls Try.prog 8 #[.int .i64 e] w fun e' w' => e' = .returned (.int .i64 e) ∧ w' = w := by
  go_enter Try.func8, Try.ntmps8
  go_wp2
  go_ret
  exact ⟨rfl, rfl⟩
theorem step_own {B k : Nat} {zs : List Int} {w wr w1 : World} {u : Value} {o : Obj} (hB : B ≤ wr.heap.size)
    (hown : wr.ownsRow B 2 1 u k (vals zs k)) (hnx : Below B w wr) (hgrow : (wr.alloc o).grownBy w1 u.ownBlock) : Below B w w1 :=
  (hnx.alloc (by omega) o).grown hgrow (by simp; omega) (fun j hj => (hown.lt j hj).1)
theorem cell_two (w : World) (x y : Value) (t : TypeId) : ∀ j u, [x, y][j]? = some u → (w.alloc (.cells #[x, y] t)).cell? ((⟨w.heap.size, 0, none⟩ : Addr).add j) = some u := by
  intro j u hj
  match j, hj with
  | 0, hj => simp at hj; subst hj; simp [Addr.add]
  | 1, hj => simp at hj; subst hj; simp [Addr.add]
/-- What an owned row of k + 2 cells holds. -/
theorem own_cells {B k : Nat} {zs : List Int} {w : World} {v : Value} (h : w.ownsRow B 2 1 v (k + 2) (vals zs k ++ [.int .i64 171, .int .i64 205])) :
    ∃ g cap, v = .slice (some ⟨g, 0, none⟩) (k + 2) cap ∧ B ≤ g ∧ k + 2 ≤ cap ∧ cap ≤ maxLen ∧ ∀ j, j < k + 2 → w.cell? ⟨g, j, none⟩ = (vals zs k ++ [.int .i64 171, .int .i64 205])[j]? := by
  obtain ⟨h1, h2⟩ := h
  rcases h2 with ⟨_, h0⟩ | ⟨g, cap, cur, rfl, hb, hh, hn, hm, hcs, ht⟩
  · omega
  · exact ⟨g, cap, rfl, hb, hn, hm, fun j hj => World.ownsRow.cellAt (base := B) (e := 2) (size := 1) ⟨h1, .inr ⟨g, cap, cur, rfl, hb, hh, hn, hm, hcs, ht⟩⟩ j (by omega)⟩
theorem vals_get (zs : List Int) (k i : Nat) (ts : List Value) (hk : k ≤ zs.length) (hi : i < k) : (vals zs k ++ ts)[i]? = some (.int .i64 (zs.getD i 0)) := by
  have hl := vals_len zs k hk
  rw [List.getElem?_append_left (by omega)]
  unfold vals
  rw [List.getElem?_map, List.getElem?_take_of_lt hi, List.getD_eq_getElem?_getD, List.getElem?_eq_getElem (by omega)]
  rfl
theorem row_own {k : Nat} {zs : List Int} {w : World} {g : Nat} {ts : List Value} (hl : k ≤ zs.length ∧ k ≤ 9223372036854775807) (hb : ∀ i, i < k → -9223372036854775808 ≤ zs.getD i 0 ∧ zs.getD i 0 ≤ 9223372036854775807)
    (hc : ∀ j, j < k + 2 → w.cell? ⟨g, j, none⟩ = (vals zs k ++ ts)[j]?) : Row w (some ⟨g, 0, none⟩) k zs := by
  refine ⟨hl, fun _ => ⟨_, rfl, fun i hi => ?_⟩, hb⟩
  have e : (⟨g, 0, none⟩ : Addr).add i = ⟨g, i, none⟩ := by unfold Addr.add; split <;> simp_all
  rw [e, hc i (by omega), vals_get zs k i ts hl.1 hi]
theorem row_old {k B : Nat} {zs : List Int} {w w1 : World} {a : Option Addr} (hr : Row w a k zs) (hb : Below B w w1) (hin : ∀ x : Addr, a = some x → 0 < k → x.block < B) : Row w1 a k zs := by
  obtain ⟨h1, h2, h3⟩ := hr
  refine ⟨h1, fun h0 => ?_, h3⟩
  obtain ⟨x, rfl, hc⟩ := h2 h0
  exact ⟨x, rfl, fun i hi => (hb.cell (p := x.add i) (by unfold Addr.add; split <;> exact hin x rfl h0)).trans (hc i hi)⟩
set_option maxHeartbeats 800000 in
theorem walk (a0 : Option Addr) (len cap : Nat) (zs : List Int) (w : World) (hr : Row w a0 len zs) (hs : len ≤ 1048576) (hin : ∀ x : Addr, a0 = some x → 0 < len → x.block < w.heap.size) :
    Calls Try.prog 3 #[.slice a0 len cap] w fun e w' => e = .returned (.bool true) ∧ Below w.heap.size w w' := by
  have hr0 := hr
  obtain ⟨⟨hl, hl2⟩, hc, hb⟩ := hr
  obtain ⟨i0, hi, hz0, hz1, hz2⟩ : ∃ i0, Try.prog.info? 2 = some i0 ∧ i0.zero = some (.int .i64 0) ∧ i0.size = 1 ∧ i0.bytes = 8 := by
    have h := info2
    cases hh : Try.prog.info? 2 with
    | none => rw [hh] at h; cases h
    | some i => rw [hh] at h; simp at h; exact ⟨i, rfl, h.1, h.2.1, h.2.2⟩
  go_enter Try.func3, Try.ntmps3
  go_wp2
  go_loopw [3, 4] (fun v i wr => ∃ k : Nat, k ≤ len ∧ i = .int .i64 k ∧ wr.ownsRow w.heap.size 2 1 v k (vals zs k) ∧ Below w.heap.size w wr) (fun _ i _ => len - (intOf i).toNat)
  case atStart => exact ⟨0, Nat.zero_le _, rfl, by rw [vals_zero]; exact World.ownsRow_nil _ _ _ _, Below.refl _ _⟩
  case round =>
    obtain ⟨k, hk, rfl, hown, hnx⟩ := hrel
    by_cases hlt : k < len
    · obtain ⟨ad, rfl, hcell⟩ := hc (by omega)
      have hcx : wr.cell? (ad.add k) = some (.int .i64 (zs.getD k 0)) := (hnx.cell (p := ad.add k) (by unfold Addr.add; split <;> exact hin ad rfl (by omega))).trans (hcell k hlt)
      have Hs : Hid (vals zs (k + 1) = vals zs k ++ [.int .i64 (zs.getD k 0)]) := vals_succ zs k (by omega)
      generalize zs.getD k 0 = x at *
      have hsz := hnx.size
      have Hr0 : Hid (Row w (some ad) len zs) := hr0
      clear hcell hc hb hr0 hin
      go_wp2_with (at_builtin; refine wpList_append_own _ rfl _ _ 22 rfl w.heap.size 2 i0 (.int .i64 0) 1 8 Try.underlying22 hi hz0 hz1 hz2 rfl (by decide) _ _ _ rfl (hown.alloc _) ⟨wr.heap.size, 0, none⟩ 1 1 [.int .i64 x] rfl rfl ?c1 ?c2 ?c3 ?c4 ?c5 ?_)
      case c1 => exact cell_one_new _ _ _
      case c2 => intro u hu; simp at hu; subst hu; rfl
      case c3 => unfold maxLen; omega
      case c4 => omega
      case c5 => simp; omega
      · intro v' w1 hown' hgrow _
        have hb1 := step_own hsz hown hnx hgrow
        rw [← Hs.out] at hown'
        clear hgrow hown hnx
        go_wp2
        exact ⟨⟨k + 1, by omega, by go_num, hown', hb1⟩, by simp [intOf]; omega⟩
    · have hkk : k = len := by omega
      subst hkk
      have hsz := hnx.size
      go_wp2_with (at_builtin; refine wpList_append_own _ rfl _ _ 22 rfl w.heap.size 2 i0 (.int .i64 0) 1 8 Try.underlying22 hi hz0 hz1 hz2 rfl (by decide) _ _ _ rfl (hown.alloc _) ⟨wr.heap.size, 0, none⟩ 2 2 [.int .i64 171, .int .i64 205] rfl rfl ?c1 ?c2 ?c3 ?c4 ?c5 ?_)
      case c1 => exact cell_two _ _ _ _
      case c2 => intro u hu; simp at hu; rcases hu with rfl | rfl <;> rfl
      case c3 => unfold maxLen; omega
      case c4 => omega
      case c5 => simp; omega
      · intro v' w1 hown' hgrow _
        have hb1 := step_own hsz hown hnx hgrow
        clear hgrow hown hnx
        obtain ⟨g, cap1, rfl, hg0, hcap, hcm, hcells⟩ := own_cells hown'
        have hr1 : Row w1 (some ⟨g, 0, none⟩) k zs := row_own ⟨hl, hl2⟩ hb hcells
        have hr2 : Row w1 a0 k zs := row_old hr0 hb1 hin
        clear hown' hr0
        go_wp2_with fail
        refine (total_any _ _ _ zs _ hr1).mono ?_
        rintro e1 w9 ⟨rfl, hw9⟩
        subst w9
        go_wp2_with fail
        refine (ref_total _ _ _ zs _ hr2 hs).mono ?_
        rintro e2 w9 ⟨rfl, n, rfl⟩
        generalize val (sum zs k) = V at *
        generalize err (sum zs k) = E at *
        have c1 : w1.cell? ⟨g, k, none⟩ = some (.int .i64 171) := by
          rw [hcells k (by omega), List.getElem?_append_right (by rw [vals_len zs k hl]; omega), vals_len zs k hl]; simp
        have c2 : w1.cell? ⟨g, k + 1, none⟩ = some (.int .i64 205) := by
          rw [hcells (k + 1) (by omega), List.getElem?_append_right (by rw [vals_len zs k hl]; omega), vals_len zs k hl]; simp
        have c3 : ∀ i, i < k → w1.cell? ⟨g, i, none⟩ = some (.int .i64 (zs.getD i 0)) := fun i hi => by rw [hcells i (by omega), vals_get zs k i _ hl hi]
        have H3 : Hid (∀ i, i < k → w1.cell? ⟨g, i, none⟩ = some (.int .i64 (zs.getD i 0))) := c3
        have HR : Hid (Row w1 a0 k zs) := hr2
        clear hcells c3 hr1 hr2 hc hb hin
        unfold maxLen at hcm
        go_wp2
        go_loopw [9] (fun i wr => ∃ j : Nat, j ≤ k ∧ i = .int .i64 j ∧ ∃ m, wr = w1.drewN m) (fun i _ => k - (intOf i).toNat)
        case atStart => exact ⟨0, Nat.zero_le _, rfl, _, rfl⟩
        case round =>
          obtain ⟨j, hj, rfl, m, rfl⟩ := hrel
          by_cases hjk : j < k
          · have g1 := H3.out j hjk
            obtain ⟨_, h2, _⟩ := HR.out
            obtain ⟨ad, rfl, hcell⟩ := h2 (by omega)
            have g2 := hcell j hjk
            clear hcell h2
            go_wp2
            go_quiet (fail)
            go_wp2
            exact ⟨⟨j + 1, by omega, by go_num, _, rfl⟩, by simp [intOf]; omega⟩
          · go_wp2_with fail
            refine (num_any E _).mono ?_
            rintro e3 w9 ⟨rfl, hw9⟩
            subst w9
            go_wp2
            go_ret
            exact ⟨rfl, below_drewN hb1 _⟩
end Tot
end Go.Proofs.Ytdphfhpohlodcaa
