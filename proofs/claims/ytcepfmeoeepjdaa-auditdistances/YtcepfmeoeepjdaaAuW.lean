import Derived.Test.YtcepfmeoeepjdaaAuV
import Derived.Lib.SliceRun
namespace Go.Proofs.Ytcepfmeoeepjdaa
namespace Au
open Go.RowKit
set_option linter.unusedVariables false
set_option maxRecDepth 8000
/-- The two halves of the room. -/
def Pr (W : World) (rb n m : Nat) (D C : Nat → Int) : Prop := ∃ U, GU W rb m U ∧ (∀ v, v < n → U v = D v) ∧ (∀ v, v < n → U (n + v) = C v) ∧ (∀ j, 2 * n ≤ j → j < m → U j = 99)
theorem Pr.of {W W' : World} {rb n m : Nat} {D C : Nat → Int} (h : Pr W rb n m D C) (e : W'.heap[rb]? = W.heap[rb]?) : Pr W' rb n m D C := by
  obtain ⟨U, a, b⟩ := h
  exact ⟨U, a.of e, b⟩
theorem Pr.lt {W : World} {rb n m : Nat} {D C : Nat → Int} (h : Pr W rb n m D C) : rb < W.heap.size := by
  obtain ⟨U, a, b⟩ := h
  exact a.lt
theorem Pr.d {W : World} {rb n m : Nat} {D C : Nat → Int} (h : Pr W rb n m D C) (hm : 2 * n ≤ m) (v : Nat) (hv : v < n) : W.cell? ⟨rb, v, none⟩ = some (.int .u64 (D v)) := by
  obtain ⟨U, a, b, c, d⟩ := h
  rw [a.cell v (by omega), b v hv]
theorem Pr.c {W : World} {rb n m : Nat} {D C : Nat → Int} (h : Pr W rb n m D C) (hm : 2 * n ≤ m) (v : Nat) (hv : v < n) : W.cell? ⟨rb, n + v, none⟩ = some (.int .u64 (C v)) := by
  obtain ⟨U, a, b, c, d⟩ := h
  rw [a.cell (n + v) (by omega), c v hv]
theorem Pr.fz {W : World} {rb n m : Nat} {D C : Nat → Int} (h : Pr W rb n m D C) (j : Nat) : W.frozen? ⟨rb, j, none⟩ = false := by
  obtain ⟨U, a, b⟩ := h
  exact a.fz j
theorem Pr.ext {W : World} {rb n m : Nat} {D C D' C' : Nat → Int} (h : Pr W rb n m D C) (h1 : ∀ v, v < n → D v = D' v) (h2 : ∀ v, v < n → C v = C' v) : Pr W rb n m D' C' := by
  obtain ⟨U, a, b, c, d⟩ := h
  exact ⟨U, a, fun v hv => (b v hv).trans (h1 v hv), fun v hv => (c v hv).trans (h2 v hv), d⟩
theorem Pr.setD {W : World} {rb n m : Nat} {D C : Nat → Int} (h : Pr W rb n m D C) (v : Nat) (hv : v < n) (x : Int) : Pr (W.setCell ⟨rb, v, none⟩ (.int .u64 x)) rb n m (up D v x) C := by
  obtain ⟨U, a, b, c, d⟩ := h
  refine ⟨_, (a.set v x).1, fun u hu => ?_, fun u hu => ?_, fun j h1 h2 => ?_⟩
  · by_cases e : u = v
    · subst e; rw [up_eq, up_eq]
    · rw [up_ne _ _ _ _ e, up_ne _ _ _ _ e]; exact b u hu
  · rw [up_ne _ _ _ _ (by omega)]; exact c u hu
  · rw [up_ne _ _ _ _ (by omega)]; exact d j h1 h2
theorem Pr.setC {W : World} {rb n m : Nat} {D C : Nat → Int} (h : Pr W rb n m D C) (v : Nat) (hv : v < n) (x : Int) : Pr (W.setCell ⟨rb, n + v, none⟩ (.int .u64 x)) rb n m D (up C v x) := by
  obtain ⟨U, a, b, c, d⟩ := h
  refine ⟨_, (a.set (n + v) x).1, fun u hu => ?_, fun u hu => ?_, fun j h1 h2 => ?_⟩
  · rw [up_ne _ _ _ _ (by omega)]; exact b u hu
  · by_cases e : u = v
    · subst e; rw [up_eq, up_eq]
    · rw [up_ne _ _ _ _ (by omega), up_ne _ _ _ _ e]; exact c u hu
  · rw [up_ne _ _ _ _ (by omega)]; exact d j h1 h2
abbrev pv (qb rb n : Nat) : Array Value := #[.pointer (some ⟨qb, 0, none⟩), .slice (some ⟨rb, 0, none⟩) n (2 * n), .slice (some ⟨rb, n, none⟩) n n]
abbrev K3p (b qb rb n : Nat) (w : World) : Prop := w.cell? ⟨b, 0, none⟩ = some (.pointer (some ⟨qb, 0, none⟩)) ∧ w.cell? ⟨b, 1, none⟩ = some (.slice (some ⟨rb, 0, none⟩) n (2 * n)) ∧ w.cell? ⟨b, 2, none⟩ = some (.slice (some ⟨rb, n, none⟩) n n)
def Pb (w : World) (b qb rb n : Nat) : Prop := w.heap[b]? = some (.cells (pv qb rb n) 91 (0, 0))
theorem Pb.k {w : World} {b qb rb n : Nat} (h : Pb w b qb rb n) : K3p b qb rb n w := ⟨(cell_of_row _ _ _ _ _ _ h).trans rfl, (cell_of_row _ _ _ _ _ _ h).trans rfl, (cell_of_row _ _ _ _ _ _ h).trans rfl⟩
theorem Pb.lt {w : World} {b qb rb n : Nat} (h : Pb w b qb rb n) : b < w.heap.size := lt_of_some h
set_option maxHeartbeats 4000000 in
theorem fillc_any (n m rb : Nat) (D C : Nat → Int) (x : Int) (hm : 2 * n ≤ m) (hn : n ≤ 5000) (w : World) (h : Pr w rb n m D C) :
    Calls Try.prog 93 #[.slice (some ⟨rb, n, none⟩) n n, .int .u64 x] w fun e w' => (∃ v, e = .returned v) ∧ Pr w' rb n m D (fun _ => x) ∧ Ch (fun k => k = rb) w w' := by
  have HP := hide h
  clear h
  go_enter Try.func93, Try.ntmps93
  go_wp2_with (fail)
  go_loopw [7] (fun t wr => ∃ j : Nat, j ≤ n ∧ t = .int .i64 j ∧ Hid (Pr wr rb n m D (fun v => if v < j then x else C v)) ∧ Hid (Ch (fun k => k = rb) w wr)) (fun t _ => n - (intOf t).toNat)
  case atStart => exact ⟨0, Nat.zero_le _, rfl, HP.out.ext (fun _ _ => rfl) (fun v hv => by simp), Ch.refl _ _⟩
  case round =>
    clear HP
    obtain ⟨j, hj, rfl, HP, HC⟩ := hrel
    by_cases cc : j < n
    · have hcc : (j : Int) < (n : Int) := by omega
      have hf := HP.out.fz (n + j)
      have hc := HP.out.c hm j cc
      have HP1 : Hid (Pr (wr.setCell ⟨rb, n + j, none⟩ (.int .u64 x)) rb n m D (fun v => if v < j + 1 then x else C v)) := (HP.out.setC j cc x).ext (fun _ _ => rfl) (fun v hv => by
        by_cases e : v = j
        · subst e; rw [up_eq, if_pos (by omega)]
        · rw [up_ne _ _ _ _ e]
          by_cases e2 : v < j
          · rw [if_pos e2, if_pos (by omega)]
          · rw [if_neg e2, if_neg (by omega)])
      have HC1 : Hid (Ch (fun k => k = rb) w (wr.setCell ⟨rb, n + j, none⟩ (.int .u64 x))) := HC.out.set _ _ (Or.inl rfl)
      clear HP HC
      go_wp2
      all_goals exact ⟨⟨j + 1, cc, by go_num, HP1, HC1⟩, by simp [intOf]; omega⟩
    · have hjn : n = j := by omega
      subst hjn
      have HE : Hid (Pr wr rb n m D (fun _ => x)) := HP.out.ext (fun _ _ => rfl) (fun v hv => if_pos hv)
      go_wp2
      go_end0
      exact ⟨⟨_, rfl⟩, HE.out, HC.out⟩
set_option maxHeartbeats 4000000 in
theorem take_any (n m rb qb : Nat) (D C : Nat → Int) (k : Int) (hm : 2 * n ≤ m) (hn : n ≤ 5000) (w : World) (h : Pr w rb n m D C) :
    Calls Try.prog 95 #[.agg (pv qb rb n), .int .u64 k] w fun e w' => e = .returned (.bool (an (tk D C k) n)) ∧ Pr w' rb n m D (nC D C k) ∧ Ch (fun k => k = rb) w w' := by
  have hlt := h.lt
  have hB : Below w.heap.size w (w.alloc (.cells (pv qb rb n) 91)) := b1 _ _ _
  have HP : Hid (Pr (w.alloc (.cells (pv qb rb n) 91)) rb n m D C) := h.of (hB.block _ hlt)
  have HC0 : Hid (Ch (fun k => k = rb) w (w.alloc (.cells (pv qb rb n) 91))) := Ch.of hB
  have HB0 : Hid (Pb (w.alloc (.cells (pv qb rb n) 91)) w.heap.size qb rb n) := at0 _ _
  have HL := hide hlt
  clear h hB
  go_enter Try.func95, Try.ntmps95
  go_wp2_with (fail)
  generalize (w.alloc (.cells (pv qb rb n) 91)) = w0 at *
  go_loopw [10, 4] (fun t u wr => ∃ j : Nat, j ≤ n ∧ t = .int .i64 j ∧ u = .bool (an (tk D C k) j) ∧ Hid (Pr wr rb n m D (fun v => if v < j then nC D C k v else C v)) ∧ Hid (Ch (fun k => k = rb) w wr) ∧ Hid (Pb wr w.heap.size qb rb n)) (fun t _ _ => n - (intOf t).toNat)
  case atStart => exact ⟨0, Nat.zero_le _, rfl, rfl, HP.out.ext (fun _ _ => rfl) (fun v hv => by simp), HC0, HB0⟩
  case round =>
    clear HP HC0 HB0
    obtain ⟨j, hj, rfl, rfl, HP, HC, HB⟩ := hrel
    by_cases cc : j < n
    · have hcc : (j : Int) < (n : Int) := by omega
      obtain ⟨p0, p1, p2⟩ := HB.out.k
      have hd := HP.out.d hm j cc
      have hc := HP.out.c hm j cc
      rw [if_neg (Nat.lt_irrefl j)] at hc
      have HB2 : Hid (∀ o v, o ≠ w.heap.size → Pb (wr.setCell ⟨o, n + j, none⟩ v) w.heap.size qb rb n) := fun o v ho => (Below.heap_setCell _ _ _ _ (fun e => ho e.symm)).trans HB.out
      have HL2 : Hid (rb ≠ w.heap.size) := (by have := HL.out; show rb ≠ w.heap.size; omega)
      by_cases hb : lb C j = true
      · have hb1 : (C j == 18446744073709551615) = true := hb
        by_cases hk : D j ≤ k
        · have ht : tk D C k j = true := by unfold tk; rw [hb]; simp [hk]
          have HA : Hid (an (tk D C k) (j + 1) = true) := by show _ = _; simp only [an, ht]; simp
          have hf := HP.out.fz (n + j)
          have HP1 : Hid (Pr (wr.setCell ⟨rb, n + j, none⟩ (.int .u64 k)) rb n m D (fun v => if v < j + 1 then nC D C k v else C v)) := (HP.out.setC j cc k).ext (fun _ _ => rfl) (fun v hv => by
            by_cases e : v = j
            · subst e; rw [up_eq, if_pos (by omega)]; unfold nC; rw [if_pos ht]
            · rw [up_ne _ _ _ _ e]
              by_cases e2 : v < j
              · rw [if_pos e2, if_pos (by omega)]
              · rw [if_neg e2, if_neg (by omega)])
          have HC1 : Hid (Ch (fun k => k = rb) w (wr.setCell ⟨rb, n + j, none⟩ (.int .u64 k))) := HC.out.set _ _ (Or.inl rfl)
          have HB1 : Hid (Pb (wr.setCell ⟨rb, n + j, none⟩ (.int .u64 k)) w.heap.size qb rb n) := HB2.out _ _ HL2.out
          clear HP HC HB HB2 HL2 hb ht
          go_wp2
          all_goals exact ⟨⟨j + 1, cc, by go_num, by rw [HA.out], HP1, HC1, HB1⟩, by simp [intOf]; omega⟩
        · have ht : tk D C k j = false := by unfold tk; rw [hb]; simp [hk]
          have HA : Hid (an (tk D C k) j = an (tk D C k) (j + 1)) := by show _ = _; simp only [an, ht]; simp
          have HP1 : Hid (Pr wr rb n m D (fun v => if v < j + 1 then nC D C k v else C v)) := HP.out.ext (fun _ _ => rfl) (fun v hv => by
            by_cases e : v = j
            · subst e; rw [if_neg (by omega), if_pos (by omega)]; unfold nC; rw [if_neg (by simp [ht])]
            · by_cases e2 : v < j
              · rw [if_pos e2, if_pos (by omega)]
              · rw [if_neg e2, if_neg (by omega)])
          clear HP HB2 HL2 hb ht
          go_wp2
          all_goals exact ⟨⟨j + 1, cc, by go_num, by rw [HA.out], HP1, HC, HB⟩, by simp [intOf]; omega⟩
      · have hb' : lb C j = false := by simpa using hb
        have hb1 : (C j == 18446744073709551615) = false := hb'
        have ht : tk D C k j = false := by unfold tk; rw [hb']; simp
        have HA : Hid (an (tk D C k) j = an (tk D C k) (j + 1)) := by show _ = _; simp only [an, ht]; simp
        have HP1 : Hid (Pr wr rb n m D (fun v => if v < j + 1 then nC D C k v else C v)) := HP.out.ext (fun _ _ => rfl) (fun v hv => by
          by_cases e : v = j
          · subst e; rw [if_neg (by omega), if_pos (by omega)]; unfold nC; rw [if_neg (by simp [ht])]
          · by_cases e2 : v < j
            · rw [if_pos e2, if_pos (by omega)]
            · rw [if_neg e2, if_neg (by omega)])
        clear HP HB2 HL2 hb hb' ht
        go_wp2
        all_goals exact ⟨⟨j + 1, cc, by go_num, by rw [HA.out], HP1, HC, HB⟩, by simp [intOf]; omega⟩
    · have hjn : n = j := by omega
      subst hjn
      have HE : Hid (Pr wr rb n m D (nC D C k)) := HP.out.ext (fun _ _ => rfl) (fun v hv => if_pos hv)
      clear HP HB
      go_wp2
      all_goals go_ret
      all_goals exact ⟨rfl, HE.out, HC.out⟩
set_option maxHeartbeats 4000000 in
theorem least_any (n m rb qb : Nat) (D C : Nat → Int) (hm : 2 * n ≤ m) (hn : n ≤ 5000) (w : World) (h : Pr w rb n m D C) :
    Calls Try.prog 96 #[.agg (pv qb rb n)] w fun e w' => e = .returned (.tuple #[.int .u64 (ls D C n), .bool (an (lb C) n)]) ∧ Below w.heap.size w w' := by
  have hlt := h.lt
  have hB : Below w.heap.size w (w.alloc (.cells (pv qb rb n) 91)) := b1 _ _ _
  have HP : Hid (Pr (w.alloc (.cells (pv qb rb n) 91)) rb n m D C) := h.of (hB.block _ hlt)
  have HB : Hid (Pb (w.alloc (.cells (pv qb rb n) 91)) w.heap.size qb rb n) := at0 _ _
  have HW := hide hB
  clear h hB
  go_enter Try.func96, Try.ntmps96
  go_wp2_with (fail)
  generalize (w.alloc (.cells (pv qb rb n) 91)) = w0 at *
  go_loop [9, 2, 3] (fun t u s => ∃ j : Nat, j ≤ n ∧ t = .int .i64 j ∧ u = .int .u64 (ls D C j) ∧ s = .bool (an (lb C) j)) (fun t _ _ => n - (intOf t).toNat)
  case atStart => exact ⟨0, Nat.zero_le _, rfl, rfl, rfl⟩
  case round =>
    obtain ⟨j, hj, rfl, rfl, rfl⟩ := hrel
    by_cases cc : j < n
    · have hcc : (j : Int) < (n : Int) := by omega
      obtain ⟨p0, p1, p2⟩ := HB.out.k
      have hd := HP.out.d hm j cc
      have hc := HP.out.c hm j cc
      cases hb : lb C j with
      | true =>
        have hb1 : (C j == 18446744073709551615) = true := hb
        have HA : Hid (an (lb C) (j + 1) = true) := by show _ = _; simp only [an, hb]; simp
        have HM : Hid (ls D C (j + 1) = min (ls D C j) (D j)) := by show _ = _; simp only [ls, hb, if_true]
        clear hb
        by_cases h1 : ls D C j < D j
        · have HM1 : Hid (ls D C j = ls D C (j + 1)) := by show _ = _; rw [HM.out, Int.min_eq_left (by omega)]
          go_wp2
          all_goals exact ⟨⟨j + 1, cc, by go_num, by rw [HM1.out], by rw [HA.out]⟩, by simp [intOf]; omega⟩
        · by_cases h2 : D j < ls D C j
          · have HM1 : Hid (D j = ls D C (j + 1)) := by show _ = _; rw [HM.out, Int.min_eq_right (by omega)]
            go_wp2
            all_goals exact ⟨⟨j + 1, cc, by go_num, by rw [HM1.out], by rw [HA.out]⟩, by simp [intOf]; omega⟩
          · have HM1 : Hid (D j = ls D C (j + 1)) := by show _ = _; rw [HM.out, Int.min_eq_right (by omega)]
            have HM2 : Hid (ls D C j = ls D C (j + 1)) := by show _ = _; rw [HM.out, Int.min_eq_left (by omega)]
            go_wp2
            all_goals first | exact ⟨⟨j + 1, cc, by go_num, by rw [HM1.out], by rw [HA.out]⟩, by simp [intOf]; omega⟩ | exact ⟨⟨j + 1, cc, by go_num, by rw [HM2.out], by rw [HA.out]⟩, by simp [intOf]; omega⟩
      | false =>
        have hb1 : (C j == 18446744073709551615) = false := hb
        have HA : Hid (an (lb C) j = an (lb C) (j + 1)) := by show _ = _; simp only [an, hb]; simp
        have HM : Hid (ls D C j = ls D C (j + 1)) := by show _ = _; simp [ls, hb]
        clear hb
        go_wp2
        all_goals exact ⟨⟨j + 1, cc, by go_num, by rw [HM.out], by rw [HA.out]⟩, by simp [intOf]; omega⟩
    · have hjn : n = j := by omega
      subst hjn
      clear HP HB
      go_wp2
      all_goals go_ret2
      all_goals exact ⟨rfl, HW.out⟩
end Au
end Go.Proofs.Ytcepfmeoeepjdaa
