import Derived.Test.YtfgjhljhjclegaaRtF
import Derived.Test.YtfgjhljhjclegaaRfMath
import Derived.Maps.AppendAt
import Derived.Deep.AppendLies
import Derived.Laws.EntriesVeiled
namespace Go.Proofs.Ytfgjhljhjclegaa
namespace Rt
open Go.RowKit
set_option linter.unusedVariables false
set_option maxRecDepth 8000
theorem vals_snoc (L : List Int) (x : Int) : vals (L ++ [x]) = vals L ++ [.int .u8 x] := by simp [vals]
theorem vals_app (L M : List Int) : vals (L ++ M) = vals L ++ vals M := by simp [vals]
/-- Block g is a row of its own, and begins with these bytes. -/
def Own (w : World) (g cap : Nat) (L : List Int) : Prop := w.ownsRow 0 5 1 (.slice (some ⟨g, 0, none⟩) L.length cap) L.length (vals L)
theorem Own.cell {w : World} {g cap : Nat} {L : List Int} (h : Own w g cap L) {j : Nat} (hj : j < L.length) : w.cell? ⟨g, j, none⟩ = some (.int .u8 (L.getD j 0)) := by
  rw [World.ownsRow.cellAt h j (by omega), vals_get L j hj]
theorem Own.frozen {w : World} {g cap : Nat} {L : List Int} (h : Own w g cap L) (j : Nat) : w.frozen? ⟨g, j, none⟩ = false := World.ownsRow.frozenAt h j
theorem Own.cap {w : World} {g cap : Nat} {L : List Int} (h : Own w g cap L) : L.length ≤ cap ∧ cap ≤ maxLen := by
  obtain ⟨_, h2⟩ := h
  rcases h2 with ⟨h3, _⟩ | ⟨g', cap', cur, h3, _, _, h4, h5, _⟩
  · cases h3
  · simp only [Value.slice.injEq] at h3; omega
theorem Own.lt {w : World} {g cap : Nat} {L : List Int} (h : Own w g cap L) : g < w.heap.size := (World.ownsRow.lt h g rfl).2
theorem Own.set {w : World} {g cap : Nat} {L : List Int} (h : Own w g cap L) (j : Nat) (x : Int) : Own (w.setCell ⟨g, j, none⟩ (.int .u8 x)) g cap (L.set j x) := by
  have := (World.ownsRow.stored h j (.int .u8 x)).1
  unfold Own
  rw [List.length_set, ← vals_set]; exact this
theorem own_block {w w' : World} {g cap : Nat} {L : List Int} (h : Own w g cap L) (hb : w'.heap[g]? = w.heap[g]?) : Own w' g cap L := by
  obtain ⟨h1, h2⟩ := h
  refine ⟨h1, ?_⟩
  rcases h2 with ⟨h3, _⟩ | ⟨g', cap', cur, h3, hb', hg, r⟩
  · cases h3
  · obtain ⟨e1, e2, e3⟩ : g = g' ∧ True ∧ True := by simp only [Value.slice.injEq, Option.some.injEq, Addr.mk.injEq] at h3; exact ⟨h3.1.1, trivial, trivial⟩
    subst e1
    exact .inr ⟨g, cap', cur, h3, hb', hb.trans hg, r⟩
theorem Own.kept {w w' : World} {g cap B : Nat} {L : List Int} (h : Own w g cap L) (hb : Below B w w') (hg : g < B) : Own w' g cap L := own_block h (hb.block g hg)
/-- It is the call's own, from block B on. -/
theorem Own.row {w : World} {g cap B : Nat} {L : List Int} (h : Own w g cap L) (hB : B ≤ g) : w.ownsRow B 5 1 (.slice (some ⟨g, 0, none⟩) L.length cap) L.length (vals L) := by
  obtain ⟨h1, h2⟩ := h
  refine ⟨h1, ?_⟩
  rcases h2 with ⟨h3, _⟩ | ⟨g', cap', cur, h3, hb', hg, r⟩
  · cases h3
  · obtain ⟨e1, e2, e3⟩ : g = g' ∧ True ∧ True := by simp only [Value.slice.injEq, Option.some.injEq, Addr.mk.injEq] at h3; exact ⟨h3.1.1, trivial, trivial⟩
    subst e1
    exact .inr ⟨g, cap', cur, h3, hB, hg, r⟩
theorem Own.of_row {w : World} {g cap B n : Nat} {L : List Int} (hn : L.length = n) (h : w.ownsRow B 5 1 (.slice (some ⟨g, 0, none⟩) n cap) n (vals L)) : Own w g cap L := by
  subst hn
  obtain ⟨h1, h2⟩ := h
  refine ⟨h1, ?_⟩
  rcases h2 with ⟨h3, _⟩ | ⟨g', cap', cur, h3, hb', hg, r⟩
  · cases h3
  · exact .inr ⟨g', cap', cur, h3, Nat.zero_le _, hg, r⟩
theorem add0 (g i : Nat) : (⟨g, 0, none⟩ : Addr).add i = ⟨g, i, none⟩ := by unfold Addr.add; split <;> simp_all
theorem Own.news {w : World} {g cap : Nat} {L : List Int} (h : Own w g cap L) : ∀ j u, (vals L)[j]? = some u → w.cell? ((⟨g, 0, none⟩ : Addr).add j) = some u := by
  intro j u hu
  have hj : j < L.length := by have := (List.getElem?_eq_some_iff.1 hu).1; rwa [vals_len] at this
  rw [add0, h.cell hj, ← hu, vals_get L j hj]
theorem Own.src {w : World} {g cap : Nat} {L : List Int} (h : Own w g cap L) : Src w (some ⟨g, 0, none⟩) L.length L := ⟨rfl, fun _ => ⟨g, rfl, fun i hi => h.cell hi⟩⟩
theorem take_snoc (L : List Int) (k : Nat) (h : k < L.length) : L.take (k + 1) = L.take k ++ [L.getD k 0] := by
  rw [List.take_succ_eq_append_getElem h]; simp [List.getD_eq_getElem?_getD, h]
theorem step_own {B k : Nat} {xs : List Value} {w wr w1 : World} {u : Value} {o : Obj} (hB : B ≤ wr.heap.size)
    (hown : wr.ownsRow B 5 1 u k xs) (hnx : Below B w wr) (hgrow : (wr.alloc o).grownBy w1 u.ownBlock) : Below B w w1 :=
  (hnx.alloc (by omega) o).grown hgrow (by simp; omega) (fun j hj => (hown.lt j hj).1)
theorem i0x : ∃ i0, Try.prog.info? 5 = some i0 ∧ i0.zero = some (.int .u8 0) ∧ i0.size = 1 ∧ i0.bytes = 1 := by
  have h := info5
  cases hh : Try.prog.info? 5 with
  | none => rw [hh] at h; cases h
  | some i => rw [hh] at h; simp at h; exact ⟨i, rfl, h.1, h.2.1, h.2.2⟩
theorem But.setCell {g j : Nat} {v : Value} {w w' : World} (h : But g w w') : But g w (w'.setCell ⟨g, j, none⟩ v) := by
  refine h.trans ⟨rfl, rfl, rfl, by simp [World.setCell], fun k hk => Below.heap_setCell w' ⟨g, j, none⟩ v k hk⟩
/-! ### grain -/
theorem groom_ok (a : Option Addr) (len cap o k : Nat) (w : World) (hs : len ≤ 1048576) (h1 : 1 ≤ k) (h2 : k ≤ 8) (h3 : o + k ≤ len) :
    Calls Try.prog 87 #[.slice a len cap, .int .i64 o, .int .i64 k] w fun e w' => e = .returned (.int .i64 0) ∧ w' = w := by
  have i1 : (1 : Int) ≤ (k : Int) := by omega
  have i2 : (k : Int) ≤ 8 := by omega
  have i3 : (o : Int) ≤ (len : Int) - (k : Int) := by omega
  go_enter Try.func87, Try.ntmps87
  go_wp2
  go_ret
  exact ⟨rfl, rfl⟩
set_option maxHeartbeats 800000 in
theorem glay_any (g o k c : Nat) (v : Int) (L : List Int) (w : World) (hw : Rw w g L) (hk : k ≤ 8) (ho : o + k ≤ L.length) (hv0 : 0 ≤ v) (hv1 : v < 18446744073709551616) :
    Calls Try.prog 88 #[.slice (some ⟨g, o, none⟩) k c, .int .u64 v] w fun e w' => e = .returned (.tuple #[]) ∧ Rw w' g (over L o (lb v k)) ∧ But g w w' := by
  go_enter Try.func88, Try.ntmps88
  go_wp2
  go_loopw [7] (fun i wr => ∃ j : Nat, j ≤ k ∧ i = .int .i64 j ∧ Rw wr g (over L o (lb v j)) ∧ But g w wr) (fun i _ => k - (intOf i).toNat)
  case atStart => exact ⟨0, Nat.zero_le _, rfl, by rw [show lb v 0 = [] from rfl, over_nil]; exact hw, But.refl _ _⟩
  case round =>
    obtain ⟨j, hj, rfl, ho1, hb1⟩ := hrel
    by_cases hlt : j < k
    · have hll : (over L o (lb v j)).length = L.length := over_len _ _ _ (by rw [lb_len]; omega)
      have hc := ho1.cell (j := o + j) (by omega)
      have hf := ho1.frozen (o + j)
      have hset := ho1.set (o + j) (byteAt v j)
      have hbs : But g w (wr.setCell ⟨g, o + j, none⟩ (.int .u8 (byteAt v j))) := hb1.setCell
      have e7 := over_snoc L (lb v j) o (byteAt v j) (by rw [lb_len]; omega)
      rw [lb_len, ← lb_succ] at e7
      rw [e7] at hset
      have e8 : (8 * (j : Int)).toNat = 8 * j := by omega
      have HB : Hid (byteAt v j = v / 2 ^ (8 * j) % 256) := rfl
      generalize (over L o (lb v j)).getD (o + j) 0 = old at *
      clear ho1 hb1 e7 hll
      go_wp2
      exact ⟨⟨j + 1, by omega, by go_num, hset, hbs⟩, by simp [intOf]; omega⟩
    · have hjk : j = k := by omega
      subst hjk
      go_wp2
      go_returns
      exact ⟨rfl, ho1, hb1⟩
set_option maxHeartbeats 800000 in
theorem put_ok (g len cap o k : Nat) (v : Int) (L : List Int) (w : World) (hs : cap ≤ 1048576) (hw : Rw w g L) (hll : len ≤ L.length) (hlc : len ≤ cap) (h1 : 1 ≤ k) (h2 : k ≤ 8) (h3 : o + k ≤ len) (hv0 : 0 ≤ v) (hv1 : v < 2 ^ (8 * k)) :
    Calls Try.prog 77 #[.slice (some ⟨g, 0, none⟩) len cap, .int .i64 o, .int .i64 k, .int .u64 v] w fun e w' => e = .returned (.int .i64 0) ∧ Rw w' g (over L o (lb v k)) ∧ But g w w' := by
  have hp := pow8_le k h2
  have hf : v / 2 ^ (8 * k) = 0 := Int.ediv_eq_zero_of_lt hv0 hv1
  have hf' : (v / 2 ^ (8 * k) != 0) = false := by simpa using hf
  have hoc : ¬ cap = o := by omega
  have HL : Hid (∀ c, Calls Try.prog 88 #[.slice (some ⟨g, o, none⟩) k c, .int .u64 v] w fun e w' => e = .returned (.tuple #[]) ∧ Rw w' g (over L o (lb v k)) ∧ But g w w') := fun c => glay_any g o k c v L w hw h2 (by omega) hv0 (by omega)
  have hv2 : v < 18446744073709551616 := by omega
  clear hf hv1 hp hw
  go_enter Try.func77, Try.ntmps77
  go_wp2_with fail
  refine (groom_ok _ len cap o k _ (by omega) h1 h2 h3).mono ?_
  rintro e9 w9 ⟨rfl, hw9⟩
  subst w9
  go_wp2_with fail
  refine (HL.out _).mono ?_
  rintro e9 w9 ⟨rfl, h8, h9⟩
  go_wp2
  go_ret
  exact ⟨rfl, h8, h9⟩
set_option maxHeartbeats 800000 in
theorem get_ok (g len cap o k : Nat) (L : List Int) (w : World) (hr : Rw w g L) (hby : Bytes L) (hs : len ≤ 1048576) (hll : len ≤ L.length) (h1 : 1 ≤ k) (h2 : k ≤ 8) (h3 : o + k ≤ len) :
    Calls Try.prog 89 #[.slice (some ⟨g, 0, none⟩) len cap, .int .i64 o, .int .i64 k] w fun e w' => e = .returned (.tuple #[.int .u64 (getL L o k), .int .i64 0]) ∧ w' = w := by
  have HC : Hid (∀ i, i < len → w.cell? ⟨g, i, none⟩ = some (.int .u8 (L.getD i 0))) := fun i hi => hr.cell (by omega)
  clear hr
  go_enter Try.func89, Try.ntmps89
  go_wp2_with fail
  refine (groom_ok _ len cap o k _ hs h1 h2 h3).mono ?_
  rintro e9 w9 ⟨rfl, hw9⟩
  subst w9
  go_wp2
  go_loop [9, 19] (fun v i => ∃ j : Nat, j ≤ k ∧ i = .int .i64 j ∧ v = .int .u64 (getL L o j)) (fun _ i => k - (intOf i).toNat)
  case atStart => exact ⟨0, Nat.zero_le _, rfl, rfl⟩
  case round =>
    obtain ⟨j, hj, rfl, rfl⟩ := hrel
    by_cases hlt : j < k
    · have g1 := HC.out (o + j) (by omega)
      have hs1 := get_step L o j hby (by omega)
      have hb := getD_b L hby (o + j)
      have eo : ((o : Int) + (j : Int)).toNat = o + j := by omega
      have e8 : (8 * (j : Int)).toNat = 8 * j := by omega
      generalize L.getD (o + j) 0 = x at *
      go_wp2
      exact ⟨⟨j + 1, by omega, by go_num, rfl⟩, by simp [intOf]; omega⟩
    · have hjk : j = k := by omega
      subst hjk
      go_wp2
      go_ret2
      exact ⟨rfl, rfl⟩
theorem number_ok (g len cap o k : Nat) (L : List Int) (w : World) (hr : Rw w g L) (hby : Bytes L) (hs : len ≤ 1048576) (hll : len ≤ L.length) (h1 : 1 ≤ k) (h2 : k ≤ 8) (h3 : o + k ≤ len) :
    Calls Try.prog 78 #[.slice (some ⟨g, 0, none⟩) len cap, .int .i64 o, .int .i64 k] w fun e w' => e = .returned (.int .u64 (getL L o k)) ∧ w' = w := by
  have HG := get_ok g len cap o k L w hr hby hs hll h1 h2 h3
  go_enter Try.func78, Try.ntmps78
  go_wp2_with fail
  refine HG.mono ?_
  rintro e9 w9 ⟨rfl, hw9⟩
  subst w9
  go_wp2
  go_ret
  exact ⟨rfl, rfl⟩
end Rt
end Go.Proofs.Ytfgjhljhjclegaa
