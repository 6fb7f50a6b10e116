import Derived.Test.YtdphfhpohlodcabUnCalls
import Derived.Test.YtdphfhpohlodcabWhMul
import Derived.Maps.AppendAt
import Derived.WalkSmall
namespace Go.Proofs.Ytdphfhpohlodcab
namespace Un
open Go.RowKit Tot
theorem info2 : (Try.prog.info? 2).map (fun i => (i.zero, i.size, i.bytes)) = some (some (.int .i64 0), 1, 8) := by kernel_rfl
def vals (zs : List Int) (k : Nat) : List Value := (zs.take k).map (Value.int .i64)
theorem vals_zero (zs : List Int) : vals zs 0 = [] := by simp [vals]
theorem vals_succ (zs : List Int) (k : Nat) (h : k < zs.length) : vals zs (k + 1) = vals zs k ++ [.int .i64 (zs.getD k 0)] := by
  unfold vals
  rw [List.take_succ_eq_append_getElem h, List.map_append]
  simp [List.getD_eq_getElem?_getD, h]
theorem vals_len (zs : List Int) (k : Nat) (h : k ≤ zs.length) : (vals zs k).length = k := by simp [vals]; omega
theorem vals_get (zs : List Int) (k i : Nat) (hk : k ≤ zs.length) (hi : i < k) : (vals zs k)[i]? = some (.int .i64 (zs.getD i 0)) := by
  unfold vals
  rw [List.getElem?_map, List.getElem?_take_of_lt hi, List.getD_eq_getElem?_getD, List.getElem?_eq_getElem (by omega)]
  rfl
theorem step_own {B k : Nat} {zs : List Int} {w wr w1 : World} {u : Value} {o : Obj} (hB : B ≤ wr.heap.size)
    (hown : wr.ownsRow B 2 1 u k (vals zs k)) (hnx : Below B w wr) (hgrow : (wr.alloc o).grownBy w1 u.ownBlock) : Below B w w1 :=
  (hnx.alloc (by omega) o).grown hgrow (by simp; omega) (fun j hj => (hown.lt j hj).1)
/-- An owned row is a row. -/
theorem row_own {B k : Nat} {zs : List Int} {w : World} {v : Value} (hl : k ≤ zs.length) (hl2 : k ≤ 9223372036854775807) (hb : ∀ i, i < k → -9223372036854775808 ≤ zs.getD i 0 ∧ zs.getD i 0 ≤ 9223372036854775807)
    (h : w.ownsRow B 2 1 v k (vals zs k)) : ∃ a cap, v = .slice a k cap ∧ Row w a k zs := by
  have h' := h
  obtain ⟨h1, h2⟩ := h
  rcases h2 with ⟨rfl, rfl⟩ | ⟨g, cap, cur, rfl, hbb, hh, hn, hm, hcs, ht⟩
  · exact ⟨none, 0, rfl, ⟨hl, hl2⟩, fun h => by omega, hb⟩
  · refine ⟨_, cap, rfl, ⟨hl, hl2⟩, fun _ => ⟨_, rfl, fun i hi => ?_⟩, hb⟩
    have e : (⟨g, 0, none⟩ : Addr).add i = ⟨g, i, none⟩ := by unfold Addr.add; split <;> simp_all
    rw [e, h'.cellAt i (by omega), vals_get zs k i hl hi]
theorem row_old {k B : Nat} {zs : List Int} {w w1 : World} {a : Option Addr} (hr : Row w a k zs) (hb : Below B w w1) (hin : ∀ x : Addr, a = some x → 0 < k → x.block < B) : Row w1 a k zs := by
  obtain ⟨h1, h2, h3⟩ := hr
  refine ⟨h1, fun h0 => ?_, h3⟩
  obtain ⟨x, rfl, hc⟩ := h2 h0
  exact ⟨x, rfl, fun i hi => (hb.cell (p := x.add i) (by unfold Addr.add; split <;> exact hin x rfl h0)).trans (hc i hi)⟩
theorem row_two (w : World) (a b : Int) (ha : Wh.Fit a) (hb : Wh.Fit b) : Row (w.alloc (.cells #[.int .i64 a, .int .i64 b] 2)) (some ⟨w.heap.size, 0, none⟩) 2 [a, b] := by
  refine ⟨⟨by simp, by omega⟩, fun _ => ⟨_, rfl, fun i hi => ?_⟩, fun i hi => ?_⟩
  · match i, hi with
    | 0, _ => simp [Addr.add]
    | 1, _ => simp [Addr.add]
  · match i, hi with
    | 0, _ => exact ha
    | 1, _ => exact hb
theorem row_none (w : World) : Row w none 0 [] := ⟨⟨by simp, by omega⟩, fun h => by omega, fun i h => by omega⟩
/-- Of two numbers Total is Add. -/
theorem two_val (a b : Int) (ha : Wh.Fit a) (hb : Wh.Fit b) : val (sum [a, b] 2) = Wh.fv (a + b) ∧ err (sum [a, b] 2) = Wh.fe (a + b) := by
  rw [sum_two]
  unfold Wh.Fit at ha hb
  by_cases h : Wh.Fit (a + b)
  · rw [Wh.fv_in h, Wh.fe_in h]; exact in_range _ h.1 h.2
  · rw [Wh.fv_out h, Wh.fe_out h]; unfold Wh.Fit at h; exact out_range _ (by omega) (by omega) (by omega)
/-- A quotient and its rest. -/
theorem quo_rem (a b : Int) (ha : Wh.Fit a) (h0 : ¬ b = 0) (h1 : ¬ b = -1) : Wh.Fit (Wh.qv a b) ∧ Wh.qe a b = 0 ∧ Wh.me b = 0 ∧ Wh.fe (Wh.qv a b * b) = 0 ∧ wrap64 (Wh.fv (Wh.qv a b * b) + Wh.mv a b) = a := by
  have hf := Wh.tdiv_fit a b ha h0 h1
  obtain ⟨e1, e2⟩ := Wh.q_else a b ha h0 h1
  rw [IntWalk.wrap64_in _ hf] at e1
  obtain ⟨e3, e4⟩ := Wh.m_else a b h0
  have e5 := Int.mul_tdiv_add_tmod a b
  have e6 : a.tdiv b * b = b * a.tdiv b := Int.mul_comm _ _
  have hm := Wh.tmod_fit a b ha
  have hp : Wh.Fit (a.tdiv b * b) := by
    unfold Wh.Fit at *
    have n1 := Int.natAbs_tmod a b
    have n2 : (a.tmod b).natAbs ≤ a.natAbs := by rw [n1]; exact Nat.mod_le _ _
    by_cases h : 0 ≤ a
    · have h3 := Int.tmod_nonneg b h; omega
    · have h3 := Int.tmod_nonneg b (show 0 ≤ -a by omega)
      rw [Int.neg_tmod] at h3; omega
  rw [e1, e2, e3, e4, Wh.fe_in hp, Wh.fv_in hp]
  refine ⟨hf, rfl, rfl, rfl, ?_⟩
  rw [show a.tdiv b * b + a.tmod b = a from by omega]
  exact IntWalk.wrap64_in _ ha
end Un
end Go.Proofs.Ytdphfhpohlodcab
