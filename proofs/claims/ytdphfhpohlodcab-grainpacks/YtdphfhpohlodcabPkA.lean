import Derived.Test.YtdphfhpohlodcabRows
import Derived.Test.YtdphfhpohlodcabPkMath
import Derived.WalkKit
import Derived.BigQuiet
import Derived.Deep.QuietTactic
import Derived.Maps.AppendAt
import Derived.WalkSmall
import Derived.Handy
namespace Go.Proofs.Ytdphfhpohlodcab
namespace Pk
open Go.RowKit
theorem ret_int {k : IntKind} {a b : Int} (h : a = b) : Ending.returned (.int k a) = .returned (.int k b) := by rw [h]
theorem ret_two {k1 k2 : IntKind} {a b c d : Int} (h : a = c) (h2 : b = d) : Ending.returned (.tuple #[.int k1 a, .int k2 b]) = .returned (.tuple #[.int k1 c, .int k2 d]) := by rw [h, h2]
/-- Bytes as values. -/
def vals (L : List Int) : List Value := L.map (Value.int .u8)
theorem vals_len (L : List Int) : (vals L).length = L.length := by simp [vals]
theorem vals_snoc (L : List Int) (x : Int) : vals (L ++ [x]) = vals L ++ [.int .u8 x] := by simp [vals]
theorem vals_set (L : List Int) (i : Nat) (x : Int) : (vals L).set i (.int .u8 x) = vals (L.set i x) := by simp [vals]
theorem vals_get (L : List Int) (i : Nat) (h : i < L.length) : (vals L)[i]? = some (.int .u8 (L.getD i 0)) := by
  unfold vals
  rw [List.getElem?_map, List.getD_eq_getElem?_getD, List.getElem?_eq_getElem h]; rfl
/-- Block g is a row of its own, and begins with these bytes. -/
def Own (w : World) (g cap : Nat) (L : List Int) : Prop := w.ownsRow 0 5 1 (.slice (some ⟨g, 0, none⟩) L.length cap) L.length (vals L)
theorem Own.cell {w : World} {g cap : Nat} {L : List Int} (h : Own w g cap L) {j : Nat} (hj : j < L.length) : w.cell? ⟨g, j, none⟩ = some (.int .u8 (L.getD j 0)) := by
  rw [World.ownsRow.cellAt h j (by omega), vals_get L j hj]
theorem Own.frozen {w : World} {g cap : Nat} {L : List Int} (h : Own w g cap L) (j : Nat) : w.frozen? ⟨g, j, none⟩ = false := World.ownsRow.frozenAt h j
theorem Own.cap {w : World} {g cap : Nat} {L : List Int} (h : Own w g cap L) : L.length ≤ cap ∧ cap ≤ maxLen := by
  obtain ⟨_, h2⟩ := h
  rcases h2 with ⟨h3, _⟩ | ⟨g', cap', cur, h3, _, _, h4, h5, _⟩
  · cases h3
  · simp only [Value.slice.injEq] at h3; omega
theorem Own.lt {w : World} {g cap : Nat} {L : List Int} (h : Own w g cap L) : g < w.heap.size := (World.ownsRow.lt h g rfl).2
theorem Own.set {w : World} {g cap : Nat} {L : List Int} (h : Own w g cap L) (j : Nat) (x : Int) : Own (w.setCell ⟨g, j, none⟩ (.int .u8 x)) g cap (L.set j x) := by
  have := (World.ownsRow.stored h j (.int .u8 x)).1
  unfold Own
  rw [List.length_set, ← vals_set]; exact this
theorem own_block {w w' : World} {g cap : Nat} {L : List Int} (h : Own w g cap L) (hb : w'.heap[g]? = w.heap[g]?) : Own w' g cap L := by
  obtain ⟨h1, h2⟩ := h
  refine ⟨h1, ?_⟩
  rcases h2 with ⟨h3, _⟩ | ⟨g', cap', cur, h3, hb', hg, r⟩
  · cases h3
  · obtain ⟨e1, e2, e3⟩ : g = g' ∧ True ∧ True := by simp only [Value.slice.injEq, Option.some.injEq, Addr.mk.injEq] at h3; exact ⟨h3.1.1, trivial, trivial⟩
    subst e1
    exact .inr ⟨g, cap', cur, h3, hb', hb.trans hg, r⟩
theorem Own.kept {w w' : World} {g cap B : Nat} {L : List Int} (h : Own w g cap L) (hb : Below B w w') (hg : g < B) : Own w' g cap L := own_block h (hb.block g hg)
/-- A list of bytes that lies in memory. -/
def BRow (w : World) (a : Option Addr) (len : Nat) (L : List Int) : Prop :=
  L.length = len ∧ Bytes L ∧ (0 < len → ∃ x : Addr, a = some x ∧ x.block < w.heap.size ∧ ∀ i, i < len → w.cell? (x.add i) = some (.int .u8 (L.getD i 0)))
theorem add0 (g i : Nat) : (⟨g, 0, none⟩ : Addr).add i = ⟨g, i, none⟩ := by unfold Addr.add; split <;> simp_all
theorem Own.row {w : World} {g cap : Nat} {L : List Int} (h : Own w g cap L) (n : Nat) (hn : n ≤ L.length) (hb : Bytes L) : BRow w (some ⟨g, 0, none⟩) n (L.take n) := by
  refine ⟨by simp; omega, fun x hx => hb x (List.mem_of_mem_take hx), fun _ => ⟨_, rfl, h.lt, fun i hi => ?_⟩⟩
  rw [add0, h.cell (by omega), List.getD_eq_getElem?_getD, List.getD_eq_getElem?_getD, List.getElem?_take_of_lt hi]
theorem BRow.kept {w w' : World} {a : Option Addr} {len : Nat} {L : List Int} (h : BRow w a len L) (hb : Below w.heap.size w w') : BRow w' a len L := by
  obtain ⟨h1, h2, h3⟩ := h
  refine ⟨h1, h2, fun h0 => ?_⟩
  obtain ⟨x, rfl, hx, hc⟩ := h3 h0
  exact ⟨x, rfl, Nat.lt_of_lt_of_le hx hb.size, fun i hi => (hb.cell (p := x.add i) (by unfold Addr.add; split <;> exact hx)).trans (hc i hi)⟩
/-- What an owned row is good for. -/
theorem row_of_own {w : World} {B n : Nat} {v : Value} {L : List Int} (hn : L.length = n) (hb : Bytes L) (h : w.ownsRow B 5 1 v n (vals L)) :
    ∃ a cap, v = .slice a n cap ∧ BRow w a n L ∧ (0 < n → ∃ g, a = some ⟨g, 0, none⟩ ∧ B ≤ g ∧ Own w g cap L) := by
  have h' := h
  obtain ⟨h1, h2⟩ := h
  subst hn
  rcases h2 with ⟨rfl, h0⟩ | ⟨g, cap, cur, rfl, hbb, hh, r⟩
  · exact ⟨none, 0, by rw [h0], ⟨rfl, hb, fun h => by omega⟩, fun h => by omega⟩
  · have ho : Own w g cap L := ⟨h1, .inr ⟨g, cap, cur, rfl, Nat.zero_le _, hh, r⟩⟩
    have hr := ho.row L.length (Nat.le_refl _) hb
    rw [List.take_length] at hr
    exact ⟨_, cap, rfl, hr, fun _ => ⟨g, rfl, hbb, ho⟩⟩
theorem info5 : (Try.prog.info? 5).map (fun i => (i.zero, i.size, i.bytes)) = some (some (.int .u8 0), 1, 1) := by kernel_rfl
theorem take_snoc (L : List Int) (k : Nat) (h : k < L.length) : L.take (k + 1) = L.take k ++ [L.getD k 0] := by
  rw [List.take_succ_eq_append_getElem h]; simp [List.getD_eq_getElem?_getD, h]
theorem step_own {B k : Nat} {xs : List Value} {w wr w1 : World} {u : Value} {o : Obj} (hB : B ≤ wr.heap.size)
    (hown : wr.ownsRow B 5 1 u k xs) (hnx : Below B w wr) (hgrow : (wr.alloc o).grownBy w1 u.ownBlock) : Below B w w1 :=
  (hnx.alloc (by omega) o).grown hgrow (by simp; omega) (fun j hj => (hown.lt j hj).1)
theorem cell_two (w : World) (x y : Value) (t : TypeId) : ∀ j u, [x, y][j]? = some u → (w.alloc (.cells #[x, y] t)).cell? ((⟨w.heap.size, 0, none⟩ : Addr).add j) = some u := by
  intro j u hj
  match j, hj with
  | 0, hj => simp at hj; subst hj; simp [Addr.add]
  | 1, hj => simp at hj; subst hj; simp [Addr.add]
end Pk
end Go.Proofs.Ytdphfhpohlodcab
