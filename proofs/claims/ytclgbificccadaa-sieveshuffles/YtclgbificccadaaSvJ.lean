import Derived.Test.YtclgbificccadaaSvI0
import Derived.Test.YtclgbificccadaaSvMath
import Derived.Laws.MakeOwn
import Derived.Laws.CopyRow
namespace Go.Proofs.Ytclgbificccadaa
namespace Sv
open Go.RowKit
set_option linter.unusedVariables false
/-- Block g holds these cells. -/
def Rv (w : World) (g : Nat) (t : TypeId) (L : List Value) : Prop := w.heap[g]? = some (.cells L.toArray t (0, 0))
theorem Rv.lt {w : World} {g : Nat} {t : TypeId} {L : List Value} (h : Rv w g t L) : g < w.heap.size := (Array.getElem?_eq_some_iff.1 h).1
theorem Rv.cell {w : World} {g : Nat} {t : TypeId} {L : List Value} (h : Rv w g t L) {j : Nat} {v : Value} (hj : L[j]? = some v) : w.cell? ⟨g, j, none⟩ = some v := by
  unfold Rv at h
  simp [World.cell?, h, hj]
theorem Rv.frozen {w : World} {g : Nat} {t : TypeId} {L : List Value} (h : Rv w g t L) (j : Nat) : w.frozen? ⟨g, j, none⟩ = false := by
  unfold Rv at h
  simp [World.frozen?, h]
theorem Rv.set {w : World} {g : Nat} {t : TypeId} {L : List Value} (h : Rv w g t L) (j : Nat) (x : Value) : Rv (w.setCell ⟨g, j, none⟩ x) g t (L.set j x) := by
  unfold Rv at h ⊢
  rw [setCell_eq_setRow w g j _ t (0, 0) _ h, setRow_heap w g _ _ t (0, 0) h]
  simp
theorem Rv.other {w : World} {g g' : Nat} {t : TypeId} {L : List Value} (h : Rv w g t L) (hg : g ≠ g') (j : Nat) (x : Value) : Rv (w.setCell ⟨g', j, none⟩ x) g t L :=
  (Below.heap_setCell _ _ _ g hg).trans h
theorem Rv.on {w w' : World} {g B : Nat} {t : TypeId} {L : List Value} (h : Rv w g t L) (hb : Below B w w') (hg : g < B) : Rv w' g t L := (hb.block g hg).trans h
theorem Rv.of {w w' : World} {g : Nat} {t : TypeId} {L : List Value} (h : Rv w g t L) (hb : w'.heap[g]? = w.heap[g]?) : Rv w' g t L := hb.trans h
theorem Rv.alloc {w : World} {g : Nat} {t : TypeId} {L : List Value} (h : Rv w g t L) (o : Obj) : Rv (w.alloc o) g t L := (Below.heap_alloc w o g h.lt).trans h
theorem Rv.new (w : World) (t : TypeId) (L : List Value) : Rv (w.alloc (.cells L.toArray t)) w.heap.size t L := by
  simp [Rv, World.alloc, -World.alloc_eq]
/-- Whole numbers as cells. -/
def iv (L : List Int) : List Value := L.map (.int .i64)
theorem iv_len (L : List Int) : (iv L).length = L.length := by simp [iv]
theorem iv_get {L : List Int} {i : Nat} {x : Int} (h : L[i]? = some x) : (iv L)[i]? = some (.int .i64 x) := by simp [iv, h]
theorem iv_set (L : List Int) (i : Nat) (x : Int) : (iv L).set i (.int .i64 x) = iv (L.set i x) := by simp [iv]
theorem made_iv (n : Nat) : madeCells #[.int .i64 0] n = (iv (List.replicate n 0)).toArray := by
  simp [madeCells, iv]
  apply Array.ext
  · simp
  · intro i h1 h2
    simp [Nat.mod_one]
theorem infoI : (Try.prog.info? 3).map (fun i => (i.zero, i.size, i.bytes)) = some (some (.int .i64 0), 1, 8) := by kernel_rfl
theorem make_ints (w : World) (n : Nat) (hn : n ≤ 17592186043904) : (Instr.makeSlice 45 (.int .i64 (n : Int)) (.int .i64 (n : Int))).run Try.prog w = .ok (.slice (some ⟨w.heap.size, 0, none⟩) n n) (w.alloc (.cells (iv (List.replicate n 0)).toArray 3)) := by
  have h := infoI
  cases hh : Try.prog.info? 3 with
  | none => rw [hh] at h; cases h
  | some i =>
    rw [hh] at h
    simp at h
    have hr := run_make (P := Try.prog) w 45 3 i (.int .i64 0) Try.underlying45 hh h.1 .i64 .i64 n n (by omega) (by omega) (by rw [h.2.2]; omega) (by omega)
    rw [h.2.1] at hr
    simp only [Int.toNat_natCast, Nat.mul_one] at hr
    rw [hr, show (Value.int .i64 0).cells = #[.int .i64 0] from rfl, made_iv]
/-- The numbers of a census: behind place j how many are of the part ahead, up to it how many are below. -/
def mx {α : Type} (p : α → Nat) (L : List α) (k j : Nat) : List Int := (List.range (k + 1)).map fun d => if d ≤ j then (opn p L d : Int) else (L.countP (fun x => p x == d - 1) : Int)
theorem mx_len {α : Type} (p : α → Nat) (L : List α) (k j : Nat) : (mx p L k j).length = k + 1 := by simp [mx]
theorem mx_get {α : Type} (p : α → Nat) (L : List α) (k j d : Nat) (h : d ≤ k) : (mx p L k j)[d]? = some (if d ≤ j then (opn p L d : Int) else (L.countP (fun x => p x == d - 1) : Int)) := by
  simp only [mx, List.getElem?_map, List.getElem?_range (show d < k + 1 by omega), Option.map_some]
theorem opn_zero {α : Type} (p : α → Nat) (L : List α) : opn p L 0 = 0 := by simp [opn]
theorem mx_nil {α : Type} (p : α → Nat) (k : Nat) : mx p ([] : List α) k 0 = List.replicate (k + 1) 0 := by
  apply List.ext_getElem?
  intro i
  by_cases h : i ≤ k
  · have h2 : i < k + 1 := by omega
    rw [mx_get p [] k 0 i h, List.getElem?_replicate]
    simp [opn, h2]
  · rw [List.getElem?_eq_none (by rw [mx_len]; omega), List.getElem?_eq_none (by simp; omega)]
theorem mx_count {α : Type} (p : α → Nat) (L : List α) (x : α) (k : Nat) (h : p x < k) : (mx p L k 0).set (p x + 1) ((L.countP (fun y => p y == p x) : Int) + 1) = mx p (L ++ [x]) k 0 := by
  apply List.ext_getElem?
  intro i
  by_cases hi : i ≤ k
  · rw [mx_get p _ k 0 i hi]
    by_cases e : i = p x + 1
    · subst e
      rw [List.getElem?_set_self (by rw [mx_len]; omega)]
      simp
    · rw [List.getElem?_set_ne (by omega), mx_get p _ k 0 i hi]
      by_cases h0 : i ≤ 0
      · obtain rfl : i = 0 := by omega
        simp [opn_zero]
      · rw [if_neg h0, if_neg h0, List.countP_append]
        have : (p x == i - 1) = false := by simp; omega
        simp [this]
  · rw [List.getElem?_eq_none (by simp [mx_len]; omega), List.getElem?_eq_none (by rw [mx_len]; omega)]
theorem mx_sum {α : Type} (p : α → Nat) (L : List α) (k j : Nat) (h : j < k) : (mx p L k j).set (j + 1) ((L.countP (fun x => p x == j) : Int) + (opn p L j : Int)) = mx p L k (j + 1) := by
  apply List.ext_getElem?
  intro i
  by_cases hi : i ≤ k
  · rw [mx_get p _ k (j + 1) i hi]
    by_cases e : i = j + 1
    · subst e
      rw [List.getElem?_set_self (by rw [mx_len]; omega), if_pos (Nat.le_refl _), opn_succ]
      congr 1
      push_cast
      omega
    · rw [List.getElem?_set_ne (by omega), mx_get p _ k j i hi]
      by_cases h0 : i ≤ j
      · rw [if_pos h0, if_pos (by omega)]
      · rw [if_neg h0, if_neg (by omega)]
  · rw [List.getElem?_eq_none (by simp [mx_len]; omega), List.getElem?_eq_none (by rw [mx_len]; omega)]
theorem cnt_le {α : Type} (q : α → Bool) (L : List α) : L.countP q ≤ L.length := List.countP_le_length
end Sv
end Go.Proofs.Ytclgbificccadaa
