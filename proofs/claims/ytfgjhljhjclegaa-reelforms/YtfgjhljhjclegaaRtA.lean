import Derived.Test.YtfgjhljhjclegaaRows
import Derived.Test.YtfgjhljhjclegaaRtMath
import Derived.WalkKit
import Derived.BigQuiet
import Derived.Deep.QuietTactic
import Derived.Deep.RegionHeld3
import Derived.WalkSmall
import Derived.Handy
import Derived.Laws.CopyRow
import Derived.Laws.CopyOwn
import Derived.Laws.MakeOwn
import Derived.Lib.ConvBytes
namespace Go.Proofs.Ytfgjhljhjclegaa
namespace Rt
open Go.RowKit
set_option linter.unusedVariables false
def vals (L : List Int) : List Value := L.map (Value.int .u8)
theorem vals_len (L : List Int) : (vals L).length = L.length := by simp [vals]
theorem vals_get (L : List Int) (i : Nat) (h : i < L.length) : (vals L)[i]? = some (.int .u8 (L.getD i 0)) := by
  unfold vals
  rw [List.getElem?_map, List.getD_eq_getElem?_getD, List.getElem?_eq_getElem h]; rfl
theorem vals_set (L : List Int) (i : Nat) (x : Int) : (vals L).set i (.int .u8 x) = vals (L.set i x) := by simp [vals]
theorem vals_one (L : List Int) : ∀ v ∈ vals L, v.oneCell' = true := by
  intro v hv
  obtain ⟨x, _, rfl⟩ := List.mem_map.1 hv
  rfl
/-- Block g is a row of bytes. -/
def Rw (w : World) (g : Nat) (L : List Int) : Prop := w.heap[g]? = some (.cells (vals L).toArray 5 (0, 0))
theorem Rw.lt {w : World} {g : Nat} {L : List Int} (h : Rw w g L) : g < w.heap.size := (Array.getElem?_eq_some_iff.1 h).1
theorem Rw.cell {w : World} {g : Nat} {L : List Int} (h : Rw w g L) {j : Nat} (hj : j < L.length) : w.cell? ⟨g, j, none⟩ = some (.int .u8 (L.getD j 0)) := by
  unfold Rw at h
  have h2 := vals_get L j hj
  simp [World.cell?, h, h2]
theorem Rw.frozen {w : World} {g : Nat} {L : List Int} (h : Rw w g L) (j : Nat) : w.frozen? ⟨g, j, none⟩ = false := by
  unfold Rw at h
  simp [World.frozen?, h]
theorem Rw.set {w : World} {g : Nat} {L : List Int} (h : Rw w g L) (j : Nat) (x : Int) : Rw (w.setCell ⟨g, j, none⟩ (.int .u8 x)) g (L.set j x) := by
  unfold Rw at h ⊢
  rw [setCell_eq_setRow w g j _ 5 (0, 0) _ h, setRow_heap w g _ _ 5 (0, 0) h, ← vals_set]
  simp
theorem Rw.put {w : World} {g : Nat} {L : List Int} (h : Rw w g L) (M : List Int) : Rw (w.setRow g (vals M).toArray) g M := setRow_heap w g _ _ 5 (0, 0) h
theorem Rw.kept {w w' : World} {g B : Nat} {L : List Int} (h : Rw w g L) (hb : Below B w w') (hg : g < B) : Rw w' g L := (hb.block g hg).trans h
theorem Rw.of {w w' : World} {g : Nat} {L : List Int} (h : Rw w g L) (hb : w'.heap[g]? = w.heap[g]?) : Rw w' g L := hb.trans h
theorem Rw.alloc {w : World} {g : Nat} {L : List Int} (h : Rw w g L) (o : Obj) : Rw (w.alloc o) g L := (Below.heap_alloc w o g h.lt).trans h
theorem Rw.new (w : World) (L : List Int) : Rw (w.alloc (.cells (vals L).toArray 5)) w.heap.size L := by
  simp [Rw, World.alloc, -World.alloc_eq]
/-- Worlds alike but for one block. -/
structure But (g : Nat) (w w' : World) : Prop where
  os : w'.os = w.os
  tape : w'.tape = w.tape
  output : w'.output = w.output
  size : w'.heap.size = w.heap.size
  block : ∀ k, k ≠ g → w'.heap[k]? = w.heap[k]?
theorem But.refl (g : Nat) (w : World) : But g w w := ⟨rfl, rfl, rfl, rfl, fun _ _ => rfl⟩
theorem But.trans {g : Nat} {a b c : World} (h : But g a b) (k : But g b c) : But g a c :=
  ⟨k.os.trans h.os, k.tape.trans h.tape, k.output.trans h.output, k.size.trans h.size, fun j hj => (k.block j hj).trans (h.block j hj)⟩
theorem But.cell {g : Nat} {w w' : World} (h : But g w w') {p : Addr} (hp : p.block ≠ g) : w'.cell? p = w.cell? p := World.cell?_of_block (w := w) (h.block p.block hp)
theorem But.frozen {g : Nat} {w w' : World} (h : But g w w') {p : Addr} (hp : p.block ≠ g) : w'.frozen? p = w.frozen? p := World.frozen?_of_block (w := w) (h.block p.block hp)
theorem But.setRow {g : Nat} (w : World) (cs : Array Value) : But g w (w.setRow g cs) :=
  ⟨rfl, rfl, rfl, by simp [World.setRow], fun k hk => setRow_other w g k cs hk⟩
theorem But.below {g B : Nat} {w w' : World} (h : But g w w') (hB : B ≤ g) : Below B w w' :=
  ⟨h.os, h.tape, h.output, by rw [h.size]; exact Nat.le_refl _, fun k hk => h.block k (by omega)⟩
theorem info5 : (Try.prog.info? 5).map (fun i => (i.zero, i.size, i.bytes)) = some (some (.int .u8 0), 1, 1) := by kernel_rfl
theorem size5 : (Try.prog.info? 5).map (·.size) = some 1 := by kernel_rfl
theorem zero5 (w : World) : (zeroValue 5).run Try.prog w = .ok (.int .u8 0) w := by
  have h := info5
  cases hh : Try.prog.info? 5 with
  | none => rw [hh] at h; cases h
  | some i => rw [hh] at h; simp at h; simp [zeroValue, typeInfo, hh, h.1]
/-- copy of a text into a row. -/
theorem run_copy_text (w : World) (dT sT ty : TypeId) (g dLen dCap : Nat) (L : List Int) (t : ByteArray)
    (hu : Try.prog.underlying dT = some (.slice 5)) (hg : Rw w g L) (hd : dLen ≤ L.length) :
    (Builtin.copy_ #[dT, sT] ty #[.slice (some ⟨g, 0, none⟩) dLen dCap, .string t]).run Try.prog w =
      .ok (goInt ((min t.size dLen : Nat) : Int)) (w.setRow g (vals (over L 0 ((tb t).take dLen))).toArray) := by
  have hx : List.take (t.size.min dLen) (List.map (fun b => Value.int .u8 (b.toNat : Int)) t.data.toList) = vals ((tb t).take dLen) := by
    unfold vals tb
    rw [List.map_take, List.map_map]
    apply List.ext_getElem?
    intro i
    simp only [List.getElem?_take]
    have hm : t.size.min dLen = min t.size dLen := rfl
    rw [hm]
    by_cases h1 : i < dLen
    · by_cases h2 : i < t.size
      · rw [if_pos (by omega), if_pos h1]; rfl
      · rw [if_neg (by omega), if_pos h1]
        symm
        have : t.data.toList.length = t.size := by simp
        rw [List.getElem?_eq_none_iff, List.length_map]
        omega
    · rw [if_neg (by omega), if_neg h1]
  have hst := run_storeCells_at Try.prog g 0 5 (vals ((tb t).take dLen)) 0 (vals L).toArray w hg (by simp [vals_len]; omega) (vals_one _)
  have e : ((vals L).toArray.toList.take (0 + 0) ++ vals ((tb t).take dLen) ++ (vals L).toArray.toList.drop (0 + 0 + (vals ((tb t).take dLen)).length)) = vals (over L 0 ((tb t).take dLen)) := by
    simp [vals, over]
  rw [e] at hst
  cases hq : Try.prog.info? 5 with
  | none => have := size5; simp [hq] at this
  | some i =>
    have hi : i.size = 1 := by have := size5; simpa [hq] using this
    have hm : ((t.size.min dLen : Nat) : Int) = ((min t.size dLen : Nat) : Int) := rfl
    simp [Builtin.copy_, run_underlying hu, Builtin.lenOf, Builtin.firstCells, sizeOf, typeInfo, hq, hx, hst]
theorem run_clear_row (w : World) (dT ty : TypeId) (g o n c : Nat) (L : List Int)
    (hu : Try.prog.underlying dT = some (.slice 5)) (hg : Rw w g L) (hd : o + n ≤ L.length) :
    (Builtin.clear_ #[dT] ty #[.slice (some ⟨g, o, none⟩) n c]).run Try.prog w = .ok (.tuple #[]) (w.setRow g (vals (over L o (List.replicate n 0))).toArray) := by
  have e : ((vals L).toArray.toList.take (o + 0) ++ vals (List.replicate n 0) ++ (vals L).toArray.toList.drop (o + 0 + (vals (List.replicate n 0)).length)) = vals (over L o (List.replicate n 0)) := by
    simp [vals, over]
  cases n with
  | zero =>
    have e2 : over L o [] = L := by simp [over]
    simp [Builtin.clear_, run_underlying hu, e2]
    rw [setRow_self w g _ 5 (0, 0) hg]
  | succ n =>
    have hst := run_storeCells_at Try.prog g o 5 (vals (List.replicate (n + 1) 0)) 0 (vals L).toArray w hg (by simp [vals_len]; omega) (vals_one _)
    rw [e] at hst
    have hz : (Builtin.zeroCells (Value.int .u8 0).cells (n + 1)).toList = vals (List.replicate (n + 1) 0) := by
      have hc : (Value.int .u8 0).cells = #[.int .u8 0] := rfl
      rw [hc]
      simp [Builtin.zeroCells, vals]
      apply List.ext_getElem
      · simp
      · intro i h1 h2
        simp [Nat.mod_one]
    simp [Builtin.clear_, run_underlying hu, hz, hst]
/-- A row as a text. -/
theorem run_text (w : World) (src dst : TypeId) (g n c : Nat) (L : List Int) (hs : Try.prog.underlying src = some (.slice 5)) (hd : Try.prog.underlying dst = some .string)
    (hg : Rw w g L) (hn : n ≤ L.length) :
    (convert src dst (.slice (some ⟨g, 0, none⟩) n c)).run Try.prog w = .ok (.string (bstr (L.take n))) w := by
  rw [run_convert_bytes_string w src dst 5 _ n c hs Try.underlying5 hd]
  have hl := run_loadCells_list (P := Try.prog) w ⟨g, 0, none⟩ (vals (L.take n)) (by
    intro j v hv
    have hj : j < n := by
      have := (List.getElem?_eq_some_iff.1 hv).1
      simp [vals] at this; omega
    rw [vals_get _ j (by simp; omega)] at hv
    rw [show (⟨g, 0, none⟩ : Addr).add j = ⟨g, j, none⟩ by unfold Addr.add; split <;> simp_all, hg.cell (by omega), ← hv]
    rw [List.getD_eq_getElem?_getD, List.getD_eq_getElem?_getD, List.getElem?_take_of_lt hj])
  have e : (vals (L.take n)).length = n := by simp [vals]; omega
  rw [e] at hl
  exact run_bytesToString w ⟨g, 0, none⟩ n c (L.take n) hl
end Rt
end Go.Proofs.Ytfgjhljhjclegaa
