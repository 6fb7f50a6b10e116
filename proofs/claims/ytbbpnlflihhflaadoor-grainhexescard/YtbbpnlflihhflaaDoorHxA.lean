import Derived.Test.YtbbpnlflihhflaaDoorRows
import Derived.Test.YtbbpnlflihhflaaDoorClC
import Derived.Test.YtbbpnlflihhflaaDoorRdRef
import Derived.WalkKit
import Derived.BigQuiet
import Derived.Deep.QuietTactic
import Derived.WalkSmall
import Derived.Handy
import Derived.Laws.CopyRow
import Derived.Laws.Tables
import Derived.Laws.Cells
import Derived.Laws.BytesString
namespace Go.Proofs.YtbbpnlflihhflaaDoor
namespace Hx
open Go.RowKit
set_option linter.unusedVariables false
/-- Texts: lists of bytes. -/
def bs (l : List UInt8) : ByteArray := ⟨l.toArray⟩
theorem bs_data (l : List UInt8) : (bs l).data.toList = l := by simp [bs]
theorem bs_size (l : List UInt8) : (bs l).size = l.length := by simp [bs, ByteArray.size]
theorem bs_of (t : ByteArray) : bs t.data.toList = t := by simp [bs]
theorem bs_inj {a b : List UInt8} (h : bs a = bs b) : a = b := by rw [← bs_data a, h, bs_data]
/-- A hexadecimal digit. -/
def dg (d : Nat) : UInt8 := UInt8.ofNat (if d < 10 then 48 + d else 87 + d)
def hx (n : Nat) : List UInt8 := if n < 16 then [dg n] else hx (n / 16) ++ [dg (n % 16)]
termination_by n
decreasing_by omega
theorem hx_lt (n : Nat) (h : n < 16) : hx n = [dg n] := by rw [hx, if_pos h]
theorem hx_ge (n : Nat) (h : ¬ n < 16) : hx n = hx (n / 16) ++ [dg (n % 16)] := by rw [hx, if_neg h]
def digs : ByteArray := ⟨#[48, 49, 50, 51, 52, 53, 54, 55, 56, 57, 97, 98, 99, 100, 101, 102, 103, 104, 105, 106, 107, 108, 109, 110, 111, 112, 113, 114, 115, 116, 117, 118, 119, 120, 121, 122]⟩
theorem digs_size : digs.size = 36 := by decide
theorem digs_all : ∀ d : Fin 16, ∀ h : d.val < digs.size, digs[d.val]'h = dg d.val := by decide +kernel
theorem digs_get (d : Nat) (h : d < 16) (h2 : d < digs.size) : digs[d]'h2 = dg d := digs_all ⟨d, h⟩ h2
/-- An array of 65 bytes of our own: its bytes. -/
def vals (L : List UInt8) : List Value := L.map fun b => Value.int .u8 b.toNat
theorem vals_len (L : List UInt8) : (vals L).length = L.length := by simp [vals]
theorem vals_get (L : List UInt8) (i : Nat) (h : i < L.length) : (vals L)[i]? = some (.int .u8 (L[i]'h).toNat) := by simp [vals, h]
theorem vals_set (L : List UInt8) (i : Nat) (x : UInt8) : (vals L).set i (.int .u8 x.toNat) = vals (L.set i x) := by simp [vals]
def Ar (w : World) (g : Nat) (L : List UInt8) : Prop := w.heap[g]? = some (.cells (vals L).toArray 100 (0, 0))
theorem Ar.cell {w : World} {g : Nat} {L : List UInt8} (h : Ar w g L) {j : Nat} (hj : j < L.length) : w.cell? ⟨g, j, none⟩ = some (.int .u8 (L[j]'hj).toNat) := by
  unfold Ar at h
  have h2 := vals_get L j hj
  simp [World.cell?, h, h2]
theorem Ar.frozen {w : World} {g : Nat} {L : List UInt8} (h : Ar w g L) (j : Nat) : w.frozen? ⟨g, j, none⟩ = false := by
  unfold Ar at h
  simp [World.frozen?, h]
theorem Ar.set {w : World} {g : Nat} {L : List UInt8} (h : Ar w g L) (j : Nat) (x : UInt8) : Ar (w.setCell ⟨g, j, none⟩ (.int .u8 x.toNat)) g (L.set j x) := by
  unfold Ar at h ⊢
  rw [setCell_eq_setRow w g j _ 100 (0, 0) _ h, setRow_heap w g _ _ 100 (0, 0) h, ← vals_set]
  simp
theorem Ar.new (w : World) (L : List UInt8) : Ar (w.alloc (.cells (vals L).toArray 100)) w.heap.size L := by
  simp [Ar, World.alloc, -World.alloc_eq]
theorem run_text (w : World) (g i n c : Nat) (L : List UInt8) (hg : Ar w g L) (hn : i + n ≤ L.length) :
    (convert 80 9 (.slice (some ⟨g, i, none⟩) n c)).run Tryd.prog w = .ok (.string (bs ((L.drop i).take n))) w := by
  rw [run_convert_bytes_string w 80 9 5 _ n c Tryd.underlying80 Tryd.underlying5 Tryd.underlying9]
  have hl := run_loadCells_list (P := Tryd.prog) w ⟨g, i, none⟩ (vals ((L.drop i).take n)) (by
    intro j v hv
    have hj : j < n := by
      have := (List.getElem?_eq_some_iff.1 hv).1
      simp [vals] at this; omega
    rw [vals_get _ j (by simp; omega)] at hv
    rw [show (⟨g, i, none⟩ : Addr).add j = ⟨g, i + j, none⟩ by unfold Addr.add; split <;> simp_all, hg.cell (by omega), ← hv]
    simp)
  have e : (vals ((L.drop i).take n)).length = n := by simp [vals]; omega
  rw [e] at hl
  have h2 := run_bytesToString (P := Tryd.prog) w ⟨g, i, none⟩ n c (((L.drop i).take n).map fun b => (b.toNat : Int)) (by rw [hl]; unfold vals; rw [List.map_map]; rfl)
  rw [h2]
  congr 2
  apply ByteArray.ext
  apply Array.toList_inj.1
  rw [bs_data]
  have pd : ∀ (M : List Int) (s : ByteArray), (M.foldl (fun r n => r.push (UInt8.ofNat n.toNat)) s).data.toList = s.data.toList ++ M.map (fun n => UInt8.ofNat n.toNat) := by
    intro M; induction M with
    | nil => intro s; simp
    | cons x M ih => intro s; rw [List.foldl_cons, ih]; simp [ByteArray.push]
  have e2 := pd (((L.drop i).take n).map fun b => (b.toNat : Int)) ByteArray.empty
  rw [e2, List.map_map]
  simp [Function.comp_def]
end Hx
end Go.Proofs.YtbbpnlflihhflaaDoor
