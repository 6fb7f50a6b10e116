import Derived.Test.YtlhpnhjfibkgpabWrC
import Derived.Test.YtlhpnhjfibkgpabWqE
namespace Go.Proofs.Ytlhpnhjfibkgpab
namespace Wp
open Go.RowKit
set_option linter.unusedVariables false
set_option maxRecDepth 8000
/-- A list of numbers as it lies. -/
def GI (w : World) (b n : Nat) (G : Nat → Int) : Prop := ∃ C : Array Value, w.heap[b]? = some (.cells C 3 (0, 0)) ∧ ∀ v, v < n → C[v]? = some (.int .i64 (G v))
theorem GI.lt {w : World} {b n : Nat} {G : Nat → Int} (h : GI w b n G) : b < w.heap.size := by
  obtain ⟨C, h, _⟩ := h
  exact (Array.getElem?_eq_some_iff.1 h).1
theorem GI.of {w w' : World} {b n : Nat} {G : Nat → Int} (h : GI w b n G) (e : w'.heap[b]? = w.heap[b]?) : GI w' b n G := by
  obtain ⟨C, h, h2⟩ := h
  exact ⟨C, e.trans h, h2⟩
theorem GI.on {w w' : World} {b n : Nat} {G : Nat → Int} (h : GI w b n G) (hb : Below w.heap.size w w') : GI w' b n G := h.of (hb.block b h.lt)
theorem GI.ext {w : World} {b n : Nat} {G H : Nat → Int} (h : GI w b n G) (e : ∀ v, v < n → G v = H v) : GI w b n H := by
  obtain ⟨C, h1, h2⟩ := h
  exact ⟨C, h1, fun v hv => by rw [← e v hv]; exact h2 v hv⟩
theorem GI.cell {w : World} {b n : Nat} {G : Nat → Int} (h : GI w b n G) (v : Nat) (hv : v < n) : w.cell? ⟨b, v, none⟩ = some (.int .i64 (G v)) := by
  obtain ⟨C, h, h2⟩ := h
  exact (cell_of_row w b _ _ 3 (0, 0) h).trans (h2 v hv)
theorem GI.fz {w : World} {b n : Nat} {G : Nat → Int} (h : GI w b n G) (j : Nat) : w.frozen? ⟨b, j, none⟩ = false := by
  obtain ⟨C, h, h2⟩ := h
  exact frozen_of_row w b _ _ 3 h
theorem GI.set {w : World} {b n : Nat} {G : Nat → Int} (h : GI w b n G) (j : Nat) (x : Int) : GI (w.setCell ⟨b, j, none⟩ (.int .i64 x)) b n (fun v => if v = j then x else G v) ∧ ∃ C, w.setCell ⟨b, j, none⟩ (.int .i64 x) = w.setRow b C := by
  obtain ⟨C, h, h2⟩ := h
  rw [setCell_eq_setRow w b j C 3 (0, 0) _ h]
  refine ⟨⟨_, setRow_heap w b _ _ 3 (0, 0) h, fun v hv => ?_⟩, _, rfl⟩
  show _ = some (Value.int .i64 (if v = j then x else G v))
  rw [Array.getElem?_setIfInBounds]
  have hv2 := h2 v hv
  have := (Array.getElem?_eq_some_iff.1 hv2).1
  by_cases e : j = v
  · subst e; rw [if_pos rfl, if_pos this, if_pos rfl]
  · rw [if_neg e, if_neg (fun k => e k.symm)]; exact hv2
theorem infoI : (Try.prog.info? 3).map (fun i => (i.zero, i.size, i.bytes)) = some (some (.int .i64 0), 1, 8) := by kernel_rfl
theorem make_int (w : World) (n : Nat) (hn : n ≤ 1000000) : (Instr.makeSlice 98 (.int .u32 (n : Int)) (.int .u32 (n : Int))).run Try.prog w = .ok (.slice (some ⟨w.heap.size, 0, none⟩) n n) (w.alloc (.cells (madeCells #[.int .i64 0] n) 3)) := by
  have h := infoI
  cases hh : Try.prog.info? 3 with
  | none => rw [hh] at h; cases h
  | some i =>
    rw [hh] at h
    simp at h
    have hr := run_make (P := Try.prog) w 98 3 i (.int .i64 0) Try.underlying98 hh h.1 .u32 .u32 n n (by omega) (by omega) (by rw [h.2.2]; omega) (by omega)
    rw [h.2.1] at hr
    simp only [Int.toNat_natCast, Nat.mul_one] at hr
    rw [hr]
    rfl
theorem GI.new (w : World) (n : Nat) : GI (w.alloc (.cells (madeCells #[.int .i64 0] n) 3)) w.heap.size n (fun _ => 0) := by
  refine ⟨_, at0 _ _, fun j hj => ?_⟩
  simp [madeCells, hj, Nat.mod_one]
/-- What the law holds on to behind play: the Run, the states, the edges. -/
structure Ho (N : Int) (rb sb n cap m : Nat) (a : Option Addr) (E : Nat → Int × Int × Int) (S : Nat → Nat → Int) (A C : Nat → Int) (k u : Int) (w wr : World) : Prop where
  r : Rn wr rb (.slice (some ⟨sb, 0, none⟩) n cap) A C k u
  s : SR wr sb n S
  e : ERow wr a m E
  t : Below w.heap.size w wr
theorem Ho.on {N : Int} {rb sb n cap m : Nat} {a : Option Addr} {E : Nat → Int × Int × Int} {S : Nat → Nat → Int} {A C : Nat → Int} {k u : Int} {w wr w' : World} (h : Ho N rb sb n cap m a E S A C k u w wr) (hb : Below wr.heap.size wr w') : Ho N rb sb n cap m a E S A C k u w w' :=
  ⟨h.r.on hb, h.s.on hb, h.e.on hb, h.t.trans (hb.mono h.t.size)⟩
abbrev Sl (rb eb sb p o : Nat) (st : Value) (x : Int) (s : Nat → Int) (w : World) : Prop := w.cell? ⟨rb, 0, none⟩ = some st ∧ w.cell? ⟨eb, p, none⟩ = some (.int .u32 x) ∧ K8o sb o s w
theorem convn (n : Nat) (h : n ≤ 400) : IntKind.i64.wrap (n : Int) = n := by rw [IntKind.wrap_i64]; omega
end Wp
end Go.Proofs.Ytlhpnhjfibkgpab
