import Derived.Test.YtclgbificccadaaSvM
namespace Go.Proofs.Ytclgbificccadaa
namespace Sv
open Go.RowKit Go.Shelf
set_option linter.unusedVariables false
attribute [local go_sem] Oper.semAt_some
/-- Worlds alike but for two blocks and new ones. -/
structure Two (ga gb : Nat) (w w' : World) : Prop where
  os : w'.os = w.os
  tape : w'.tape = w.tape
  output : w'.output = w.output
  size : w.heap.size ≤ w'.heap.size
  block : ∀ k, k < w.heap.size → k ≠ ga → k ≠ gb → w'.heap[k]? = w.heap[k]?
theorem Two.refl (ga gb : Nat) (w : World) : Two ga gb w w := ⟨rfl, rfl, rfl, Nat.le_refl _, fun _ _ _ _ => rfl⟩
theorem Two.below {ga gb : Nat} {w w' : World} (h : Below w.heap.size w w') : Two ga gb w w' := ⟨h.os, h.tape, h.output, h.size, fun k hk _ _ => h.block k hk⟩
theorem Two.trans {ga gb : Nat} {a b c : World} (h : Two ga gb a b) (k : Two ga gb b c) : Two ga gb a c :=
  ⟨k.os.trans h.os, k.tape.trans h.tape, k.output.trans h.output, Nat.le_trans h.size k.size, fun j hj h1 h2 => (k.block j (Nat.lt_of_lt_of_le hj h.size) h1 h2).trans (h.block j hj h1 h2)⟩
theorem Two.toBelow {ga gb B : Nat} {w w' : World} (h : Two ga gb w w') (hB : B ≤ w.heap.size) (ha : B ≤ ga) (hb : B ≤ gb) : Below B w w' :=
  ⟨h.os, h.tape, h.output, h.size, fun k hk => h.block k (by omega) (by omega) (by omega)⟩
theorem Two.set {ga gb : Nat} {w w' : World} (h : Two ga gb w w') (p : Addr) (v : Value) (hp : p.block = ga ∨ p.block = gb ∨ w.heap.size ≤ p.block) : Two ga gb w (w'.setCell p v) :=
  ⟨h.os, h.tape, h.output, by rw [show (w'.setCell p v).heap.size = w'.heap.size by simp]; exact h.size, fun k hk h1 h2 => (Below.heap_setCell w' p v k (by rcases hp with e | e | e <;> omega)).trans (h.block k hk h1 h2)⟩
theorem Two.drew {ga gb : Nat} {w w' : World} (h : Two ga gb w w') : Two ga gb w w'.drew := ⟨h.os, h.tape, h.output, h.size, h.block⟩
theorem Two.rv {ga gb g : Nat} {w w' : World} {t : TypeId} {L : List Value} (h : Two ga gb w w') (hr : Rv w g t L) (h1 : g ≠ ga) (h2 : g ≠ gb) : Rv w' g t L := hr.of (h.block g hr.lt h1 h2)
/-- A list of updates at the head of a block. -/
def Bx (w : World) (pa : Option Addr) (g : Nat) (L : List T3) (T : List Value) : Prop := 0 < L.length → pa = some ⟨g, 0, none⟩ ∧ Rv w g 44 (cl .u64 L ++ T)
theorem Bx.of {w w' : World} {pa : Option Addr} {g : Nat} {L : List T3} {T : List Value} (h : Bx w pa g L T) (hb : g < w.heap.size → w'.heap[g]? = w.heap[g]?) : Bx w' pa g L T := fun h0 => ⟨(h h0).1, (h h0).2.of (hb (h h0).2.lt)⟩
theorem Bx.on {w w' : World} {pa : Option Addr} {g : Nat} {L : List T3} {T : List Value} (h : Bx w pa g L T) (hb : Below w.heap.size w w') : Bx w' pa g L T := h.of (fun hg => hb.block g hg)
theorem Bx.cells {w : World} {pa : Option Addr} {g : Nat} {L : List T3} {T : List Value} (h : Bx w pa g L T) {j : Nat} {e : T3} (he : L[j]? = some e) :
    w.cell? ⟨g, j * 3, none⟩ = some (.int .u32 e.1) ∧ w.cell? ⟨g, j * 3 + 1, none⟩ = some (.int .u64 e.2.1) ∧ w.cell? ⟨g, j * 3 + 2, none⟩ = some (.int .u64 e.2.2) := by
  have hj := (List.getElem?_eq_some_iff.1 he).1
  obtain ⟨_, hR⟩ := h (by omega)
  obtain ⟨c0, c1, c2⟩ := cl_get .u64 L j e he
  have hl := cl_len .u64 L
  exact ⟨hR.cell (by rw [List.getElem?_append_left (by omega)]; exact c0), hR.cell (by rw [List.getElem?_append_left (by omega)]; exact c1), hR.cell (by rw [List.getElem?_append_left (by omega)]; exact c2)⟩
theorem Bx.row {w : World} {pa : Option Addr} {g : Nat} {L : List T3} {T : List Value} (h : Bx w pa g L T) : Row3 .u64 w pa L := fun h0 => by
  obtain ⟨rfl, hR⟩ := h h0
  refine ⟨_, rfl, hR.lt, fun i e he => ?_⟩
  have ea : ∀ j, (⟨g, 0, none⟩ : Addr).add j = ⟨g, j, none⟩ := fun j => by unfold Addr.add; split <;> simp_all
  rw [ea, ea, ea]
  exact h.cells he
theorem cl_set_app (M : List T3) (T : List Value) (q : Nat) (e : T3) (h : q < M.length) : (((cl .u64 M ++ T).set (q * 3) (.int .u32 e.1)).set (q * 3 + 1) (.int .u64 e.2.1)).set (q * 3 + 2) (.int .u64 e.2.2) = cl .u64 (M.set q e) ++ T := by
  have hl := cl_len .u64 M
  rw [← cl_set, List.set_append_left _ _ (by omega), List.set_append_left _ _ (by rw [List.length_set]; omega), List.set_append_left _ _ (by rw [List.length_set, List.length_set]; omega)]
theorem Bx.set3 {w : World} {pa : Option Addr} {g : Nat} {L : List T3} {T : List Value} (h : Bx w pa g L T) {q : Nat} (hq : q < L.length) (e : T3) :
    Bx (((w.setCell ⟨g, q * 3, none⟩ (.int .u32 e.1)).setCell ⟨g, q * 3 + 1, none⟩ (.int .u64 e.2.1)).setCell ⟨g, q * 3 + 2, none⟩ (.int .u64 e.2.2)) pa g (L.set q e) T := fun h0 => by
  obtain ⟨h1, h2⟩ := h (by omega)
  refine ⟨h1, ?_⟩
  have := ((h2.set (q * 3) (.int .u32 e.1)).set (q * 3 + 1) (.int .u64 e.2.1)).set (q * 3 + 2) (.int .u64 e.2.2)
  rwa [cl_set_app L T q e hq] at this
/-- By turns. -/
def sw {β : Type} (s : Nat) (a b : β) : β := if s % 2 = 0 then a else b
theorem sw_succ {β : Type} (s : Nat) (a b : β) : sw (s + 1) a b = sw s b a := by
  unfold sw
  by_cases h : s % 2 = 0
  · rw [if_neg (by omega), if_pos h]
  · rw [if_pos (by omega), if_neg h]
/-- Behind s stages. -/
def DS (N K : Int) (k fan : Nat) (L : List T3) (pa pb : Option Addr) (ga gb : Nat) (Ta Tb : List Value) (w0 : World) (s low : Nat) (M : List T3) (wr : World) : Prop :=
  low = fan ^ s ∧ (∀ t, t < s → fan ^ t < k) ∧ Bx wr (sw s pa pb) (sw s ga gb) (stg (fun x => pn N K x % low) low L) (sw s Ta Tb) ∧ M.length = L.length ∧ Bx wr (sw s pb pa) (sw s gb ga) M (sw s Tb Ta) ∧ Two ga gb w0 wr
theorem DS.low {N K : Int} {k fan : Nat} {L : List T3} {pa pb : Option Addr} {ga gb : Nat} {Ta Tb : List Value} {w0 : World} {s low : Nat} {M : List T3} {wr : World} (h : DS N K k fan L pa pb ga gb Ta Tb w0 s low M wr) (hk : 1 ≤ k) (hk2 : k ≤ 512) (hf : 2 ≤ fan) (hf2 : fan ≤ 256) : 1 ≤ low ∧ low ≤ 131072 := by
  obtain ⟨rfl, h2, _⟩ := h
  refine ⟨Nat.pos_of_ne_zero (by simp; omega), ?_⟩
  cases s with
  | zero => simp
  | succ s =>
    have := h2 s (by omega)
    rw [Nat.pow_succ]
    have h3 : fan ^ s * fan ≤ 512 * 256 := Nat.mul_le_mul (by omega) hf2
    omega
end Sv
end Go.Proofs.Ytclgbificccadaa
