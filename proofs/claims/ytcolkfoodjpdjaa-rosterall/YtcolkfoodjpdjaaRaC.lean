import Derived.Test.YtcolkfoodjpdjaaRaB
namespace Go.Proofs.Ytcolkfoodjpdjaa
namespace Ra
open Go.RowKit
set_option linter.unusedVariables false
/-- The cells of two sections. -/
abbrev C4 (x y : Addr) (k : Nat) (nm : ByteArray) (l : Nat) (a : Option Addr) (c : Nat) (b : Option Addr) (d : Nat) (W : World) : Prop :=
  W.cell? (x.add (k * 2)) = some (.string nm) ∧ W.cell? ⟨(x.add (k * 2)).block, (x.add (k * 2)).off + 1, none⟩ = some (.slice a l c) ∧
  W.cell? (y.add (k * 2)) = some (.string nm) ∧ W.cell? ⟨(y.add (k * 2)).block, (y.add (k * 2)).off + 1, none⟩ = some (.slice b l d)
theorem C4.on {x y : Addr} {k : Nat} {nm : ByteArray} {l : Nat} {a : Option Addr} {c : Nat} {b : Option Addr} {d : Nat} {W W' : World} (h : C4 x y k nm l a c b d W) (hx : x.block < W.heap.size) (hy : y.block < W.heap.size) (hb : Below W.heap.size W W') : C4 x y k nm l a c b d W' :=
  ⟨(hb.cell (p := x.add (k * 2)) (by rw [add_block]; exact hx)).trans h.1, (hb.cell (p := ⟨(x.add (k * 2)).block, (x.add (k * 2)).off + 1, none⟩) (by rw [add_block]; exact hx)).trans h.2.1, (hb.cell (p := y.add (k * 2)) (by rw [add_block]; exact hy)).trans h.2.2.1, (hb.cell (p := ⟨(y.add (k * 2)).block, (y.add (k * 2)).off + 1, none⟩) (by rw [add_block]; exact hy)).trans h.2.2.2⟩
theorem below_same {B : Nat} {w W : World} (h : Below B w W) {W' : World} (hb : Below W.heap.size W W') (hB : B ≤ w.heap.size) : Below B w W' := h.trans (hb.mono (Nat.le_trans hB h.size))
set_option maxHeartbeats 1600000 in
set_option maxRecDepth 8000 in
theorem same_any (a b : Option Addr) (l c d : Nat) (D : Nat → Dt) (w : World) (hl : l ≤ 1000000) (hd : ∀ i, i < l → (D i).l ≤ 1000000) (h1 : SRow w a l D) (h2 : SRow w b l D) :
    Calls Try.prog 12 #[.slice a l c, .slice b l d] w fun e w' => Below w.heap.size w w' ∧ e = .returned (.bool true) := by
  have H1 : Hid (SRow w a l D) := h1
  have H2 : Hid (SRow w b l D) := h2
  clear h1 h2
  go_enter Try.func12, Try.ntmps12
  go_wp2
  go_loopw [5] (fun i wr => ∃ k : Nat, k ≤ l ∧ i = .int .i64 k ∧ Below w.heap.size w wr) (fun i _ => l - (intOf i).toNat)
  case atStart => exact ⟨0, Nat.zero_le _, rfl, Below.refl _ _⟩
  case round =>
    obtain ⟨k, hk, rfl, hB⟩ := hrel
    by_cases hlt : k < l
    · obtain ⟨x, rfl, hx⟩ := H1.out (by omega)
      obtain ⟨y, rfl, hy⟩ := H2.out (by omega)
      replace hx := hx.on hB
      replace hy := hy.on hB
      obtain ⟨p0, a1, c1, p1, _, e1⟩ := hx.2 k hlt
      obtain ⟨q0, a2, c2, q1, _, e2⟩ := hy.2 k hlt
      have hdk := hd k hlt
      obtain ⟨P0, P1⟩ := cells2 ⟨p0, p1⟩
      obtain ⟨Q0, Q1⟩ := cells2 ⟨q0, q1⟩
      have hS0 : Hid (C4 x y k (D k).nm (D k).l a1 c1 a2 c2 wr) := ⟨P0, P1, Q0, Q1⟩
      have hX : Hid (x.block < wr.heap.size ∧ y.block < wr.heap.size) := ⟨hx.1, hy.1⟩
      have HB : Hid (Below w.heap.size w wr) := hB
      have HC : Hid (∀ W, Below wr.heap.size wr W → Calls Try.prog 21 #[.slice a1 (D k).l c1, .slice a2 (D k).l c2] W fun e w' => Below W.heap.size W w' ∧ e = .returned (.bool true)) := fun W hW => ents_any a1 a2 (D k).l c1 c2 (D k).E W hdk (e1.on hW) (e2.on hW)
      have HD : Hid (∀ n, Below wr.heap.size wr (wr.drewN n)) := fun n => below_drew (Below.refl _ _) n
      clear hx hy p0 p1 q0 q1 e1 e2 hB
      generalize (D k).nm = nm at *
      generalize (D k).l = lk at *
      generalize (D k).E = Ek at *
      go_wp2
      go_region_held3 (C4 x y k nm lk a1 c1 a2 c2) ((first | (with_reducible exact hS1.out) | (exact hS0.out)))
        ((go_at_call 21; refine (HC.out _ (HD.out _)).mono ?_; rintro e5 w5 ⟨hb5, rfl⟩; have hS1 : Hid (C4 x y k nm lk a1 c1 a2 c2 w5) := C4.on hS0.out hX.out.1 hX.out.2 ((HD.out _).trans hb5)))
      have hB9 : Below w.heap.size w _ := below_same HB.out ((HD.out _).trans hb5) (Nat.le_refl _)
      go_wp2
      exact ⟨⟨k + 1, by omega, by go_num, by first | exact hB9 | exact below_drew hB9 _⟩, by simp [intOf]; omega⟩
    · obtain rfl : k = l := by omega
      go_wp2
      go_ret
      exact ⟨hB, rfl⟩
end Ra
end Go.Proofs.Ytcolkfoodjpdjaa
