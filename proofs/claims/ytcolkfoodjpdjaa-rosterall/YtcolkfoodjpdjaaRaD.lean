import Derived.Test.YtcolkfoodjpdjaaRaC
namespace Go.Proofs.Ytcolkfoodjpdjaa
namespace Ra
open Go.RowKit
set_option linter.unusedVariables false
def mk : ByteArray := ⟨#[109, 97, 114, 107]⟩
def bh : ByteArray := ⟨#[98, 101, 104, 105, 110, 100]⟩
/-- A twin's entries: a mark lies behind them. -/
def ETw (w : World) (y : Addr) (l c : Nat) (E : Nat → En) : Prop := l + 1 ≤ c ∧ EAt w y l E ∧ w.cell? (y.add (l * 2)) = some (.string mk) ∧ w.cell? (y.add (l * 2 + 1)) = some (.string bh)
/-- A twin. -/
def TAt (w : World) (x : Addr) (l c : Nat) (D : Nat → Dt) : Prop := l + 1 ≤ c ∧ x.block < w.heap.size ∧ w.cell? (x.add (l * 2)) = some (.string mk) ∧
  ∀ i, i < l → w.cell? (x.add (i * 2)) = some (.string (D i).nm) ∧ ∃ y k, w.cell? (x.add (i * 2 + 1)) = some (.slice (some y) (D i).l k) ∧ ETw w y (D i).l k (D i).E
theorem ETw.on {w w' : World} {y : Addr} {l c : Nat} {E : Nat → En} (h : ETw w y l c E) (hb : Below w.heap.size w w') : ETw w' y l c E :=
  ⟨h.1, h.2.1.on hb, (hb.cell (p := y.add (l * 2)) (by rw [add_block]; exact h.2.1.1)).trans h.2.2.1, (hb.cell (p := y.add (l * 2 + 1)) (by rw [add_block]; exact h.2.1.1)).trans h.2.2.2⟩
theorem TAt.on {w w' : World} {x : Addr} {l c : Nat} {D : Nat → Dt} (h : TAt w x l c D) (hb : Below w.heap.size w w') : TAt w' x l c D := by
  obtain ⟨h1, h2, h3, h4⟩ := h
  refine ⟨h1, Nat.lt_of_lt_of_le h2 hb.size, (hb.cell (p := x.add (l * 2)) (by rw [add_block]; exact h2)).trans h3, fun i hi => ?_⟩
  obtain ⟨c0, y, k, c1, he⟩ := h4 i hi
  exact ⟨(hb.cell (p := x.add (i * 2)) (by rw [add_block]; exact h2)).trans c0, y, k, (hb.cell (p := x.add (i * 2 + 1)) (by rw [add_block]; exact h2)).trans c1, he.on hb⟩
theorem TAt.row {w : World} {x : Addr} {l c : Nat} {D : Nat → Dt} (h : TAt w x l c D) : SAt w x l D :=
  ⟨h.2.1, fun i hi => by
    obtain ⟨c0, y, k, c1, he⟩ := h.2.2.2 i hi
    exact ⟨c0, some y, k, c1, (fun e => by cases e), fun _ => ⟨y, rfl, he.2.1⟩⟩⟩
set_option maxHeartbeats 1600000 in
set_option maxRecDepth 8000 in
theorem untouched_any (x : Addr) (b : Option Addr) (l c d : Nat) (D : Nat → Dt) (w : World) (hl : l ≤ 1000000) (hd : ∀ i, i < l → (D i).l ≤ 1000000) (h1 : TAt w x l c D) (h2 : SRow w b l D) :
    Calls Try.prog 9 #[.slice (some x) l c, .slice b l d] w fun e w' => Below w.heap.size w w' ∧ e = .returned (.bool true) := by
  have H1 : Hid (TAt w x l c D) := h1
  have hlc := h1.1
  have HS : Hid (∀ W, Below w.heap.size w W → Calls Try.prog 12 #[.slice (some x) l c, .slice b l d] W fun e w' => Below W.heap.size W w' ∧ e = .returned (.bool true)) := fun W hW => same_any (some x) b l c d D W hl hd (fun _ => ⟨x, rfl, (h1.on hW).row⟩) (h2.on hW)
  clear h1 h2
  go_enter Try.func9, Try.ntmps9
  go_wp2_with (go_at_call 12; refine (HS.out _ (Below.refl _ _)).mono ?_; rintro e5 w5 ⟨hb5, rfl⟩; have hmk := (H1.out.on hb5).2.2.1; unfold mk at hmk)
  go_loopw [6] (fun i wr => ∃ k : Nat, k ≤ l ∧ i = .int .i64 k ∧ Below w.heap.size w wr) (fun i _ => l - (intOf i).toNat)
  case atStart => exact ⟨0, Nat.zero_le _, rfl, hb5⟩
  case round =>
    obtain ⟨k, hk, rfl, hB⟩ := hrel
    clear hb5 hmk
    by_cases hlt : k < l
    · obtain ⟨p0, y, ck, p1, e1, e2, e3⟩ := (H1.out.on hB).2.2.2 k hlt
      obtain ⟨P0, P1⟩ := cells2 ⟨p0, p1⟩
      obtain ⟨M0, M1⟩ := cells2 e3
      have hdk := hd k hlt
      unfold mk at M0
      unfold bh at M1
      clear p0 p1 e2 e3
      generalize (D k).nm = nm at *
      generalize (D k).l = lk at *
      generalize (D k).E = Ek at *
      go_wp2
      exact ⟨⟨k + 1, by omega, by go_num, hB⟩, by simp [intOf]; omega⟩
    · obtain rfl : k = l := by omega
      go_wp2
      go_ret
      exact ⟨hB, rfl⟩
end Ra
end Go.Proofs.Ytcolkfoodjpdjaa
