import Derived.Test.YtiljdiagabepbaaDoorPbI
namespace Go.Proofs.YtiljdiagabepbaaDoor
namespace Pb
open Go.RowKit
set_option linter.unusedVariables false
/-- Bytes. -/
def Bys (xs : List Value) : Prop := ∀ v ∈ xs, ∃ z : Int, v = .int .u8 z ∧ 0 ≤ z ∧ z ≤ 255
theorem Bys.one {xs : List Value} (h : Bys xs) : ∀ v ∈ xs, v.oneCell' = true := by
  intro v hv
  obtain ⟨z, rfl, _⟩ := h v hv
  rfl
theorem Bys.append {xs ys : List Value} (h : Bys xs) (h2 : Bys ys) : Bys (xs ++ ys) := by
  intro v hv
  rcases List.mem_append.1 hv with hv | hv
  · exact h v hv
  · exact h2 v hv
theorem own_len {w : World} {base : Nat} {v : Value} {xs : List Value} (ho : w.ownsRow base 5 1 v xs.length xs) (W : World) : (Builtin.len_ #[37] 3 #[v]).run Tryd.prog W = .ok (.int .i64 xs.length) W := by
  rcases ho.2 with ⟨rfl, h0⟩ | ⟨g', cap, cur, rfl, _⟩
  · simp [Builtin.len_, goInt, h0]
  · simp [Builtin.len_, goInt]
set_option maxHeartbeats 1600000 in
set_option maxRecDepth 8000 in
theorem begins_same (b1 b2 : Nat) (w : World) (v1 v2 : Value) (xs : List Value) (h1 : w.ownsRow b1 5 1 v1 xs.length xs) (h2 : w.ownsRow b2 5 1 v2 xs.length xs) (hb : Bys xs) (hx : xs.length ≤ 1073741824) :
    Calls Tryd.prog 13 #[v1, v2] w fun e w' => e = .returned (.bool true) ∧ Below w.heap.size w w' := by
  have l1 := own_len h1
  have l2 := own_len h2
  by_cases h0 : xs.length = 0
  · have l1' : ∀ W, (Builtin.len_ #[37] 3 #[v1]).run Tryd.prog W = .ok (.int .i64 0) W := fun W => by rw [l1 W, h0]; rfl
    have l2' : ∀ W, (Builtin.len_ #[37] 3 #[v2]).run Tryd.prog W = .ok (.int .i64 0) W := fun W => by rw [l2 W, h0]; rfl
    obtain ⟨p1, n1, c1, rfl⟩ := own_slice h1
    obtain ⟨p2, n2, c2, rfl⟩ := own_slice h2
    clear l1 l2 h1 h2
    go_enter Tryd.func13, Tryd.ntmps13
    go_wp2
    go_loop [5] (fun i => i = .int .i64 0) (fun _ => 0)
    case atStart => rfl
    case round =>
      subst hrel
      go_wp2
      go_ret
      exact ⟨rfl, Below.refl _ _⟩
  · rcases h1.2 with ⟨rfl, e0⟩ | ⟨g1, c1, cu1, rfl, _⟩
    · exact absurd e0 h0
    rcases h2.2 with ⟨rfl, e0⟩ | ⟨g2, c2, cu2, rfl, _⟩
    · exact absurd e0 h0
    have k1 := h1.cells (g := g1) rfl
    have k2 := h2.cells (g := g2) rfl
    clear h1 h2 l1 l2
    go_enter Tryd.func13, Tryd.ntmps13
    go_wp2
    go_loopw [5] (fun i wr => ∃ k : Nat, i = .int .i64 k ∧ k ≤ xs.length ∧ Below w.heap.size w wr) (fun i _ => xs.length - (intOf i).toNat)
    case atStart => exact ⟨0, rfl, by omega, Below.refl _ _⟩
    case round =>
      obtain ⟨k, rfl, hk, hB⟩ := hrel
      by_cases hkl : k < xs.length
      · obtain ⟨z, hz, z0, z1⟩ := hb (xs[k]) (List.getElem_mem hkl)
        have hg : xs[k]? = some (.int .u8 z) := by rw [List.getElem?_eq_getElem hkl, hz]
        have q1 := k1 k _ hg
        have q2 := k2 k _ hg
        rw [Addr.add_lit] at q1 q2
        simp only [Nat.zero_add] at q1 q2
        have q1' := (hB.cell (p := ⟨g1, k, none⟩) (World.block_lt_of_cell? _ _ q1)).trans q1
        have q2' := (hB.cell (p := ⟨g2, k, none⟩) (World.block_lt_of_cell? _ _ q2)).trans q2
        clear q1 q2
        have HB : Hid (∀ n, Below w.heap.size w (wr.drewN n)) := fun n => hB.trans ⟨rfl, rfl, rfl, Nat.le_refl _, fun _ _ => rfl⟩
        go_wp2
        go_quiet (fail)
        go_wp2
        refine ⟨⟨k + 1, rfl, by omega, HB.out _⟩, ?_⟩
        simp [intOf]
        omega
      · obtain rfl : k = xs.length := by omega
        go_wp2
        go_ret
        exact ⟨rfl, hB⟩
end Pb
end Go.Proofs.YtiljdiagabepbaaDoor
