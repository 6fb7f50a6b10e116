import Derived.Test.YtcolkfoodjpdjaaRaA
namespace Go.Proofs.Ytcolkfoodjpdjaa
namespace Ra
open Go.RowKit
set_option linter.unusedVariables false
set_option maxHeartbeats 800000 in
set_option maxRecDepth 8000 in
theorem ents_any (a b : Option Addr) (l c d : Nat) (E : Nat → En) (w : World) (hl : l ≤ 1000000) (h1 : ERow w a l E) (h2 : ERow w b l E) :
    Calls Try.prog 21 #[.slice a l c, .slice b l d] w fun e w' => Below w.heap.size w w' ∧ e = .returned (.bool true) := by
  have H1 : Hid (ERow w a l E) := h1
  have H2 : Hid (ERow w b l E) := h2
  clear h1 h2
  go_enter Try.func21, Try.ntmps21
  go_wp2
  go_loopw [5] (fun i wr => ∃ k : Nat, k ≤ l ∧ i = .int .i64 k ∧ Below w.heap.size w wr) (fun i _ => l - (intOf i).toNat)
  case atStart => exact ⟨0, Nat.zero_le _, rfl, Below.refl _ _⟩
  case round =>
    obtain ⟨k, hk, rfl, hB⟩ := hrel
    by_cases hlt : k < l
    · obtain ⟨x, rfl, hx⟩ := H1.out (by omega)
      obtain ⟨y, rfl, hy⟩ := H2.out (by omega)
      obtain ⟨p0, p1⟩ := cells2 ((hx.on hB).2 k hlt)
      obtain ⟨q0, q1⟩ := cells2 ((hy.on hB).2 k hlt)
      generalize E k = ek at *
      clear hx hy
      go_wp2
      go_quiet (fail)
      have hB2 := below_drew hB nq
      go_wp2
      exact ⟨⟨k + 1, by omega, by go_num, hB2⟩, by simp [intOf]; omega⟩
    · obtain rfl : k = l := by omega
      go_wp2
      go_ret
      exact ⟨hB, rfl⟩
end Ra
end Go.Proofs.Ytcolkfoodjpdjaa
