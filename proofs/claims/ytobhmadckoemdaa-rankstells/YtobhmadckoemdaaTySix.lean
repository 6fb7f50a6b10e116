import Derived.Test.YtobhmadckoemdaaTyNum
import Derived.ProofKit
import Derived.OpenShut
import Derived.WideKeyArr2
namespace Go.Proofs.Ytobhmadckoemdaa
namespace Ty
open Go.ChangeShapes Go.WideShapes Go.ChangeAt Go.RowKit
set_option linter.unusedVariables false
theorem u64_b {a : Int} (h : (Lit.int .u64 a).wf = true) : 0 ≤ a ∧ a < 18446744073709551616 := by
  simp [Lit.wf, IntKind.min, IntKind.max, IntKind.signed, IntKind.bits] at h; omega
/-- Any six words are a number's. -/
theorem six_sm (a0 a1 a2 a3 a4 a5 : Int) (h0 : 0 ≤ a0 ∧ a0 < 18446744073709551616) (h1 : 0 ≤ a1 ∧ a1 < 18446744073709551616) (h2 : 0 ≤ a2 ∧ a2 < 18446744073709551616) (h3 : 0 ≤ a3 ∧ a3 < 18446744073709551616) (h4 : 0 ≤ a4 ∧ a4 < 18446744073709551616) (h5 : 0 ≤ a5 ∧ a5 < 18446744073709551616) :
    ∃ N : Int, 0 ≤ N ∧ N < 2 ^ 384 ∧ #[Value.int .u64 a0, .int .u64 a1, .int .u64 a2, .int .u64 a3, .int .u64 a4, .int .u64 a5] = sm N := by
  have step : ∀ (a M : Int) (i : Nat), 0 ≤ a → a < 18446744073709551616 → wd (a + 18446744073709551616 * M) (i + 1) = wd M i := by
    intro a M i h0 h1
    unfold wd
    rw [show 64 * (i + 1) = 64 + 64 * i from by omega, Int.pow_add, two64, ← Int.ediv_ediv_of_nonneg (by decide), Int.add_mul_ediv_left _ _ (by decide), Int.ediv_eq_zero_of_lt h0 h1, Int.zero_add]
  have base : ∀ (a M : Int), 0 ≤ a → a < 18446744073709551616 → wd (a + 18446744073709551616 * M) 0 = a := by
    intro a M h0 h1
    unfold wd
    rw [Nat.mul_zero, Int.pow_zero, Int.ediv_one, Int.add_mul_emod_self_left]; exact Int.emod_eq_of_lt h0 h1
  refine ⟨a0 + 18446744073709551616 * (a1 + 18446744073709551616 * (a2 + 18446744073709551616 * (a3 + 18446744073709551616 * (a4 + 18446744073709551616 * (a5 + 18446744073709551616 * 0))))), by omega, ?_, ?_⟩
  · have e : (2 : Int) ^ 384 = 2 ^ 64 * (2 ^ 64 * (2 ^ 64 * (2 ^ 64 * (2 ^ 64 * 2 ^ 64)))) := by
      rw [← Int.pow_add, ← Int.pow_add, ← Int.pow_add, ← Int.pow_add, ← Int.pow_add]
    rw [e, two64]; omega
  · unfold sm
    rw [base a0 _ h0.1 h0.2, step a0 _ 0 h0.1 h0.2, base a1 _ h1.1 h1.2, step a0 _ 1 h0.1 h0.2, step a1 _ 0 h1.1 h1.2, base a2 _ h2.1 h2.2,
      step a0 _ 2 h0.1 h0.2, step a1 _ 1 h1.1 h1.2, step a2 _ 0 h2.1 h2.2, base a3 _ h3.1 h3.2,
      step a0 _ 3 h0.1 h0.2, step a1 _ 2 h1.1 h1.2, step a2 _ 1 h2.1 h2.2, step a3 _ 0 h3.1 h3.2, base a4 _ h4.1 h4.2,
      step a0 _ 4 h0.1 h0.2, step a1 _ 3 h1.1 h1.2, step a2 _ 2 h2.1 h2.2, step a3 _ 1 h3.1 h3.2, step a4 _ 0 h4.1 h4.2, base a5 _ h5.1 h5.2]
section
variable {H : Type} {enc : TypeId × Value → H} {P : Program} {k e : TypeId} {W : World} {base : Nat} {sp : Nat → Bool} {held : Bool}
/-- An argument of six words. -/
theorem open_six (hu : P.underlying k = some (.array 6 e)) (he : P.underlying e = some (.int .u64)) (h1 : P.cellsOf e = 1) (h6 : P.cellsOf k = 6) {r : Reach} {b0 : Nat} {v : Value} {d : DataW H} {ps : List MemPlace} (hval : Value.okWide P W r b0 k v) (hd : DataW.Trod enc P W base sp held k v d ps) :
    ps = [] ∧ ∃ N : Int, 0 ≤ N ∧ N < 2 ^ 384 ∧ v = .agg (sm N) := by
  obtain ⟨c0, c1, c2, c3, c4, c5, rfl⟩ : ∃ c0 c1 c2 c3 c4 c5, v = .agg #[c0, c1, c2, c3, c4, c5] := by
    simp only [Value.okWide, hu] at hval
    obtain ⟨cs, hv, hs, _⟩ := hval
    rw [h6] at hs
    obtain ⟨l⟩ := cs
    match l, hs with
    | [c0, c1, c2, c3, c4, c5], _ => exact ⟨c0, c1, c2, c3, c4, c5, hv⟩
  obtain ⟨fuel, hf⟩ := hd
  cases fuel with
  | zero => simp [DataW.trod] at hf
  | succ n =>
    rw [DataW.trod_step] at hf
    unfold DataW.trodStep at hf
    simp only [hu, Value.cells] at hf
    rw [if_pos (by rw [h6]; rfl)] at hf
    simp only [Option.map_eq_some_iff] at hf
    obtain ⟨xs, hx, e1⟩ := hf
    rw [show List.range 6 = [0, 1, 2, 3, 4, 5] from rfl, List.mapM_cons, List.mapM_cons, List.mapM_cons, List.mapM_cons, List.mapM_cons, List.mapM_cons, List.mapM_nil] at hx
    simp only [bind, Option.bind_eq_some_iff, pure, Option.some.injEq, h1] at hx
    obtain ⟨y0, t0, _, ⟨y1, t1, _, ⟨y2, t2, _, ⟨y3, t3, _, ⟨y4, t4, _, ⟨y5, t5, _, rfl, rfl⟩, rfl⟩, rfl⟩, rfl⟩, rfl⟩, rfl⟩ := hx
    obtain ⟨a0, q0, rfl, w0⟩ := DataW.trod_int he t0
    obtain ⟨a1, q1, rfl, w1⟩ := DataW.trod_int he t1
    obtain ⟨a2, q2, rfl, w2⟩ := DataW.trod_int he t2
    obtain ⟨a3, q3, rfl, w3⟩ := DataW.trod_int he t3
    obtain ⟨a4, q4, rfl, w4⟩ := DataW.trod_int he t4
    obtain ⟨a5, q5, rfl, w5⟩ := DataW.trod_int he t5
    simp at q0 q1 q2 q3 q4 q5
    subst q0 q1 q2 q3 q4 q5
    simp only [Prod.mk.injEq] at e1
    obtain ⟨N, n0, n1, hN⟩ := six_sm a0 a1 a2 a3 a4 a5 (u64_b w0) (u64_b w1) (u64_b w2) (u64_b w3) (u64_b w4) (u64_b w5)
    exact ⟨by rw [← e1.2]; rfl, N, n0, n1, by rw [hN]⟩
end
end Ty
end Go.Proofs.Ytobhmadckoemdaa
