import Derived.Test.YtobhmadckoemdaaRows
import Derived.ProofKit
import Derived.OpenShut
import Derived.WideKeyArr2
namespace Go.Proofs.Ytobhmadckoemdaa
namespace Rn
open Go.ChangeShapes Go.WideShapes Go.ChangeAt Go.RowKit
set_option linter.unusedVariables false
theorem u64_b {a : Int} (h : (Lit.int .u64 a).wf = true) : 0 ≤ a ∧ a < 18446744073709551616 := by
  simp [Lit.wf, IntKind.min, IntKind.max, IntKind.signed, IntKind.bits] at h; omega
section
variable {H : Type} {enc : TypeId × Value → H} {P : Program} {k e : TypeId} {W : World} {base : Nat} {sp : Nat → Bool} {held : Bool}
/-- An argument of 8 words. -/
theorem open_eight (hu : P.underlying k = some (.array 8 e)) (he : P.underlying e = some (.int .u64)) (h1 : P.cellsOf e = 1) (h6 : P.cellsOf k = 8) {r : Reach} {b0 : Nat} {v : Value} {d : DataW H} {ps : List MemPlace} (hval : Value.okWide P W r b0 k v) (hd : DataW.Trod enc P W base sp held k v d ps) :
    ps = [] ∧ ∃ s : Nat → Int, (∀ i, 0 ≤ s i ∧ s i < 18446744073709551616) ∧ v = .agg #[.int .u64 (s 0), .int .u64 (s 1), .int .u64 (s 2), .int .u64 (s 3), .int .u64 (s 4), .int .u64 (s 5), .int .u64 (s 6), .int .u64 (s 7)] := by
  obtain ⟨c0, c1, c2, c3, c4, c5, c6, c7, rfl⟩ : ∃ c0 c1 c2 c3 c4 c5 c6 c7, v = .agg #[c0, c1, c2, c3, c4, c5, c6, c7] := by
    simp only [Value.okWide, hu] at hval
    obtain ⟨cs, hv, hs, _⟩ := hval
    rw [h6] at hs
    obtain ⟨l⟩ := cs
    match l, hs with
    | [c0, c1, c2, c3, c4, c5, c6, c7], _ => exact ⟨c0, c1, c2, c3, c4, c5, c6, c7, hv⟩
  obtain ⟨fuel, hf⟩ := hd
  cases fuel with
  | zero => simp [DataW.trod] at hf
  | succ n =>
    rw [DataW.trod_step] at hf
    unfold DataW.trodStep at hf
    simp only [hu, Value.cells] at hf
    rw [if_pos (by rw [h6]; rfl)] at hf
    simp only [Option.map_eq_some_iff] at hf
    obtain ⟨xs, hx, e1⟩ := hf
    rw [show List.range 8 = [0, 1, 2, 3, 4, 5, 6, 7] from rfl, List.mapM_cons, List.mapM_cons, List.mapM_cons, List.mapM_cons, List.mapM_cons, List.mapM_cons, List.mapM_cons, List.mapM_cons, List.mapM_nil] at hx
    simp only [bind, Option.bind_eq_some_iff, pure, Option.some.injEq, h1] at hx
    obtain ⟨y0, t0, _, ⟨y1, t1, _, ⟨y2, t2, _, ⟨y3, t3, _, ⟨y4, t4, _, ⟨y5, t5, _, ⟨y6, t6, _, ⟨y7, t7, _, rfl, rfl⟩, rfl⟩, rfl⟩, rfl⟩, rfl⟩, rfl⟩, rfl⟩, rfl⟩ := hx
    obtain ⟨a0, q0, rfl, w0⟩ := DataW.trod_int he t0
    obtain ⟨a1, q1, rfl, w1⟩ := DataW.trod_int he t1
    obtain ⟨a2, q2, rfl, w2⟩ := DataW.trod_int he t2
    obtain ⟨a3, q3, rfl, w3⟩ := DataW.trod_int he t3
    obtain ⟨a4, q4, rfl, w4⟩ := DataW.trod_int he t4
    obtain ⟨a5, q5, rfl, w5⟩ := DataW.trod_int he t5
    obtain ⟨a6, q6, rfl, w6⟩ := DataW.trod_int he t6
    obtain ⟨a7, q7, rfl, w7⟩ := DataW.trod_int he t7
    simp at q0 q1 q2 q3 q4 q5 q6 q7
    subst q0 q1 q2 q3 q4 q5 q6 q7
    simp only [Prod.mk.injEq] at e1
    refine ⟨by rw [← e1.2]; rfl, (fun i => match i with | 0 => a0 | 1 => a1 | 2 => a2 | 3 => a3 | 4 => a4 | 5 => a5 | 6 => a6 | 7 => a7 | _ => 0), ?_, rfl⟩
    intro i
    match i with
    | 0 => exact u64_b w0
    | 1 => exact u64_b w1
    | 2 => exact u64_b w2
    | 3 => exact u64_b w3
    | 4 => exact u64_b w4
    | 5 => exact u64_b w5
    | 6 => exact u64_b w6
    | 7 => exact u64_b w7
    | (j + 8) => exact ⟨Int.le_refl _, (by decide : (0 : Int) < 18446744073709551616)⟩
/-- An argument of 4 words. -/
theorem open_four (hu : P.underlying k = some (.array 4 e)) (he : P.underlying e = some (.int .u64)) (h1 : P.cellsOf e = 1) (h6 : P.cellsOf k = 4) {r : Reach} {b0 : Nat} {v : Value} {d : DataW H} {ps : List MemPlace} (hval : Value.okWide P W r b0 k v) (hd : DataW.Trod enc P W base sp held k v d ps) :
    ps = [] ∧ ∃ s : Nat → Int, (∀ i, 0 ≤ s i ∧ s i < 18446744073709551616) ∧ v = .agg #[.int .u64 (s 0), .int .u64 (s 1), .int .u64 (s 2), .int .u64 (s 3)] := by
  obtain ⟨c0, c1, c2, c3, rfl⟩ : ∃ c0 c1 c2 c3, v = .agg #[c0, c1, c2, c3] := by
    simp only [Value.okWide, hu] at hval
    obtain ⟨cs, hv, hs, _⟩ := hval
    rw [h6] at hs
    obtain ⟨l⟩ := cs
    match l, hs with
    | [c0, c1, c2, c3], _ => exact ⟨c0, c1, c2, c3, hv⟩
  obtain ⟨fuel, hf⟩ := hd
  cases fuel with
  | zero => simp [DataW.trod] at hf
  | succ n =>
    rw [DataW.trod_step] at hf
    unfold DataW.trodStep at hf
    simp only [hu, Value.cells] at hf
    rw [if_pos (by rw [h6]; rfl)] at hf
    simp only [Option.map_eq_some_iff] at hf
    obtain ⟨xs, hx, e1⟩ := hf
    rw [show List.range 4 = [0, 1, 2, 3] from rfl, List.mapM_cons, List.mapM_cons, List.mapM_cons, List.mapM_cons, List.mapM_nil] at hx
    simp only [bind, Option.bind_eq_some_iff, pure, Option.some.injEq, h1] at hx
    obtain ⟨y0, t0, _, ⟨y1, t1, _, ⟨y2, t2, _, ⟨y3, t3, _, rfl, rfl⟩, rfl⟩, rfl⟩, rfl⟩ := hx
    obtain ⟨a0, q0, rfl, w0⟩ := DataW.trod_int he t0
    obtain ⟨a1, q1, rfl, w1⟩ := DataW.trod_int he t1
    obtain ⟨a2, q2, rfl, w2⟩ := DataW.trod_int he t2
    obtain ⟨a3, q3, rfl, w3⟩ := DataW.trod_int he t3
    simp at q0 q1 q2 q3
    subst q0 q1 q2 q3
    simp only [Prod.mk.injEq] at e1
    refine ⟨by rw [← e1.2]; rfl, (fun i => match i with | 0 => a0 | 1 => a1 | 2 => a2 | 3 => a3 | _ => 0), ?_, rfl⟩
    intro i
    match i with
    | 0 => exact u64_b w0
    | 1 => exact u64_b w1
    | 2 => exact u64_b w2
    | 3 => exact u64_b w3
    | (j + 4) => exact ⟨Int.le_refl _, (by decide : (0 : Int) < 18446744073709551616)⟩
end
end Rn
end Go.Proofs.Ytobhmadckoemdaa
