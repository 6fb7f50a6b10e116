import Derived.Test.YtfgjhljhjclegaaRfVal
import Derived.Test.YtfgjhljhjclegaaRfVah
import Derived.Test.YtfgjhljhjclegaaRfVan
import Derived.Test.YtfgjhljhjclegaaRfVbl
import Derived.Test.YtfgjhljhjclegaaRfVbh
import Derived.Test.YtfgjhljhjclegaaRfVbn
import Derived.Test.YtfgjhljhjclegaaRfVcl
import Derived.Test.YtfgjhljhjclegaaRfVch
import Derived.Test.YtfgjhljhjclegaaRfVcn
import Derived.Test.YtfgjhljhjclegaaRfVdl
import Derived.Test.YtfgjhljhjclegaaRfVdh
import Derived.Test.YtfgjhljhjclegaaRfVdn
import Derived.ProofKit
import Derived.OpenShut
import Derived.ShutString
import Derived.ChangeOld
import Derived.Below
import Derived.WideKeyArr2
import Derived.Lib.SmallJoins
namespace Go.Proofs.Ytfgjhljhjclegaa.reelForms
open Go.ChangeShapes Go.WideShapes Go.ChangeAt Go.RowKit Go.Joins
set_option linter.unusedVariables false
theorem own : ownKnob Try.prog.godebug = none := by kernel_rfl
theorem laidOut : laidOutB Try.prog = true := by kernel_rfl
theorem cells40 : Try.prog.cellsOf 40 = 3 := by kernel_rfl
theorem cells43 : Try.prog.cellsOf 43 = 3 := by kernel_rfl
theorem cells45 : Try.prog.cellsOf 45 = 8 := by kernel_rfl
theorem cells41 : Try.prog.cellsOf 41 = 1 := by kernel_rfl
theorem i64_b {a : Int} (h : (Lit.int .i64 a).wf = true) : -9223372036854775808 ≤ a ∧ a ≤ 9223372036854775807 := by
  simp [Lit.wf, IntKind.min, IntKind.max, IntKind.signed, IntKind.bits] at h; omega
theorem u64_b {a : Int} (h : (Lit.int .u64 a).wf = true) : 0 ≤ a ∧ a < 18446744073709551616 := by
  simp [Lit.wf, IntKind.min, IntKind.max, IntKind.signed, IntKind.bits] at h; omega
theorem u32_b {a : Int} (h : (Lit.int .u32 a).wf = true) : 0 ≤ a ∧ a < 4294967296 := by
  simp [Lit.wf, IntKind.min, IntKind.max, IntKind.signed, IntKind.bits] at h; omega
section
variable {H : Type} {enc : TypeId × Value → H} {P : Program} {k e : TypeId} {W : World} {base : Nat} {sp : Nat → Bool} {held : Bool}
/-- An argument of eight words. -/
theorem open_eight (hu : P.underlying k = some (.array 8 e)) (he : P.underlying e = some (.int .u64)) (h1 : P.cellsOf e = 1) (h8 : P.cellsOf k = 8) {r : Reach} {b0 : Nat} {v : Value} {d : DataW H} {ps : List MemPlace} (hval : Value.okWide P W r b0 k v) (hd : DataW.Trod enc P W base sp held k v d ps) :
    ∃ s : Nat → Int, v = Rt.sV s ∧ ∀ i, i < 8 → 0 ≤ s i ∧ s i < 18446744073709551616 := by
  obtain ⟨c0, c1, c2, c3, c4, c5, c6, c7, rfl⟩ : ∃ c0 c1 c2 c3 c4 c5 c6 c7, v = .agg #[c0, c1, c2, c3, c4, c5, c6, c7] := by
    simp only [Value.okWide, hu] at hval
    obtain ⟨cs, hv, hs, _⟩ := hval
    rw [h8] at hs
    obtain ⟨l⟩ := cs
    match l, hs with
    | [c0, c1, c2, c3, c4, c5, c6, c7], _ => exact ⟨c0, c1, c2, c3, c4, c5, c6, c7, hv⟩
  obtain ⟨fuel, hf⟩ := hd
  cases fuel with
  | zero => simp [DataW.trod] at hf
  | succ n =>
    rw [DataW.trod_step] at hf
    unfold DataW.trodStep at hf
    simp only [hu, Value.cells] at hf
    rw [if_pos (by rw [h8]; rfl)] at hf
    simp only [Option.map_eq_some_iff] at hf
    obtain ⟨xs, hx, e1⟩ := hf
    rw [show List.range 8 = [0, 1, 2, 3, 4, 5, 6, 7] from rfl, List.mapM_cons, List.mapM_cons, List.mapM_cons, List.mapM_cons, List.mapM_cons, List.mapM_cons, List.mapM_cons, List.mapM_cons, List.mapM_nil] at hx
    simp only [bind, Option.bind_eq_some_iff, pure, Option.some.injEq, h1] at hx
    obtain ⟨y0, t0, _, ⟨y1, t1, _, ⟨y2, t2, _, ⟨y3, t3, _, ⟨y4, t4, _, ⟨y5, t5, _, ⟨y6, t6, _, ⟨y7, t7, _, rfl, rfl⟩, rfl⟩, rfl⟩, rfl⟩, rfl⟩, rfl⟩, rfl⟩, rfl⟩ := hx
    obtain ⟨a0, q0, rfl, w0⟩ := DataW.trod_int he t0
    obtain ⟨a1, q1, rfl, w1⟩ := DataW.trod_int he t1
    obtain ⟨a2, q2, rfl, w2⟩ := DataW.trod_int he t2
    obtain ⟨a3, q3, rfl, w3⟩ := DataW.trod_int he t3
    obtain ⟨a4, q4, rfl, w4⟩ := DataW.trod_int he t4
    obtain ⟨a5, q5, rfl, w5⟩ := DataW.trod_int he t5
    obtain ⟨a6, q6, rfl, w6⟩ := DataW.trod_int he t6
    obtain ⟨a7, q7, rfl, w7⟩ := DataW.trod_int he t7
    simp at q0 q1 q2 q3 q4 q5 q6 q7
    subst q0 q1 q2 q3 q4 q5 q6 q7
    refine ⟨fun i => [a0, a1, a2, a3, a4, a5, a6, a7].getD i 0, rfl, fun i hi => ?_⟩
    match i, hi with
    | 0, _ => exact u64_b w0
    | 1, _ => exact u64_b w1
    | 2, _ => exact u64_b w2
    | 3, _ => exact u64_b w3
    | 4, _ => exact u64_b w4
    | 5, _ => exact u64_b w5
    | 6, _ => exact u64_b w6
    | 7, _ => exact u64_b w7
end
theorem walk (k m : Int) (x y z p q r : Int) (s : Nat → Int) (w : World) (hx : 0 ≤ x ∧ x < 4294967296) (hy : 0 ≤ y ∧ y < 4294967296) (hz : 0 ≤ z ∧ z < 4294967296) (hp : 0 ≤ p ∧ p < 4294967296) (hq : 0 ≤ q ∧ q < 18446744073709551616) (hr : 0 ≤ r ∧ r < 18446744073709551616) (h0 : ∀ k, k < 8 → 0 ≤ s k ∧ s k < 18446744073709551616) :
    Calls Try.prog 4 #[.int .i64 k, Rt.eV x y z, Rt.uV p q r, .int .i64 m, Rt.sV s] w fun e w' => e = .returned (.bool true) ∧ Below w.heap.size w w' := by
  by_cases k1 : k < 1
  · by_cases m1 : m < 1
    · exact Rt.law_al k m x y z p q r s w hx.1 hx.2 hy.1 hy.2 hz.1 hz.2 hp.1 hp.2 hq.1 hq.2 hr.1 hr.2 h0 k1 m1
    · by_cases m2 : 8 < m
      · exact Rt.law_ah k m x y z p q r s w hx.1 hx.2 hy.1 hy.2 hz.1 hz.2 hp.1 hp.2 hq.1 hq.2 hr.1 hr.2 h0 k1 m2
      · obtain ⟨n, rfl⟩ := Int.eq_ofNat_of_zero_le (show 0 ≤ m by omega)
        exact Rt.law_an k n x y z p q r s w hx.1 hx.2 hy.1 hy.2 hz.1 hz.2 hp.1 hp.2 hq.1 hq.2 hr.1 hr.2 h0 k1 (by omega) (by omega)
  by_cases k2 : 3 < k
  · by_cases m1 : m < 1
    · exact Rt.law_bl k m x y z p q r s w hx.1 hx.2 hy.1 hy.2 hz.1 hz.2 hp.1 hp.2 hq.1 hq.2 hr.1 hr.2 h0 k2 m1
    · by_cases m2 : 8 < m
      · exact Rt.law_bh k m x y z p q r s w hx.1 hx.2 hy.1 hy.2 hz.1 hz.2 hp.1 hp.2 hq.1 hq.2 hr.1 hr.2 h0 k2 m2
      · obtain ⟨n, rfl⟩ := Int.eq_ofNat_of_zero_le (show 0 ≤ m by omega)
        exact Rt.law_bn k n x y z p q r s w hx.1 hx.2 hy.1 hy.2 hz.1 hz.2 hp.1 hp.2 hq.1 hq.2 hr.1 hr.2 h0 k2 (by omega) (by omega)
  by_cases k3 : k = 1
  · subst k3
    by_cases m1 : m < 1
    · exact Rt.law_cl m x y z p q r s w hx.1 hx.2 hy.1 hy.2 hz.1 hz.2 hp.1 hp.2 hq.1 hq.2 hr.1 hr.2 h0 m1
    · by_cases m2 : 8 < m
      · exact Rt.law_ch m x y z p q r s w hx.1 hx.2 hy.1 hy.2 hz.1 hz.2 hp.1 hp.2 hq.1 hq.2 hr.1 hr.2 h0 m2
      · obtain ⟨n, rfl⟩ := Int.eq_ofNat_of_zero_le (show 0 ≤ m by omega)
        exact Rt.law_cn n x y z p q r s w hx.1 hx.2 hy.1 hy.2 hz.1 hz.2 hp.1 hp.2 hq.1 hq.2 hr.1 hr.2 h0 (by omega) (by omega)
  · by_cases m1 : m < 1
    · exact Rt.law_dl k m x y z p q r s w hx.1 hx.2 hy.1 hy.2 hz.1 hz.2 hp.1 hp.2 hq.1 hq.2 hr.1 hr.2 h0 (by omega) (by omega) (by omega) m1
    · by_cases m2 : 8 < m
      · exact Rt.law_dh k m x y z p q r s w hx.1 hx.2 hy.1 hy.2 hz.1 hz.2 hp.1 hp.2 hq.1 hq.2 hr.1 hr.2 h0 (by omega) (by omega) (by omega) m2
      · obtain ⟨n, rfl⟩ := Int.eq_ofNat_of_zero_le (show 0 ≤ m by omega)
        exact Rt.law_dn k n x y z p q r s w hx.1 hx.2 hy.1 hy.2 hz.1 hz.2 hp.1 hp.2 hq.1 hq.2 hr.1 hr.2 h0 (by omega) (by omega) (by omega) (by omega) (by omega)
set_option maxRecDepth 100000 in
theorem contract (H : Type) (enc : TypeId × Value → H) (W : World) (base : Nat) (args : Array Value) (ds gs : List (DataW H)) (before : List MemPlace)
    (hval : ∀ (j : Nat) t v, Try.f4.params[j]? = some t → args[j]? = some v → Value.okWide Try.prog W .any base t v)
    (hW : DataW.Whole enc Try.prog Try.f4.params.toList Rows.reelFormsSpec.vars false W args.toList ds gs before) :
    Calls Try.prog 4 args W fun e W' => ∃ v, e = .returned v ∧ Rows.reelFormsSpec.post enc Try.prog Try.f4 false true false false W args v W' := by
  have hW' := hW
  obtain ⟨p, q, hA0, hV, rfl, hfz, hnd⟩ := hW
  have hA : DataW.TrodAll enc Try.prog W 0 (fun _ => true) true Try.f4.params.toList args.toList ds p := hA0
  rw [Try.params4] at hA hval
  obtain ⟨v0, vs0, d0, ds0, p0, q0, hargs, rfl, rfl, h0, r0⟩ := trodAll_cons hA
  obtain ⟨v1, vs1, d1, ds1, p1, q1, rfl, rfl, rfl, h1, r1⟩ := trodAll_cons r0
  obtain ⟨v2, vs2, d2, ds2, p2, q2, rfl, rfl, rfl, h2, r2⟩ := trodAll_cons r1
  obtain ⟨v3, vs3, d3, ds3, p3, q3, rfl, rfl, rfl, h3, r3⟩ := trodAll_cons r2
  obtain ⟨v4, vs4, d4, ds4, p4, q4, rfl, rfl, rfl, h4, r4⟩ := trodAll_cons r3
  obtain ⟨rfl, rfl, rfl⟩ := trodAll_nil r4
  obtain rfl : args = #[v0, v1, v2, v3, v4] := by cases args; simp_all
  obtain ⟨rfl, rfl⟩ := trodVars_none hV
  have k0 := h0
  have k1 := h1
  have k2 := h2
  have k3 := h3
  have k4 := h4
  have lt0 : ∀ x ∈ p0, x.block < W.heap.size := by obtain ⟨m, hm⟩ := k0; exact DataW.trod_lt m _ _ _ hm
  have lt1 : ∀ x ∈ p1, x.block < W.heap.size := by obtain ⟨m, hm⟩ := k1; exact DataW.trod_lt m _ _ _ hm
  have lt2 : ∀ x ∈ p2, x.block < W.heap.size := by obtain ⟨m, hm⟩ := k2; exact DataW.trod_lt m _ _ _ hm
  have lt3 : ∀ x ∈ p3, x.block < W.heap.size := by obtain ⟨m, hm⟩ := k3; exact DataW.trod_lt m _ _ _ hm
  have lt4 : ∀ x ∈ p4, x.block < W.heap.size := by obtain ⟨m, hm⟩ := k4; exact DataW.trod_lt m _ _ _ hm
  obtain ⟨a0, rfl, -, -, w0⟩ := open_int Try.underlying3 (hval 0 3 v0 rfl rfl) h0
  obtain ⟨e0, e1, e2, y0, y1, y2, n1, rfl, -, -, t0, t1, t2⟩ := open_agg3 Try.underlying40 (by kernel_rfl) cells40 (hval 1 40 v1 rfl rfl) h1
  obtain ⟨x, q10, -, wx⟩ := DataW.trod_int Try.underlying38 t0
  obtain ⟨y, q11, -, wy⟩ := DataW.trod_int Try.underlying38 t1
  obtain ⟨z, q12, -, wz⟩ := DataW.trod_int Try.underlying38 t2
  obtain rfl : e0 = .int .u32 x := by simpa using q10
  obtain rfl : e1 = .int .u32 y := by simpa using q11
  obtain rfl : e2 = .int .u32 z := by simpa using q12
  obtain ⟨f0, f1, f2, z0, z1, z2, n2, rfl, -, -, u0, u1, u2⟩ := open_agg3 Try.underlying43 (by kernel_rfl) cells43 (hval 2 43 v2 rfl rfl) h2
  obtain ⟨p', q20, -, wp⟩ := DataW.trod_int Try.underlying38 u0
  obtain ⟨q', q21, -, wq⟩ := DataW.trod_int Try.underlying41 u1
  obtain ⟨r', q22, -, wr⟩ := DataW.trod_int Try.underlying41 u2
  obtain rfl : f0 = .int .u32 p' := by simpa using q20
  obtain rfl : f1 = .int .u64 q' := by simpa using q21
  obtain rfl : f2 = .int .u64 r' := by simpa using q22
  obtain ⟨a3, rfl, -, -, w3⟩ := open_int Try.underlying3 (hval 3 3 v3 rfl rfl) h3
  obtain ⟨s, rfl, hs⟩ := open_eight Try.underlying45 Try.underlying41 cells41 cells45 (hval 4 45 v4 rfl rfl) h4
  clear hA0
  refine (walk a0 a3 x y z p' q' r' s W (u32_b wx) (u32_b wy) (u32_b wz) (u32_b wp) (u64_b wq) (u64_b wr) hs).mono fun e W' ⟨he, bel⟩ => ?_
  subst he
  exact ⟨_, rfl, _, _, _, [], _, [], hW', trodAll_mk1 (shut_bool Try.underlying4 _), (trodAll_cons_mk (Below.trod laidOut (by kernel_rfl) (of_decide_eq_true (by kernel_rfl)) k0 bel lt0) (trodAll_cons_mk (Below.trod laidOut (by kernel_rfl) (of_decide_eq_true (by kernel_rfl)) k1 bel lt1) (trodAll_cons_mk (Below.trod laidOut (by kernel_rfl) (of_decide_eq_true (by kernel_rfl)) k2 bel lt2) (trodAll_cons_mk (Below.trod laidOut (by kernel_rfl) (of_decide_eq_true (by kernel_rfl)) k3 bel lt3) (trodAll_cons_mk (Below.trod laidOut (by kernel_rfl) (of_decide_eq_true (by kernel_rfl)) k4 bel lt4) trodAll_mk0))))), rfl, bel.frame _, fun h => by cases h⟩
set_option maxRecDepth 100000 in
theorem lifted (os : Os) (started : os.Started) (H : Type) (enc : TypeId × Value → H) :
    ReturnsInHanded {} Try.checked os 4 .any (Rows.reelFormsSpec.pre6 enc Try.prog Try.f4 Rows.reelFormsRow.domain false) (Rows.reelFormsSpec.post enc Try.prog Try.f4 false true false false) := by
  refine returnsInHanded_of_change (C := Try.checked) own started (by kernel_rfl) Try.func4
    (ChangeSpec.witness6 (enc := enc) (C := Try.checked) false ⟨#[], #[.int .i64 0, .agg #[.int .u32 0, .int .u32 0, .int .u32 0], .agg #[.int .u32 0, .int .u64 0, .int .u64 0], .int .i64 0, .agg #[.int .u64 0, .int .u64 0, .int .u64 0, .int .u64 0, .int .u64 0, .int .u64 0, .int .u64 0, .int .u64 0]], []⟩ 8 (by kernel_rfl) (by kernel_rfl) (by kernel_rfl) (by kernel_rfl)) ?_
  intro W base args ds gs before hval0 hW hcnd _
  exact contract H enc W base args ds gs before hval0 hW
theorem over : Rows.reelFormsRow.holds Try.pinned (OpenSpec.ofChange Rows.reelFormsSpec) :=
  OpenClaim.holds_of_wide 4 Try.f4 rfl rfl rfl rfl rfl rfl rfl ⟨rfl, rfl, rfl, rfl, rfl⟩ rfl rfl rfl rfl rfl (by kernel_rfl) Try.func4 (by kernel_rfl)
    (of_decide_eq_true (by kernel_rfl)) (by unfold Func.isWrapper; first | (rw [if_pos (by decide +kernel)]; kernel_rfl) | (rw [if_neg (by decide +kernel)]; exact ⟨rfl, rfl⟩))
    (fun os started H enc _ => lifted os started H enc)
theorem proved : Rows.ReelFormsSaid :=
  over
end Go.Proofs.Ytfgjhljhjclegaa.reelForms
namespace Go.Proofs.Ytfgjhljhjclegaa
theorem reelForms_holds : Rows.ReelFormsSaid := reelForms.proved
#print axioms reelForms_holds
end Go.Proofs.Ytfgjhljhjclegaa
