import Derived.Test.YtlhpnhjfibkgpabNeK
import Derived.WalkKit
import Derived.ProofKit
import Derived.OpenShut
import Derived.ShutString
import Derived.ChangeOld
import Derived.Below
import Derived.SizedLaws
import Derived.Deep.Slices
import Derived.Lib.SmallJoins
namespace Go.Proofs.Ytlhpnhjfibkgpab.flowsNear
open Go.ChangeShapes Go.WideShapes Go.ChangeAt Go.RowKit Go.Joins Go.Deep
set_option linter.unusedVariables false
theorem own : ownKnob Try.prog.godebug = none := by kernel_rfl
theorem laidOut : laidOutB Try.prog = true := by kernel_rfl
theorem cellsG : Try.prog.cellsOf 24 = 2 := by kernel_rfl
theorem cellsE : Try.prog.cellsOf 53 = 3 := by kernel_rfl
theorem cells25 : Try.prog.cellsOf 26 = 1 := by kernel_rfl
theorem cells3 : Try.prog.cellsOf 3 = 1 := by kernel_rfl
theorem cells22 : Try.prog.cellsOf 22 = 1 := by kernel_rfl
theorem bytesE : Try.prog.bytesOf 53 = 12 := by kernel_rfl
theorem bytesU : Try.prog.bytesOf 26 = 4 := by kernel_rfl
theorem reach : reachBytes = 140737488351232 := by decide
theorem u32_b {a : Int} (h : (Lit.int .u32 a).wf = true) : 0 ≤ a ∧ a ≤ 4294967295 := by
  simp [Lit.wf, IntKind.min, IntKind.max, IntKind.signed, IntKind.bits] at h; omega
theorem array2 {α : Type} {cs : Array α} (h : cs.size = 2) : ∃ c0 c1, cs = #[c0, c1] := by
  obtain ⟨l⟩ := cs
  match l, h with
  | [c0, c1], _ => exact ⟨c0, c1, rfl⟩
section
variable {H : Type} {enc : TypeId × Value → H} {W : World} {base : Nat} {sp : Nat → Bool} {held : Bool}
set_option maxRecDepth 100000 in
/-- A list of edges. -/
theorem open_edges {v : Value} {fuel : Nat} {y : DataW H × List MemPlace} (hf : DataW.trod enc Try.prog W base sp held fuel 22 [v] = some y) (hw : ∀ n ∈ y.1.weights Try.prog 22, n ≤ reachBytes) :
    ∃ (a : Option Addr) (m c : Nat) (E : Nat → Int × Int × Int), v = .slice a m c ∧ Wp.IRow W a m E ∧ m * 12 ≤ 140737488351232 ∧ ∀ i, i < m → 0 ≤ (E i).1 ∧ 0 ≤ (E i).2.1 := by
  rcases Deep.open_slice Try.underlying22 hf with ⟨hcs, _⟩ | ⟨x, l, c, m, n, D, Pl, hcs, hb, hl, hm, hmm, rfl, hx⟩
  · simp at hcs
    exact ⟨_, _, _, fun _ => (0, 0, 0), hcs, fun h => by omega, by omega, fun i hi => by omega⟩
  · simp at hcs
    have hlm : l ≤ m := by rw [hmm]; split <;> omega
    have hwt := hw (m * 12) (by
      show m * 12 ∈ DataW.weights Try.prog 22 (DataW.slice _ _)
      rw [DataW.weights, Try.underlying22]
      simp only [List.length_map, List.length_range, bytesE]
      exact List.mem_cons.mpr (.inl (by rw [show l + (m - l) = m by omega])))
    rw [reach] at hwt
    have each : ∀ i, i < l → ∃ q : Int × Int × Int, (W.cell? (x.add (i * 3)) = some (.int .u32 q.1) ∧ W.cell? (x.add (i * 3 + 1)) = some (.int .u32 q.2.1) ∧ W.cell? (x.add (i * 3 + 2)) = some (.int .u32 q.2.2)) ∧ 0 ≤ q.1 ∧ 0 ≤ q.2.1 := by
      intro i hi
      obtain ⟨cs', h1, h2⟩ := hx i (by omega)
      rw [cellsE] at h1
      obtain ⟨_, hlen, hcell⟩ := World.cells?_some h1
      obtain ⟨xs, k, hk, hxy, _, hxl, hf⟩ := DataW.trod_struct Try.underlying53 h2
      match xs, hxl, cs', hlen with
      | [y0, y1, y2], _, [v0, v1, v2], _ =>
        have g0 := hf 0 _ rfl
        have g1 := hf 1 _ rfl
        have g2 := hf 2 _ rfl
        simp [cells25] at g0 g1 g2
        have e0 := hcell 0 (by omega)
        have e1 := hcell 1 (by omega)
        have e2 := hcell 2 (by omega)
        rw [Addr.add_add] at e0 e1 e2
        obtain ⟨a0, q0, _, w0⟩ := DataW.trod_int Try.underlying26 g0
        obtain ⟨a1, q1, _, w1⟩ := DataW.trod_int Try.underlying26 g1
        obtain ⟨a2, q2, _, w2⟩ := DataW.trod_int Try.underlying26 g2
        simp at q0 q1 q2
        subst q0 q1 q2
        exact ⟨(a0, a1, a2), ⟨by simpa using e0, by simpa using e1, by simpa using e2⟩, (u32_b w0).1, (u32_b w1).1⟩
    obtain ⟨q, hq⟩ := Deep.choose_lt each
    refine ⟨_, _, _, q, hcs, fun h0 => ⟨x, rfl, ?_, fun i hi => ?_⟩, by omega, fun i hi => (hq i hi).2⟩
    · have := World.block_lt_of_cell? _ _ (hq 0 h0).1.1
      rwa [Wp.add_block] at this
    · have h := (hq i hi).1
      rw [← Addr.add_add, ← Addr.add_add] at h
      exact h
set_option maxRecDepth 100000 in
theorem open_graph {r : Reach} {b0 : Nat} {v : Value} {d : DataW H} {ps : List MemPlace} (hval : Value.okWide Try.prog W r b0 24 v) (hd : DataW.Trod enc Try.prog W base sp held 24 v d ps) (hw : ∀ n ∈ d.weights Try.prog 24, n ≤ reachBytes) :
    ∃ (N : Int) (a : Option Addr) (m c : Nat) (E : Nat → Int × Int × Int), v = .agg #[.int .i64 N, .slice a m c] ∧ Wp.IRow W a m E ∧ m * 12 ≤ 140737488351232 ∧ ∀ i, i < m → 0 ≤ (E i).1 ∧ 0 ≤ (E i).2.1 := by
  obtain ⟨cs, rfl, hsz⟩ := okWide_struct Try.underlying24 hval
  obtain ⟨c0, c1, rfl⟩ := array2 (hsz.trans cellsG)
  obtain ⟨fuel, hf⟩ := hd
  obtain ⟨xs, n, hk, hxy, hl, hlen, hq⟩ := DataW.trod_struct Try.underlying24 hf
  match xs, hlen with
  | [y0, y1], _ =>
    have g0 := hq 0 _ rfl
    have g1 := hq 1 _ rfl
    simp [Value.cells, cells3, cells22] at g0 g1
    simp only [Prod.mk.injEq] at hxy
    have hD : d = .agg [y0.1, y1.1] := by simpa using hxy.1
    rw [hD, DataW.weights, Try.underlying24] at hw
    obtain ⟨a0, q0, _, _⟩ := DataW.trod_int Try.underlying3 g0
    obtain ⟨a, m, c, E, rfl, h1, h2, h3⟩ := open_edges g1 (fun q hq => hw q (DataW.weights_mem_each (j := 1) (t := 22) rfl rfl q hq))
    simp at q0
    subst q0
    exact ⟨a0, a, m, c, E, rfl, h1, h2, h3⟩
set_option maxRecDepth 100000 in
/-- A list of sources. -/
theorem open_srcs {v : Value} {fuel : Nat} {y : DataW H × List MemPlace} (hf : DataW.trod enc Try.prog W base sp held fuel 25 [v] = some y) (hw : ∀ n ∈ y.1.weights Try.prog 25, n ≤ reachBytes) :
    ∃ (a : Option Addr) (l c : Nat) (V : Nat → Nat), v = .slice a l c ∧ Wp.Vr W a l V ∧ l * 4 ≤ 140737488351232 := by
  rcases Deep.open_slice1 Try.underlying25 cells25 hf with ⟨hcs, _⟩ | ⟨x, l, c, m, n, V, D, Pl, hcs, hb, hl, hm, hmm, rfl, hx⟩
  · simp at hcs
    exact ⟨none, 0, 0, fun _ => 0, hcs, fun h => by omega, by omega⟩
  · simp at hcs
    have hlm : l ≤ m := by rw [hmm]; split <;> omega
    have hwt := hw (m * 4) (by
      show m * 4 ∈ DataW.weights Try.prog 25 (DataW.slice _ _)
      rw [DataW.weights, Try.underlying25]
      simp only [List.length_map, List.length_range, bytesU]
      exact List.mem_cons.mpr (.inl (by rw [show l + (m - l) = m by omega])))
    rw [reach] at hwt
    have each : ∀ i, i < l → ∃ q : Nat, W.cell? (x.add i) = some (.int .u32 (q : Int)) := by
      intro i hi
      obtain ⟨h1, h2⟩ := hx i (by omega)
      obtain ⟨a0, q0, _, w0⟩ := DataW.trod_int Try.underlying26 h2
      simp at q0
      have b0 := u32_b w0
      obtain ⟨n0, rfl⟩ : ∃ n : Nat, a0 = n := ⟨a0.toNat, by omega⟩
      exact ⟨n0, by rw [h1, q0]⟩
    obtain ⟨q, hq⟩ := Deep.choose_lt each
    refine ⟨some x, l, c, q, hcs, fun h0 => ⟨x, rfl, ?_, fun i hi => hq i hi⟩, by omega⟩
    have := World.block_lt_of_cell? _ _ (hq 0 h0)
    rwa [Wp.add_block] at this
end
set_option maxRecDepth 100000 in
theorem lifted (os : Os) (started : os.Started) (H : Type) (enc : TypeId × Value → H) :
    ReturnsInHanded {} Try.checked os 3 .any (Rows.flowsNearSpec.pre6 enc Try.prog Try.f3 Rows.flowsNearRow.domain false) (Rows.flowsNearSpec.post enc Try.prog Try.f3 false true false false) := by
  refine returnsInHanded_of_change_sized (C := Try.checked) own started (by kernel_rfl) Try.func3
    (ChangeSpec.witness6 (enc := enc) (C := Try.checked) false ⟨#[], #[.agg #[.int .i64 0, .slice none 0 0], .slice none 0 0], []⟩ 3 (by kernel_rfl) (by kernel_rfl) (by kernel_rfl) (by kernel_rfl)) ?_
  intro W base args ds gs before hval0 hW hcnd hsz _
  have hval : ∀ (j : Nat) t v, Try.f3.params[j]? = some t → args[j]? = some v → Value.okWide Try.prog W .any base t v := hval0
  have hW' := hW
  obtain ⟨p, q, hA0, hV, rfl, hfz, hnd⟩ := hW
  have hA : DataW.TrodAll enc Try.prog W 0 (fun _ => true) true Try.f3.params.toList args.toList ds p := hA0
  rw [Try.params3] at hA hval
  obtain ⟨v0, vs0, d0, ds0, p0, q0, hargs, rfl, rfl, h0, r0⟩ := trodAll_cons hA
  obtain ⟨v1, vs1, d1, ds1, p1, q1, hargs1, rfl, rfl, h1, r1⟩ := trodAll_cons r0
  obtain ⟨rfl, rfl, rfl⟩ := trodAll_nil r1
  obtain rfl : args = #[v0, v1] := by cases args; simp_all
  obtain ⟨rfl, rfl⟩ := trodVars_none hV
  have k0 := h0
  have lt0 : ∀ x ∈ p0, x.block < W.heap.size := by obtain ⟨m, hm⟩ := k0; exact DataW.trod_lt m _ _ _ hm
  obtain ⟨N, a, m, c, E, rfl, hR, hm, hE⟩ := open_graph (hval 0 24 v0 rfl rfl) h0 (fun n hn => by
    have h9 := List.all_eq_true.1 hsz n (DataW.weights_mem_each (P := Try.prog) (j := 0) (t := 24) (by rw [Try.params3]; rfl) rfl _ hn)
    simpa using h9)
  have k1 := h1
  have lt1 : ∀ x ∈ p1, x.block < W.heap.size := by obtain ⟨m, hm⟩ := k1; exact DataW.trod_lt m _ _ _ hm
  obtain ⟨a1, l1, c1, rfl⟩ := okWide_slice Try.underlying25 (hval 1 25 v1 rfl rfl)
  obtain ⟨fuel1, hf1⟩ := h1
  obtain ⟨sa, sl, sc, V, hoq, hsv, hsl⟩ := open_srcs (v := .slice a1 l1 c1) hf1 (fun n hn => by
    have h9 := List.all_eq_true.1 hsz n (DataW.weights_mem_each (P := Try.prog) (j := 1) (t := 25) (d := d1) (by rw [Try.params3]; rfl) rfl _ hn)
    simpa using h9)
  cases hoq
  clear hA0 hval0
  have key := Wp.fnear_any N a m c E (by omega) a1 l1 c1 V (by omega) W hR hE hsv
  refine key.mono fun e W' ⟨he, bel⟩ => ?_
  subst he
  exact ⟨_, rfl, _, _, _, [], _, [], hW', trodAll_mk1 (shut_bool Try.underlying4 _), (trodAll_cons_mk (Below.trod laidOut (by kernel_rfl) (of_decide_eq_true (by kernel_rfl)) k0 bel lt0) (trodAll_cons_mk (Below.trod laidOut (by kernel_rfl) (of_decide_eq_true (by kernel_rfl)) k1 bel lt1) trodAll_mk0)), rfl, bel.frame _, fun h => by cases h⟩
theorem over : Rows.flowsNearRow.holds Try.pinned (OpenSpec.ofChange Rows.flowsNearSpec) :=
  OpenClaim.holds_of_wide 3 Try.f3 rfl rfl rfl rfl rfl rfl rfl ⟨rfl, rfl, rfl, rfl, rfl⟩ rfl rfl rfl rfl rfl (by kernel_rfl) Try.func3 (by kernel_rfl)
    (of_decide_eq_true (by kernel_rfl)) (by unfold Func.isWrapper; first | (rw [if_pos (by decide +kernel)]; kernel_rfl) | (rw [if_neg (by decide +kernel)]; exact ⟨rfl, rfl⟩))
    (fun os started H enc _ => lifted os started H enc)
end Go.Proofs.Ytlhpnhjfibkgpab.flowsNear
namespace Go.Proofs.Ytlhpnhjfibkgpab
theorem flowsNear_holds : Rows.FlowsNearSaid := flowsNear.over
#print axioms flowsNear_holds
end Go.Proofs.Ytlhpnhjfibkgpab
