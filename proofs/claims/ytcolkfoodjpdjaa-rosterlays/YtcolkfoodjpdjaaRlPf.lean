import Derived.Test.YtcolkfoodjpdjaaRows
import Derived.Test.YtcolkfoodjpdjaaRlN
import Derived.WalkKit
import Derived.ProofKit
import Derived.OpenShut
import Derived.ShutString
import Derived.ChangeOld
import Derived.Below
import Derived.SizedLaws
import Derived.Deep.Slices
import Derived.Deep.SlicePairs
import Derived.Deep.DeepHandedRow
namespace Go.Proofs.Ytcolkfoodjpdjaa.rosterLays
open Go.ChangeShapes Go.WideShapes Go.ChangeAt Go.RowKit
set_option linter.unusedVariables false
theorem own : ownKnob Try.prog.godebug = none := by kernel_rfl
theorem laidOut : laidOutB Try.prog = true := by kernel_rfl
theorem cellsE : Try.prog.cellsOf 31 = 2 := by kernel_rfl
theorem cellsS : Try.prog.cellsOf 37 = 2 := by kernel_rfl
theorem cells9 : Try.prog.cellsOf 9 = 1 := by kernel_rfl
theorem cells25 : Try.prog.cellsOf 25 = 1 := by kernel_rfl
theorem bytesE : Try.prog.bytesOf 31 = 32 := by kernel_rfl
theorem bytesS : Try.prog.bytesOf 37 = 40 := by kernel_rfl
theorem reach : reachBytes = 140737488351232 := by decide
instance : Inhabited Ra.Dt := ⟨⟨.empty, 0, fun _ => (.empty, .empty)⟩⟩
section
variable {H : Type} {enc : TypeId × Value → H} {W : World} {base : Nat} {sp : Nat → Bool} {held : Bool}
theorem all_mem {P : Program} {e : TypeId} {l : List (DataW H)} {d : DataW H} (hd : d ∈ l) {n : Nat} (hn : n ∈ d.weights P e) : n ∈ DataW.weightsAll P e l := by
  induction l with
  | nil => cases hd
  | cons a l ih =>
    rw [DataW.weightsAll]
    rcases List.mem_cons.mp hd with rfl | h
    · exact List.mem_append.mpr (.inl hn)
    · exact List.mem_append.mpr (.inr (ih h))
set_option maxRecDepth 100000 in
theorem open_ents {fuel : Nat} {v : Value} {y : DataW H × List MemPlace} (h : DataW.trod enc Try.prog W base sp held fuel 25 [v] = some y) (hw : ∀ n ∈ y.1.weights Try.prog 25, n ≤ reachBytes) :
    ∃ a l c, ∃ E : Nat → Ra.En, v = .slice a l c ∧ (a = none → c = 0) ∧ Ra.ERow W a l E ∧ l ≤ 140737488351232 ∧ ∀ j, j < l → (E j).1.size ≤ 140737488351232 := by
  rcases Deep.open_slice_pairs Try.underlying25 Try.underlying31 cellsE rfl rfl cells9 cells9 h with ⟨hcs, _⟩ | ⟨x, l, c, m, n, V0, V1, D0, D1, P0, P1, hcs, hb, hl, hm, hmm, rfl, hx⟩
  · simp at hcs; exact ⟨none, 0, 0, fun _ => (.empty, .empty), hcs, fun _ => rfl, fun h => by omega, by omega, fun j hj => by omega⟩
  · simp at hcs
    have hlm : l ≤ m := by rw [hmm]; split <;> omega
    have hwt := hw (m * 32) (by
      show m * 32 ∈ DataW.weights Try.prog 25 (DataW.slice _ _)
      rw [DataW.weights, Try.underlying25]
      simp only [List.length_map, List.length_range, bytesE]
      exact List.mem_cons.mpr (.inl (by rw [show l + (m - l) = m by omega])))
    rw [reach] at hwt
    have each : ∀ i, i < l → ∃ q : Ra.En, (W.cell? (x.add (i * 2)) = some (.string q.1) ∧ W.cell? (x.add (i * 2 + 1)) = some (.string q.2)) ∧ q.1.size ≤ 140737488351232 := by
      intro i hi
      obtain ⟨c0, c1, g0, g1⟩ := hx i (by omega)
      obtain ⟨s0, q0, r0, _⟩ := DataW.trod_string Try.underlying9 g0
      obtain ⟨s1, q1, r1, _⟩ := DataW.trod_string Try.underlying9 g1
      simp at q0 q1 r0
      refine ⟨(s0, s1), ⟨by rw [c0, q0], by rw [c1, q1]⟩, ?_⟩
      have hs := hw s0.data.toList.length (by
        show _ ∈ DataW.weights Try.prog 25 (DataW.slice _ _)
        rw [DataW.weights, Try.underlying25]
        refine List.mem_cons.mpr (.inr (List.mem_append.mpr (.inl (all_mem (d := .agg [D0 i, D1 i]) (List.mem_map.mpr ⟨i, List.mem_range.mpr hi, rfl⟩) ?_))))
        rw [DataW.weights, Try.underlying31]
        show _ ∈ DataW.weights Try.prog 9 (D0 i) ++ _
        rw [r0.1, DataW.weights]
        simp)
      rw [reach] at hs
      have : s0.size = s0.data.toList.length := by simp
      show s0.size ≤ _
      omega
    obtain ⟨E, hE⟩ := Deep.choose_lt each
    refine ⟨some x, l, c, E, hcs, (fun e => by cases e), (fun h0 => ⟨x, rfl, ?_, fun i hi => (hE i hi).1⟩), by omega, fun j hj => (hE j hj).2⟩
    have := World.block_lt_of_cell? _ _ (hE 0 h0).1.1
    rwa [Ra.add_block] at this
set_option maxRecDepth 100000 in
theorem open_secs {a : Option Addr} {len cap : Nat} {d : DataW H} {ps : List MemPlace} (hd : DataW.Trod enc Try.prog W base sp held 22 (.slice a len cap) d ps) (hw : ∀ n ∈ d.weights Try.prog 22, n ≤ reachBytes) :
    ∃ D : Nat → Ra.Dt, Ra.SRow W a len D ∧ len ≤ 140737488351232 ∧ (∀ i, i < len → (D i).l ≤ 140737488351232) ∧ Ra.Bd D len := by
  obtain ⟨fuel, hf⟩ := hd
  rcases Deep.open_slice_pairs Try.underlying22 Try.underlying37 cellsS rfl rfl cells9 cells25 hf with ⟨hcs, _⟩ | ⟨x, l, c, m, n, V0, V1, D0, D1, P0, P1, hcs, hb, hl, hm, hmm, hxx, hx⟩
  · simp [Value.cells] at hcs
    obtain ⟨rfl, rfl, rfl⟩ := hcs
    exact ⟨fun _ => default, fun h => by omega, by omega, fun i hi => by omega, fun i hi => by omega⟩
  · simp [Value.cells] at hcs
    obtain ⟨rfl, rfl, rfl⟩ := hcs
    have hlm : len ≤ m := by rw [hmm]; split <;> omega
    simp only [Prod.mk.injEq] at hxx
    obtain ⟨rfl, _⟩ := hxx
    have hwt := hw (m * 40) (by
      rw [DataW.weights, Try.underlying22]
      simp only [List.length_map, List.length_range, bytesS]
      exact List.mem_cons.mpr (.inl (by rw [show len + (m - len) = m by omega])))
    rw [reach] at hwt
    have each : ∀ i, i < len → ∃ q : Ra.Dt, (W.cell? (x.add (i * 2)) = some (.string q.nm) ∧ ∃ a c, W.cell? (x.add (i * 2 + 1)) = some (.slice a q.l c) ∧ (a = none → c = 0) ∧ Ra.ERow W a q.l q.E) ∧ q.l ≤ 140737488351232 ∧ q.nm.size ≤ 140737488351232 ∧ ∀ j, j < q.l → (q.E j).1.size ≤ 140737488351232 := by
      intro i hi
      have hwi : ∀ q ∈ DataW.weights Try.prog 37 (DataW.agg [D0 i, D1 i]), q ≤ reachBytes := by
        intro q hq
        refine hw q ?_
        rw [DataW.weights, Try.underlying22]
        exact List.mem_cons.mpr (.inr (List.mem_append.mpr (.inl (all_mem (d := .agg [D0 i, D1 i]) (List.mem_map.mpr ⟨i, List.mem_range.mpr hi, rfl⟩) hq))))
      obtain ⟨c0, c1, g0, g1⟩ := hx i (by omega)
      obtain ⟨s0, q0, r0, _⟩ := DataW.trod_string Try.underlying9 g0
      rw [DataW.weights, Try.underlying37] at hwi
      obtain ⟨a1, l1, k1, E, hv, hn, hE, hl1, hs1⟩ := open_ents g1 (fun q hq => hwi q (DataW.weights_mem_each (j := 1) (t := 25) rfl rfl q hq))
      simp at q0 r0
      have hs := hwi s0.data.toList.length (DataW.weights_mem_each (j := 0) (t := 9) (d := D0 i) rfl rfl _ (by rw [r0.1, DataW.weights]; simp))
      rw [reach] at hs
      have : s0.size = s0.data.toList.length := by simp
      exact ⟨⟨s0, l1, E⟩, ⟨by rw [c0, q0], a1, k1, by rw [c1, hv], hn, hE⟩, hl1, by show s0.size ≤ _; omega, hs1⟩
    obtain ⟨D, hD⟩ := Deep.choose_lt each
    refine ⟨D, (fun h0 => ⟨x, rfl, ?_, fun i hi => (hD i hi).1⟩), by omega, fun i hi => (hD i hi).2.1, fun i hi => (hD i hi).2.2⟩
    have := World.block_lt_of_cell? _ _ (hD 0 h0).1.1
    rwa [Ra.add_block] at this
end
set_option maxRecDepth 100000 in
theorem lifted (os : Os) (started : os.Started) (H : Type) (enc : TypeId × Value → H) :
    ReturnsInHanded {} Try.checked os 4 .any (Rows.rosterLaysSpec.pre6 enc Try.prog Try.f4 Rows.rosterLaysRow.domain false) (Rows.rosterLaysSpec.post enc Try.prog Try.f4 false true false false) := by
  refine returnsInHanded_of_change_sized (C := Try.checked) own started (by kernel_rfl) Try.func4
    (ChangeSpec.witness6 (enc := enc) (C := Try.checked) false ⟨#[], #[.slice none 0 0, .slice none 0 0], []⟩ 8 (by kernel_rfl) (by kernel_rfl) (by kernel_rfl) (by kernel_rfl)) ?_
  intro W base args ds gs before hval0 hW hcnd hsz _
  have hval : ∀ (j : Nat) t v, Try.f4.params[j]? = some t → args[j]? = some v → Value.okWide Try.prog W .any base t v := hval0
  have hW' := hW
  obtain ⟨p, q, hA0, hV, rfl, hfz, hnd⟩ := hW
  have hA : DataW.TrodAll enc Try.prog W 0 (fun _ => true) true Try.f4.params.toList args.toList ds p := hA0
  rw [Try.params4] at hA hval
  obtain ⟨v0, vs0, d0, ds0, p0, q0, hargs, rfl, rfl, h0, r0⟩ := trodAll_cons hA
  obtain ⟨v1, vs1, d1, ds1, p1, q1, rfl, rfl, rfl, h1, r1⟩ := trodAll_cons r0
  obtain ⟨rfl, rfl, rfl⟩ := trodAll_nil r1
  obtain rfl : args = #[v0, v1] := by cases args; simp_all
  obtain ⟨rfl, rfl⟩ := trodVars_none hV
  obtain ⟨a0, len0, cap0, rfl⟩ := okWide_slice Try.underlying22 (hval 0 22 v0 rfl rfl)
  have k0 := h0
  have lt0 : ∀ x ∈ p0, x.block < W.heap.size := by obtain ⟨m, hm⟩ := k0; exact DataW.trod_lt m _ _ _ hm
  obtain ⟨D, hS, hl, hlk, hbd⟩ := open_secs h0 (fun n hn => by
    have h9 := List.all_eq_true.1 hsz n (DataW.weights_mem_each (P := Try.prog) (j := 0) (t := 22) (by rw [Try.params4]; rfl) rfl _ hn)
    simpa using h9)
  obtain ⟨a1, len1, cap1, rfl⟩ := okWide_slice Try.underlying22 (hval 1 22 v1 rfl rfl)
  have k1 := h1
  have lt1 : ∀ x ∈ p1, x.block < W.heap.size := by obtain ⟨m, hm⟩ := k1; exact DataW.trod_lt m _ _ _ hm
  obtain ⟨O, hS1, hl1, hlk1, hbd1⟩ := open_secs h1 (fun n hn => by
    have h9 := List.all_eq_true.1 hsz n (DataW.weights_mem_each (P := Try.prog) (j := 1) (t := 22) (by rw [Try.params4]; rfl) rfl _ hn)
    simpa using h9)
  clear hA0 hval0
  refine (Rl.law_any a0 a1 len0 cap0 len1 cap1 D O W (by omega) (by omega) hlk hlk1 hbd hbd1 hS hS1).mono fun e W' ⟨he, bel⟩ => ?_
  subst he
  exact ⟨_, rfl, _, _, _, [], _, [], hW', trodAll_mk1 (shut_bool Try.underlying4 _), (trodAll_cons_mk (Below.trod laidOut (by kernel_rfl) (of_decide_eq_true (by kernel_rfl)) k0 bel lt0) (trodAll_cons_mk (Below.trod laidOut (by kernel_rfl) (of_decide_eq_true (by kernel_rfl)) k1 bel lt1) trodAll_mk0)), rfl, bel.frame _, fun h => by cases h⟩
theorem over : Rows.rosterLaysRow.holds Try.pinned (OpenSpec.ofChange Rows.rosterLaysSpec) :=
  OpenClaim.holds_of_wide 4 Try.f4 rfl rfl rfl rfl rfl rfl rfl ⟨rfl, rfl, rfl, rfl, rfl⟩ rfl rfl rfl rfl rfl (by kernel_rfl) Try.func4 (by kernel_rfl)
    (of_decide_eq_true (by kernel_rfl)) (by unfold Func.isWrapper; first | (rw [if_pos (by decide +kernel)]; kernel_rfl) | (rw [if_neg (by decide +kernel)]; exact ⟨rfl, rfl⟩))
    (fun os started H enc _ => lifted os started H enc)
end Go.Proofs.Ytcolkfoodjpdjaa.rosterLays
namespace Go.Proofs.Ytcolkfoodjpdjaa
theorem rosterLays_holds : Rows.RosterLaysSaid := rosterLays.over
#print axioms rosterLays_holds
end Go.Proofs.Ytcolkfoodjpdjaa
