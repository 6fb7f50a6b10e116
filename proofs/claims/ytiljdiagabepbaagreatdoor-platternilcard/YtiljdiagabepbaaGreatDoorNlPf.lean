import Derived.Test.YtiljdiagabepbaaGreatDoorCards
import Derived.Test.YtiljdiagabepbaaGreatDoorTie
import Derived.Test.YtiljdiagabepbaaGreatDoorNlQ
import Derived.WalkKit
import Derived.ProofKit
import Derived.OpenShut
import Derived.ShutString
import Derived.ChangeOld
import Derived.Below
import Derived.SizedLaws
import Derived.Deep.Slices
import Derived.Deep.DeepHandedRow
namespace Go.Proofs.YtiljdiagabepbaaGreatDoor.platterNil
open Go.ChangeShapes Go.WideShapes Go.ChangeAt Go.RowKit
set_option linter.unusedVariables false

theorem own : ownKnob Tryz.prog.godebug = none := by kernel_rfl
theorem laidOut : laidOutB Tryz.prog = true := by kernel_rfl
theorem cellsO : Tryz.prog.cellsOf 38 = 8 := by kernel_rfl
theorem cellsF : Tryz.prog.cellsOf 64 = 3 := by kernel_rfl
theorem cells2 : Tryz.prog.cellsOf 2 = 1 := by kernel_rfl
theorem cells3 : Tryz.prog.cellsOf 3 = 1 := by kernel_rfl
theorem cells9 : Tryz.prog.cellsOf 9 = 1 := by kernel_rfl
theorem cells34 : Tryz.prog.cellsOf 34 = 1 := by kernel_rfl
theorem cells35 : Tryz.prog.cellsOf 35 = 1 := by kernel_rfl
theorem cells36 : Tryz.prog.cellsOf 36 = 1 := by kernel_rfl
theorem bytes2 : Tryz.prog.bytesOf 2 = 8 := by kernel_rfl
theorem bytes64 : Tryz.prog.bytesOf 64 = 24 := by kernel_rfl
section
variable {H : Type} {enc : TypeId × Value → H} {W : World} {base : Nat} {sp : Nat → Bool} {held : Bool}
theorem all_mem {P : Program} {e : TypeId} {l : List (DataW H)} {d : DataW H} (hd : d ∈ l) {n : Nat} (hn : n ∈ d.weights P e) : n ∈ DataW.weightsAll P e l := by
  induction l with
  | nil => cases hd
  | cons a l ih =>
    rw [DataW.weightsAll]
    rcases List.mem_cons.mp hd with rfl | h
    · exact List.mem_append.mpr (.inl hn)
    · exact List.mem_append.mpr (.inr (ih h))
theorem open_bytes {fuel : Nat} {v : Value} {y : DataW H × List MemPlace} (h : DataW.trod enc Tryz.prog W base sp held fuel 34 [v] = some y) : ∃ a l c, v = .slice a l c := by
  rcases Deep.open_slice Tryz.underlying34 h with ⟨hcs, _⟩ | ⟨x, l, c, m, n, D, Pl, hcs, _⟩
  · simp at hcs; exact ⟨_, _, _, hcs⟩
  · simp at hcs; exact ⟨_, _, _, hcs⟩
set_option maxRecDepth 100000 in
theorem open_keep {fuel : Nat} {v : Value} {y : DataW H × List MemPlace} (h : DataW.trod enc Tryz.prog W base sp held fuel 35 [v] = some y) (hw : ∀ n ∈ y.1.weights Tryz.prog 35, n ≤ reachBytes) : ∃ a l c, v = .slice a l c ∧ Nl.KRow W a l := by
  rcases Deep.open_slice Tryz.underlying35 h with ⟨hcs, _⟩ | ⟨x, l, c, m, n, D, Pl, hcs, hb, hl, hm, hmm, rfl, hx⟩
  · simp at hcs; exact ⟨_, _, _, hcs, by omega, fun h => by omega⟩
  · simp at hcs
    have hlm : l ≤ m := by rw [hmm]; split <;> omega
    have hwt := hw (m * 8) (by
      show m * 8 ∈ DataW.weights Tryz.prog 35 (DataW.slice _ _)
      rw [DataW.weights, Tryz.underlying35]
      simp only [List.length_map, List.length_range, bytes2]
      exact List.mem_cons.mpr (.inl (by rw [show l + (m - l) = m by omega])))
    have hr : reachBytes = 140737488351232 := by decide
    have each : ∀ i, i < l → ∃ z : Int, W.cell? (x.add i) = some (.int .i64 z) := by
      intro i hi
      obtain ⟨cs', h1, h2⟩ := hx i (by omega)
      rw [cells2] at h1
      obtain ⟨_, hlen, hcell⟩ := World.cells?_some h1
      match cs', hlen with
      | [v0], _ =>
        have e0 := hcell 0 (by omega)
        rw [Addr.add_add] at e0
        obtain ⟨a0, q0, _, w0⟩ := DataW.trod_int Tryz.underlying2 h2
        simp at q0
        subst q0
        exact ⟨a0, by simpa using e0⟩
    refine ⟨_, _, _, hcs, by omega, fun h0 => ⟨x, rfl, ?_, each⟩⟩
    obtain ⟨_, e0⟩ := each 0 h0
    have := World.block_lt_of_cell? _ _ e0
    rwa [Nl.add_block] at this
set_option maxRecDepth 100000 in
theorem open_faults {fuel : Nat} {v : Value} {y : DataW H × List MemPlace} (h : DataW.trod enc Tryz.prog W base sp held fuel 36 [v] = some y) (hw : ∀ n ∈ y.1.weights Tryz.prog 36, n ≤ reachBytes) : ∃ a l c, v = .slice a l c ∧ Nl.FRow W a l := by
  rcases Deep.open_slice Tryz.underlying36 h with ⟨hcs, _⟩ | ⟨x, l, c, m, n, D, Pl, hcs, hb, hl, hm, hmm, rfl, hx⟩
  · simp at hcs; exact ⟨_, _, _, hcs, by omega, fun h => by omega⟩
  · simp at hcs
    have hlm : l ≤ m := by rw [hmm]; split <;> omega
    have hwt := hw (m * 24) (by
      show m * 24 ∈ DataW.weights Tryz.prog 36 (DataW.slice _ _)
      rw [DataW.weights, Tryz.underlying36]
      simp only [List.length_map, List.length_range, bytes64]
      exact List.mem_cons.mpr (.inl (by rw [show l + (m - l) = m by omega])))
    have hr : reachBytes = 140737488351232 := by decide
    have each : ∀ i, i < l → ∃ z0 z1 z2 : Int, W.cell? (x.add (i * 3)) = some (.int .i64 z0) ∧ W.cell? (x.add (i * 3 + 1)) = some (.int .i64 z1) ∧ W.cell? (x.add (i * 3 + 2)) = some (.int .i64 z2) := by
      intro i hi
      obtain ⟨cs', h1, h2⟩ := hx i (by omega)
      rw [cellsF] at h1
      obtain ⟨_, hlen, hcell⟩ := World.cells?_some h1
      obtain ⟨xs, k, hk, hxy, _, hxl, hf⟩ := DataW.trod_struct Tryz.underlying64 h2
      match xs, hxl, cs', hlen with
      | [y0, y1, y2], _, [v0, v1, v2], _ =>
        have g0 := hf 0 _ rfl
        have g1 := hf 1 _ rfl
        have g2 := hf 2 _ rfl
        simp [cells2, cells3] at g0 g1 g2
        have e0 := hcell 0 (by omega)
        have e1 := hcell 1 (by omega)
        have e2 := hcell 2 (by omega)
        rw [Addr.add_add] at e0 e1 e2
        obtain ⟨a0, q0, _, w0⟩ := DataW.trod_int Tryz.underlying2 g0
        obtain ⟨a1, q1, _, w1⟩ := DataW.trod_int Tryz.underlying3 g1
        obtain ⟨a2, q2, _, w2⟩ := DataW.trod_int Tryz.underlying2 g2
        simp at q0 q1 q2
        subst q0 q1 q2
        exact ⟨a0, a1, a2, by simpa using e0, by simpa using e1, by simpa using e2⟩
    refine ⟨_, _, _, hcs, by omega, fun h0 => ⟨x, rfl, ?_, each⟩⟩
    obtain ⟨_, _, _, e0, _⟩ := each 0 h0
    have := World.block_lt_of_cell? _ _ e0
    rwa [Nl.add_block] at this
set_option maxRecDepth 100000 in
/-- A list of calls. -/
theorem open_ops {a : Option Addr} {len cap : Nat} {d : DataW H} {ps : List MemPlace} (hd : DataW.Trod enc Tryz.prog W base sp held 22 (.slice a len cap) d ps) (hw : ∀ n ∈ d.weights Tryz.prog 22, n ≤ reachBytes) : ∃ F, Nl.ORow W a len F := by
  obtain ⟨fuel, hf⟩ := hd
  have hdflt : Inhabited Nl.OpF := ⟨⟨0, .empty, .empty, none, 0, 0, 0, 0, none, 0, 0, none, 0, 0⟩⟩
  rcases Deep.open_slice Tryz.underlying22 hf with ⟨hcs, _⟩ | ⟨x, l, c, m, n, D, Pl, hcs, hb, hl, hm, hmm, hxx, hx⟩
  · simp [Value.cells] at hcs
    obtain ⟨rfl, rfl, rfl⟩ := hcs
    exact ⟨fun _ => default, by omega, fun h => by omega⟩
  · simp [Value.cells] at hcs
    obtain ⟨rfl, rfl, rfl⟩ := hcs
    have hlm : len ≤ m := by rw [hmm]; split <;> omega
    unfold maxLen at hm
    simp only [Prod.mk.injEq] at hxx
    obtain ⟨rfl, _⟩ := hxx
    have each : ∀ i, i < len → ∃ f : Nl.OpF,
        (W.cell? (x.add (i * 8)) = some (.int .i64 f.k) ∧ W.cell? (x.add (i * 8 + 1)) = some (.string f.s) ∧ W.cell? (x.add (i * 8 + 2)) = some (.string f.t) ∧ W.cell? (x.add (i * 8 + 3)) = some (.slice f.da f.dl f.dc) ∧ W.cell? (x.add (i * 8 + 4)) = some (.int .i64 f.at') ∧ W.cell? (x.add (i * 8 + 5)) = some (.int .i64 f.n) ∧ W.cell? (x.add (i * 8 + 6)) = some (.slice f.ka f.kl f.kc) ∧ W.cell? (x.add (i * 8 + 7)) = some (.slice f.pa f.pl f.pc)) ∧ Nl.KRow W f.ka f.kl ∧ Nl.FRow W f.pa f.pl := by
      intro i hi
      have hwi : ∀ q ∈ (D i).weights Tryz.prog 38, q ≤ reachBytes := by
        intro q hq
        refine hw q ?_
        rw [DataW.weights, Tryz.underlying22]
        refine List.mem_cons.mpr (.inr (List.mem_append.mpr (.inl (all_mem ?_ hq))))
        exact List.mem_map.mpr ⟨i, List.mem_range.mpr hi, rfl⟩
      obtain ⟨cs', h1, h2⟩ := hx i (by omega)
      rw [cellsO] at h1
      obtain ⟨_, hlen, hcell⟩ := World.cells?_some h1
      obtain ⟨xs, k, hk, hxy, _, hxl, hf⟩ := DataW.trod_struct Tryz.underlying38 h2
      match xs, hxl, cs', hlen with
      | [y0, y1, y2, y3, y4, y5, y6, y7], _, [v0, v1, v2, v3, v4, v5, v6, v7], _ =>
        have g0 := hf 0 _ rfl
        have g1 := hf 1 _ rfl
        have g2 := hf 2 _ rfl
        have g3 := hf 3 _ rfl
        have g4 := hf 4 _ rfl
        have g5 := hf 5 _ rfl
        have g6 := hf 6 _ rfl
        have g7 := hf 7 _ rfl
        simp [cells2, cells3, cells9, cells34, cells35, cells36] at g0 g1 g2 g3 g4 g5 g6 g7
        have e0 := hcell 0 (by omega)
        have e1 := hcell 1 (by omega)
        have e2 := hcell 2 (by omega)
        have e3 := hcell 3 (by omega)
        have e4 := hcell 4 (by omega)
        have e5 := hcell 5 (by omega)
        have e6 := hcell 6 (by omega)
        have e7 := hcell 7 (by omega)
        rw [Addr.add_add] at e0 e1 e2 e3 e4 e5 e6 e7
        simp only [Prod.mk.injEq] at hxy
        have hD : D i = .agg [y0.1, y1.1, y2.1, y3.1, y4.1, y5.1, y6.1, y7.1] := by simpa using hxy.1
        rw [hD, DataW.weights, Tryz.underlying38] at hwi
        obtain ⟨a0, q0, _, _⟩ := DataW.trod_int Tryz.underlying3 g0
        obtain ⟨a1, q1, _, _⟩ := DataW.trod_string Tryz.underlying9 g1
        obtain ⟨a2, q2, _, _⟩ := DataW.trod_string Tryz.underlying9 g2
        obtain ⟨b3, l3, c3, rfl⟩ := open_bytes g3
        obtain ⟨a4, q4, _, _⟩ := DataW.trod_int Tryz.underlying2 g4
        obtain ⟨a5, q5, _, _⟩ := DataW.trod_int Tryz.underlying3 g5
        obtain ⟨b6, l6, c6, rfl, hK⟩ := open_keep g6 (fun q hq => hwi q (DataW.weights_mem_each (j := 6) (t := 35) rfl rfl q hq))
        obtain ⟨b7, l7, c7, rfl, hF⟩ := open_faults g7 (fun q hq => hwi q (DataW.weights_mem_each (j := 7) (t := 36) rfl rfl q hq))
        simp at q0 q1 q2 q4 q5
        subst q0 q1 q2 q4 q5
        exact ⟨⟨a0, a1, a2, b3, l3, c3, a4, a5, b6, l6, c6, b7, l7, c7⟩, ⟨by simpa using e0, by simpa using e1, by simpa using e2, by simpa using e3, by simpa using e4, by simpa using e5, by simpa using e6, by simpa using e7⟩, hK, hF⟩
    obtain ⟨q, hq⟩ := Deep.choose_lt each
    refine ⟨q, by omega, fun h => ⟨x, rfl, ?_, fun i hi => hq i hi⟩⟩
    have := World.block_lt_of_cell? _ _ (hq 0 h).1.1
    rwa [Nl.add_block] at this
end

set_option maxRecDepth 100000 in
theorem contract (H : Type) (enc : TypeId × Value → H) (W : World) (base : Nat) (args : Array Value) (ds gs : List (DataW H)) (before : List MemPlace)
    (hval : ∀ (j : Nat) t v, Tryz.f3.params[j]? = some t → args[j]? = some v → Value.okWide Tryz.prog W .any base t v)
    (hW : DataW.Whole enc Tryz.prog Tryz.f3.params.toList Rows.platterNilSpec.vars false W args.toList ds gs before)
    (hz : (DataW.weightsEach Tryz.prog (Tryz.f3.params.toList ++ (OpenSpec.ofChange Rows.platterNilSpec).bare.plain.varTypes Tryz.prog) (ds ++ gs)).all (· ≤ reachBytes) = true) :
    Calls Tryz.prog 3 args W fun e W' => ∃ v, e = .returned v ∧ Rows.platterNilSpec.post enc Tryz.prog Tryz.f3 false true false false W args v W' := by
  have hW' := hW
  obtain ⟨p, q, hA0, hV, rfl, hfz, hnd⟩ := hW
  have hA : DataW.TrodAll enc Tryz.prog W 0 (fun _ => true) true Tryz.f3.params.toList args.toList ds p := hA0
  rw [Tryz.params3] at hA hval hz
  obtain ⟨v0, vs0, d0, ds0, p0, q0, hargs, rfl, rfl, h0, r0⟩ := trodAll_cons hA
  obtain ⟨rfl, rfl, rfl⟩ := trodAll_nil r0
  obtain rfl : args = #[v0] := by cases args; simp_all
  obtain ⟨rfl, rfl⟩ := trodVars_none hV
  obtain ⟨a0, len0, cap0, rfl⟩ := okWide_slice Tryz.underlying22 (hval 0 22 v0 rfl rfl)
  have k0 := h0
  have lt0 : ∀ x ∈ p0, x.block < W.heap.size := by obtain ⟨m, hm⟩ := k0; exact DataW.trod_lt m _ _ _ hm
  obtain ⟨F, hz0⟩ := open_ops h0 (fun n hn => by
    have hm := DataW.weights_mem_each (P := Tryz.prog) (ts := #[22].toList ++ (OpenSpec.ofChange Rows.platterNilSpec).bare.plain.varTypes Tryz.prog) (ds := [d0] ++ []) (j := 0) (t := 22) (d := d0) rfl rfl n hn
    have := List.all_eq_true.mp hz n hm
    simpa using this)
  clear hA0
  refine (Nl.nil_walk a0 len0 cap0 F W hz0).mono fun e W' ⟨he, bel⟩ => ?_
  subst he
  exact ⟨_, rfl, _, _, _, [], _, [], hW', trodAll_mk1 (shut_bool Tryz.underlying4 _), (trodAll_cons_mk (Below.trod laidOut (by kernel_rfl) (of_decide_eq_true (by kernel_rfl)) k0 bel lt0) trodAll_mk0), rfl, bel.frame _, fun h => by cases h⟩

noncomputable def laidWorld (os : Os) : World :=
  { World.holding Tryz.prog os ⟨#[], #[], []⟩ with heap := (World.holding Tryz.prog os ⟨#[], #[], []⟩).heap.modify 0 fun
      | .cells _ t frozen => .cells #[.int .u8 0, .int .u8 1, .int .u8 1, .int .u8 1, .int .u8 2, .int .u8 2, .int .u8 4, .int .u8 3, .int .u8 15, .int .u8 15] t frozen
      | o => o }
def wargs : Array Value := #[.slice none 0 0]
set_option maxRecDepth 100000 in
theorem laid_met (os : Os) : laidMet Tryz.prog Rows.platterNilRow.laid ((laidWorld os).forCall (fun _ _ => 0) ⟨#[], wargs, []⟩).memory :=
  laidMet_of_run' 8 (by kernel_rfl) (by kernel_rfl)
set_option maxRecDepth 100000 in
theorem reads (os : Os) {H : Type} (enc : TypeId × Value → H) : ∃ places, DataW.whole enc Tryz.prog ((laidWorld os).forCall (fun _ _ => 0) ⟨#[], wargs, []⟩).memory Tryz.f3.params.toList Rows.platterNilSpec.vars false wargs.toList 8 = some ([.nil], [], places) :=
  ⟨[], by kernel_rfl⟩

set_option maxRecDepth 100000 in
theorem lifted (os : Os) (started : os.Started) (H : Type) (enc : TypeId × Value → H) (F : Stop.Interp) :
    ReturnsInHanded {} Tryz.checked os 3 .any ((OpenSpec.ofChange Rows.platterNilSpec).preRow enc Tryz.prog Tryz.f3 Rows.platterNilRow.domain false Rows.platterNilRow.laid) (((OpenSpec.ofChange Rows.platterNilSpec).at F).post enc Tryz.prog Tryz.f3 false true false false) := by
  obtain ⟨places, hx⟩ := reads os enc
  refine returnsInHanded_of_row (C := Tryz.checked) (s := OpenSpec.ofChange Rows.platterNilSpec) own started (by kernel_rfl) Tryz.func3
    (witness_row_at (enc := enc) (C := Tryz.checked) false (laidWorld os) wargs rfl (by kernel_rfl) (by kernel_rfl) (by kernel_rfl)
      (OpenSpec.preRow_of_cond 8 hx (by kernel_rfl) (fun k hk => by cases hk) (by kernel_rfl) (laid_met os))) ?_
  intro W base args ds gs before hval hW _ _ hz hL _ _
  exact contract H enc W base args ds gs before hval hW hz

theorem said : Rows.PlatterNilSaid :=
  OpenClaim.holds_of_cond 3 Tryz.f3 rfl rfl rfl rfl rfl rfl rfl ⟨rfl, rfl, rfl, rfl, rfl⟩ rfl rfl rfl rfl rfl (by kernel_rfl) Tryz.func3 (by kernel_rfl)
    (of_decide_eq_true (by kernel_rfl)) (by unfold Func.isWrapper; first | (rw [if_pos (by decide +kernel)]; kernel_rfl) | (rw [if_neg (by decide +kernel)]; exact ⟨rfl, rfl⟩))
    (fun os started H enc _ F => by rw [OpenClaim.pre_eq_preRow]; exact lifted os started H enc F)

theorem plain (f : FuncId) (fn : Func) (hf : Tryz.pinned.checked.prog.funcNamed "sluice/sluicelaw03.PlatterNil" = some f) (hfn : Tryz.pinned.checked.prog.funcs[f]? = some fn) :
    true = Tryz.pinned.checked.prog.looks [] ∧ ∀ (j : Nat) t, fn.params[j]? = some t → Tryz.pinned.checked.prog.wantsStandIn t = false := by
  obtain rfl : f = 3 := Option.some.inj ((show Tryz.prog.funcNamed "sluice/sluicelaw03.PlatterNil" = some 3 by kernel_rfl).symm.trans hf) |>.symm
  obtain rfl : fn = Tryz.f3 := (Option.some.inj (Tryz.func3.symm.trans hfn)).symm
  refine ⟨by kernel_rfl, fun j t ht => ?_⟩
  rw [Tryz.params3] at ht
  have hm : t = 22 := by simpa using Array.mem_of_getElem? ht
  subst hm
  exact (show Tryz.prog.wantsStandIn 22 = false by kernel_rfl)
end Go.Proofs.YtiljdiagabepbaaGreatDoor.platterNil
namespace Go.Proofs.YtiljdiagabepbaaGreatDoor
theorem platterNilCard_holds : Rows.PlatterNilCardSaid :=
  Claim7.holds_tied_plain_at .later [] _ _ _ _ platterNil.said (fun _ h => by cases h) (by kernel_rfl) (fun _ h => by cases h) platterNil_row_tie rfl ⟨rfl, rfl⟩ (by kernel_rfl) rfl platterNil.plain (by kernel_rfl)
#print axioms platterNilCard_holds
end Go.Proofs.YtiljdiagabepbaaGreatDoor
