import Derived.Test.YtgoigcpdfecfhaaGreatDoorMgC
import Derived.WalkKit
import Derived.ProofKit
import Derived.OpenShut
import Derived.ShutString
import Derived.ChangeOld
import Derived.Below
import Derived.SizedLaws
import Derived.Deep.Slices
import Derived.Lib.SmallJoins
namespace Go.Proofs.YtgoigcpdfecfhaaGreatDoor
namespace Au
open Go.ChangeShapes Go.WideShapes Go.ChangeAt Go.RowKit Go.Joins Go.Deep
set_option linter.unusedVariables false
theorem own : ownKnob Tryz.prog.godebug = none := by kernel_rfl
theorem laidOut : laidOutB Tryz.prog = true := by kernel_rfl
theorem cells30 : Tryz.prog.cellsOf 30 = 14 := by kernel_rfl
theorem cells73 : Tryz.prog.cellsOf 78 = 3 := by kernel_rfl
theorem cells63 : Tryz.prog.cellsOf 59 = 8 := by kernel_rfl
theorem cells27 : Tryz.prog.cellsOf 27 = 3 := by kernel_rfl
theorem cells28 : Tryz.prog.cellsOf 28 = 1 := by kernel_rfl
theorem cells22 : Tryz.prog.cellsOf 22 = 1 := by kernel_rfl
theorem cells23 : Tryz.prog.cellsOf 23 = 1 := by kernel_rfl
theorem cells24 : Tryz.prog.cellsOf 24 = 1 := by kernel_rfl
theorem cells25 : Tryz.prog.cellsOf 25 = 1 := by kernel_rfl
theorem cells_3 : Tryz.prog.cellsOf 3 = 1 := by kernel_rfl
theorem bytes73 : Tryz.prog.bytesOf 78 = 12 := by kernel_rfl
theorem bytes63 : Tryz.prog.bytesOf 59 = 64 := by kernel_rfl
theorem bytes22 : Tryz.prog.bytesOf 22 = 4 := by kernel_rfl
theorem reach : reachBytes = 140737488351232 := by decide
theorem u32_b {a : Int} (h : (Lit.int .u32 a).wf = true) : 0 ≤ a ∧ a < 4294967296 := by
  simp [Lit.wf, IntKind.min, IntKind.max, IntKind.signed, IntKind.bits] at h; omega
theorem u64_b {a : Int} (h : (Lit.int .u64 a).wf = true) : 0 ≤ a ∧ a < 18446744073709551616 := by
  simp [Lit.wf, IntKind.min, IntKind.max, IntKind.signed, IntKind.bits] at h; omega
theorem i64_b {a : Int} (h : (Lit.int .i64 a).wf = true) : -9223372036854775808 ≤ a ∧ a < 9223372036854775808 := by
  simp [Lit.wf, IntKind.min, IntKind.max, IntKind.signed, IntKind.bits] at h; omega
theorem array14 {α : Type} {cs : Array α} (h : cs.size = 14) : ∃ c0 c1 c2 c3 c4 c5 c6 c7 c8 c9 c10 c11 c12 c13, cs = #[c0, c1, c2, c3, c4, c5, c6, c7, c8, c9, c10, c11, c12, c13] := by
  obtain ⟨l⟩ := cs
  match l, h with
  | [c0, c1, c2, c3, c4, c5, c6, c7, c8, c9, c10, c11, c12, c13], _ => exact ⟨c0, c1, c2, c3, c4, c5, c6, c7, c8, c9, c10, c11, c12, c13, rfl⟩
/-- Vertices as they come in. -/
def Row1 (w : World) (a : Option Addr) (Q : List Nat) : Prop := 0 < Q.length → ∃ x, a = some x ∧ x.block < w.heap.size ∧ ∀ (i q : Nat), Q[i]? = some q → w.cell? (x.add i) = some (.int .u32 (q : Int))
section
variable {H : Type} {enc : TypeId × Value → H} {W : World} {base : Nat} {sp : Nat → Bool} {held : Bool}
set_option maxRecDepth 100000 in
theorem open_edges {v : Value} {fuel : Nat} {y : DataW H × List MemPlace} (hf : DataW.trod enc Tryz.prog W base sp held fuel 24 [v] = some y) (hw : ∀ n ∈ y.1.weights Tryz.prog 24, n ≤ reachBytes) :
    ∃ (a : Option Addr) (c : Nat) (L : List T3), v = .slice a L.length c ∧ Row3 .u32 W a L ∧ L.length * 12 ≤ 140737488351232 ∧ (a = none → c = 0) ∧ ∀ e ∈ L, e.1 < 4294967296 ∧ e.2.1 < 4294967296 ∧ e.2.2 < 4294967296 := by
  rcases Deep.open_slice Tryz.underlying24 hf with ⟨hcs, _⟩ | ⟨x, l, c, m, n, D, Pl, hcs, hb, hl, hm, hmm, rfl, hx⟩
  · simp at hcs
    exact ⟨none, 0, [], hcs, fun h => by simp at h, by simp, fun _ => rfl, fun e he => by cases he⟩
  · simp at hcs
    have hlm : l ≤ m := by rw [hmm]; split <;> omega
    have hwt := hw (m * 12) (by
      show m * 12 ∈ DataW.weights Tryz.prog 24 (DataW.slice _ _)
      rw [DataW.weights, Tryz.underlying24]
      simp only [List.length_map, List.length_range, bytes73]
      exact List.mem_cons.mpr (.inl (by rw [show l + (m - l) = m by omega])))
    rw [reach] at hwt
    have each : ∀ i, i < l → ∃ q : T3, (W.cell? (x.add (i * 3)) = some (.int .u32 q.1) ∧ W.cell? (x.add (i * 3 + 1)) = some (.int .u32 q.2.1) ∧ W.cell? (x.add (i * 3 + 2)) = some (.int .u32 q.2.2)) ∧ q.1 < 4294967296 ∧ q.2.1 < 4294967296 ∧ q.2.2 < 4294967296 := by
      intro i hi
      obtain ⟨cs', h1, h2⟩ := hx i (by omega)
      rw [cells73] at h1
      obtain ⟨_, hlen, hcell⟩ := World.cells?_some h1
      obtain ⟨xs, k, hk, hxy, _, hxl, hf⟩ := DataW.trod_struct Tryz.underlying78 h2
      match xs, hxl, cs', hlen with
      | [y0, y1, y2], _, [v0, v1, v2], _ =>
        have g0 := hf 0 _ rfl
        have g1 := hf 1 _ rfl
        have g2 := hf 2 _ rfl
        simp [cells22] at g0 g1 g2
        have e0 := hcell 0 (by omega)
        have e1 := hcell 1 (by omega)
        have e2 := hcell 2 (by omega)
        rw [Addr.add_add] at e0 e1 e2
        obtain ⟨a0, q0, _, w0⟩ := DataW.trod_int Tryz.underlying22 g0
        obtain ⟨a1, q1, _, w1⟩ := DataW.trod_int Tryz.underlying22 g1
        obtain ⟨a2, q2, _, w2⟩ := DataW.trod_int Tryz.underlying22 g2
        simp at q0 q1 q2
        subst q0 q1 q2
        have b0 := u32_b w0
        have b1 := u32_b w1
        have b2 := u32_b w2
        obtain ⟨n0, rfl⟩ : ∃ n : Nat, a0 = n := ⟨a0.toNat, by omega⟩
        obtain ⟨n1, rfl⟩ : ∃ n : Nat, a1 = n := ⟨a1.toNat, by omega⟩
        obtain ⟨n2, rfl⟩ : ∃ n : Nat, a2 = n := ⟨a2.toNat, by omega⟩
        exact ⟨(n0, n1, n2), ⟨by simpa using e0, by simpa using e1, by simpa using e2⟩, by simp only; omega, by simp only; omega, by simp only; omega⟩
    obtain ⟨q, hq⟩ := Deep.choose_lt each
    refine ⟨some x, c, (List.range l).map q, by rw [hcs]; simp, fun h0 => ⟨x, rfl, ?_, fun i e he => ?_⟩, by simp; omega, (fun h => by cases h), fun e he => ?_⟩
    · have h0 : 0 < l := by simpa using h0
      have := World.block_lt_of_cell? _ _ (hq 0 h0).1.1
      rwa [add_block] at this
    · simp only [List.getElem?_map, Option.map_eq_some_iff] at he
      obtain ⟨j, hj, rfl⟩ := he
      obtain ⟨hjl, rfl⟩ := List.getElem?_eq_some_iff.1 hj
      rw [List.getElem_range]
      exact (hq i (by simpa using hjl)).1
    · obtain ⟨j, hj, rfl⟩ := List.mem_map.1 he
      exact (hq j (List.mem_range.1 hj)).2
set_option maxRecDepth 100000 in
theorem open_states {v : Value} {fuel : Nat} {y : DataW H × List MemPlace} (hf : DataW.trod enc Tryz.prog W base sp held fuel 23 [v] = some y) (hw : ∀ n ∈ y.1.weights Tryz.prog 23, n ≤ reachBytes) :
    ∃ (a : Option Addr) (l c : Nat) (S : Nat → Nat → Int), v = .slice a l c ∧ Row8 W a l S ∧ l * 64 ≤ 140737488351232 ∧ ∀ v, v < l → ∀ i, i < 8 → 0 ≤ S v i ∧ S v i < 18446744073709551616 := by
  rcases Deep.open_slice Tryz.underlying23 hf with ⟨hcs, _⟩ | ⟨x, l, c, m, n, D, Pl, hcs, hb, hl, hm, hmm, rfl, hx⟩
  · simp at hcs
    exact ⟨none, 0, 0, fun _ _ => 0, hcs, fun h => by omega, by omega, fun v hv => by omega⟩
  · simp at hcs
    have hlm : l ≤ m := by rw [hmm]; split <;> omega
    have hwt := hw (m * 64) (by
      show m * 64 ∈ DataW.weights Tryz.prog 23 (DataW.slice _ _)
      rw [DataW.weights, Tryz.underlying23]
      simp only [List.length_map, List.length_range, bytes63]
      exact List.mem_cons.mpr (.inl (by rw [show l + (m - l) = m by omega])))
    rw [reach] at hwt
    have each : ∀ i, i < l → ∃ s : Nat → Int, ∀ j, j < 8 → W.cell? (x.add (i * 8 + j)) = some (.int .u64 (s j)) ∧ 0 ≤ s j ∧ s j < 18446744073709551616 := by
      intro i hi
      obtain ⟨cs', h1, h2⟩ := hx i (by omega)
      rw [cells63] at h1
      obtain ⟨_, hlen, hcell⟩ := World.cells?_some h1
      cases n with
      | zero => simp [DataW.trod] at h2
      | succ n =>
        rw [DataW.trod_step] at h2
        unfold DataW.trodStep at h2
        simp only [Tryz.underlying59] at h2
        rw [if_pos (by rw [cells63]; omega)] at h2
        simp only [Option.map_eq_some_iff] at h2
        obtain ⟨xs, hx8, e1⟩ := h2
        rw [show List.range 8 = [0, 1, 2, 3, 4, 5, 6, 7] from rfl, List.mapM_cons, List.mapM_cons, List.mapM_cons, List.mapM_cons, List.mapM_cons, List.mapM_cons, List.mapM_cons, List.mapM_cons, List.mapM_nil] at hx8
        match cs', hlen with
        | [v0, v1, v2, v3, v4, v5, v6, v7], _ =>
          simp only [bind, Option.bind_eq_some_iff, pure, Option.some.injEq, cells28] at hx8
          obtain ⟨y0, t0, _, ⟨y1, t1, _, ⟨y2, t2, _, ⟨y3, t3, _, ⟨y4, t4, _, ⟨y5, t5, _, ⟨y6, t6, _, ⟨y7, t7, _, rfl, rfl⟩, rfl⟩, rfl⟩, rfl⟩, rfl⟩, rfl⟩, rfl⟩, rfl⟩ := hx8
          obtain ⟨a0, q0, rfl, w0⟩ := DataW.trod_int Tryz.underlying28 t0
          obtain ⟨a1, q1, rfl, w1⟩ := DataW.trod_int Tryz.underlying28 t1
          obtain ⟨a2, q2, rfl, w2⟩ := DataW.trod_int Tryz.underlying28 t2
          obtain ⟨a3, q3, rfl, w3⟩ := DataW.trod_int Tryz.underlying28 t3
          obtain ⟨a4, q4, rfl, w4⟩ := DataW.trod_int Tryz.underlying28 t4
          obtain ⟨a5, q5, rfl, w5⟩ := DataW.trod_int Tryz.underlying28 t5
          obtain ⟨a6, q6, rfl, w6⟩ := DataW.trod_int Tryz.underlying28 t6
          obtain ⟨a7, q7, rfl, w7⟩ := DataW.trod_int Tryz.underlying28 t7
          simp at q0 q1 q2 q3 q4 q5 q6 q7
          subst q0 q1 q2 q3 q4 q5 q6 q7
          have hc : ∀ j, j < 8 → W.cell? (x.add (i * 8 + j)) = ([Value.int .u64 a0, .int .u64 a1, .int .u64 a2, .int .u64 a3, .int .u64 a4, .int .u64 a5, .int .u64 a6, .int .u64 a7] : List Value)[j]? := fun j hj => by
            have := hcell j hj
            rw [Addr.add_add] at this
            simpa using this
          refine ⟨(fun i => match i with | 0 => a0 | 1 => a1 | 2 => a2 | 3 => a3 | 4 => a4 | 5 => a5 | 6 => a6 | 7 => a7 | _ => 0), fun j hj => ?_⟩
          match j, hj with
          | 0, _ => exact ⟨hc 0 (by omega), u64_b w0⟩
          | 1, _ => exact ⟨hc 1 (by omega), u64_b w1⟩
          | 2, _ => exact ⟨hc 2 (by omega), u64_b w2⟩
          | 3, _ => exact ⟨hc 3 (by omega), u64_b w3⟩
          | 4, _ => exact ⟨hc 4 (by omega), u64_b w4⟩
          | 5, _ => exact ⟨hc 5 (by omega), u64_b w5⟩
          | 6, _ => exact ⟨hc 6 (by omega), u64_b w6⟩
          | 7, _ => exact ⟨hc 7 (by omega), u64_b w7⟩
    obtain ⟨S, hS⟩ := Deep.choose_lt each
    refine ⟨some x, l, c, S, hcs, fun h0 => ⟨x, rfl, ?_, fun v hv i hi => (hS v hv i hi).1⟩, by omega, fun v hv i hi => (hS v hv i hi).2⟩
    have := World.block_lt_of_cell? _ _ (hS 0 h0 0 (by omega)).1
    rwa [add_block] at this
set_option maxRecDepth 100000 in
theorem open_verts {v : Value} {fuel : Nat} {y : DataW H × List MemPlace} (hf : DataW.trod enc Tryz.prog W base sp held fuel 25 [v] = some y) (hw : ∀ n ∈ y.1.weights Tryz.prog 25, n ≤ reachBytes) :
    ∃ (a : Option Addr) (c : Nat) (Q : List Nat), v = .slice a Q.length c ∧ Row1 W a Q ∧ Q.length * 4 ≤ 140737488351232 ∧ (a = none → c = 0) ∧ ∀ q ∈ Q, q < 4294967296 := by
  rcases Deep.open_slice1 Tryz.underlying25 cells22 hf with ⟨hcs, _⟩ | ⟨x, l, c, m, n, V, D, Pl, hcs, hb, hl, hm, hmm, rfl, hx⟩
  · simp at hcs
    exact ⟨none, 0, [], hcs, fun h => by simp at h, by simp, fun _ => rfl, fun e he => by cases he⟩
  · simp at hcs
    have hlm : l ≤ m := by rw [hmm]; split <;> omega
    have hwt := hw (m * 4) (by
      show m * 4 ∈ DataW.weights Tryz.prog 25 (DataW.slice _ _)
      rw [DataW.weights, Tryz.underlying25]
      simp only [List.length_map, List.length_range, bytes22]
      exact List.mem_cons.mpr (.inl (by rw [show l + (m - l) = m by omega])))
    rw [reach] at hwt
    have each : ∀ i, i < l → ∃ q : Nat, W.cell? (x.add i) = some (.int .u32 (q : Int)) ∧ q < 4294967296 := by
      intro i hi
      obtain ⟨h1, h2⟩ := hx i (by omega)
      obtain ⟨a0, q0, _, w0⟩ := DataW.trod_int Tryz.underlying22 h2
      simp at q0
      have b0 := u32_b w0
      obtain ⟨n0, rfl⟩ : ∃ n : Nat, a0 = n := ⟨a0.toNat, by omega⟩
      exact ⟨n0, by rw [h1, q0], by omega⟩
    obtain ⟨q, hq⟩ := Deep.choose_lt each
    refine ⟨some x, c, (List.range l).map q, by rw [hcs]; simp, fun h0 => ⟨x, rfl, ?_, fun i e he => ?_⟩, by simp; omega, (fun h => by cases h), fun e he => ?_⟩
    · have h0 : 0 < l := by simpa using h0
      have := World.block_lt_of_cell? _ _ (hq 0 h0).1
      rwa [add_block] at this
    · simp only [List.getElem?_map, Option.map_eq_some_iff] at he
      obtain ⟨j, hj, rfl⟩ := he
      obtain ⟨hjl, rfl⟩ := List.getElem?_eq_some_iff.1 hj
      rw [List.getElem_range]
      exact (hq i (by simpa using hjl)).1
    · obtain ⟨j, hj, rfl⟩ := List.mem_map.1 he
      exact (hq j (List.mem_range.1 hj)).2
/-- A case, as an argument. -/
structure Ok (W : World) (c : Cs) (L : List T3) (S : Nat → Nat → Int) (Q : List Nat) : Prop where
  en : c.en = L.length
  qn : c.qn = Q.length
  s64 : c.sn * 64 ≤ 140737488351232
  l12 : L.length * 12 ≤ 140737488351232
  q4 : Q.length * 4 ≤ 140737488351232
  N : c.N < 4294967296
  ec : c.ea = none → c.ec = 0
  qc : c.qa = none → c.qc = 0
  s : Row8 W c.sa c.sn S
  e : Row3 .u32 W c.ea L
  q : Row1 W c.qa Q
  sb : ∀ v, v < c.sn → ∀ i, i < 8 → 0 ≤ S v i ∧ S v i < 18446744073709551616
  eb : ∀ e ∈ L, e.1 < 4294967296 ∧ e.2.1 < 4294967296 ∧ e.2.2 < 4294967296
  qb : ∀ q ∈ Q, q < 4294967296
  src : 0 ≤ c.src ∧ c.src < 4294967296
  rN : 0 ≤ c.rN ∧ c.rN < 4294967296
  rA : 0 ≤ c.rA ∧ c.rA < 4294967296
  rC : 0 ≤ c.rC ∧ c.rC < 4294967296
  damp : 0 ≤ c.damp ∧ c.damp < 4294967296
  seed : 0 ≤ c.seed ∧ c.seed < 18446744073709551616
  kind : -9223372036854775808 ≤ c.kind ∧ c.kind < 9223372036854775808
set_option maxRecDepth 100000 in
theorem open_case {r : Reach} {b0 : Nat} {v : Value} {d : DataW H} {ps : List MemPlace} (hval : Value.okWide Tryz.prog W r b0 30 v) (hd : DataW.Trod enc Tryz.prog W base sp held 30 v d ps) (hw : ∀ n ∈ d.weights Tryz.prog 30, n ≤ reachBytes) :
    ∃ (c : Cs) (L : List T3) (S : Nat → Nat → Int) (Q : List Nat), v = .agg (cb c) ∧ Ok W c L S Q := by
  obtain ⟨cs, rfl, hsz⟩ := okWide_struct Tryz.underlying30 hval
  obtain ⟨c0, c1, c2, c3, c4, c5, c6, c7, c8, c9, c10, c11, c12, c13, rfl⟩ := array14 (hsz.trans cells30)
  obtain ⟨fuel, hf⟩ := hd
  obtain ⟨xs, n, hk, hxy, hl, hlen, hq⟩ := DataW.trod_struct Tryz.underlying30 hf
  match xs, hlen with
  | [y0, y1, y2, y3, y4, y5, y6, y7, y8, y9, y10, y11], _ =>
    have g0 := hq 0 _ rfl
    have g1 := hq 1 _ rfl
    have g2 := hq 2 _ rfl
    have g3 := hq 3 _ rfl
    have g4 := hq 4 _ rfl
    have g5 := hq 5 _ rfl
    have g6 := hq 6 _ rfl
    have g7 := hq 7 _ rfl
    have g8 := hq 8 _ rfl
    have g9 := hq 9 _ rfl
    have g10 := hq 10 _ rfl
    have g11 := hq 11 _ rfl
    simp [Value.cells, cells_3, cells22, cells23, cells24, cells25, cells27, cells28] at g0 g1 g2 g3 g4 g5 g6 g7 g8 g9 g10 g11
    simp only [Prod.mk.injEq] at hxy
    have hD : d = .agg [y0.1, y1.1, y2.1, y3.1, y4.1, y5.1, y6.1, y7.1, y8.1, y9.1, y10.1, y11.1] := by simpa using hxy.1
    rw [hD, DataW.weights, Tryz.underlying30] at hw
    obtain ⟨a0, q0, _, w0⟩ := DataW.trod_int Tryz.underlying22 g0
    obtain ⟨sa, sn, sc, S, rfl, s1, s2, s3⟩ := open_states g1 (fun q hq => hw q (DataW.weights_mem_each (j := 1) (t := 23) rfl rfl q hq))
    obtain ⟨ea, ec, L, rfl, e1, e2, e3, e4⟩ := open_edges g2 (fun q hq => hw q (DataW.weights_mem_each (j := 2) (t := 24) rfl rfl q hq))
    obtain ⟨a3, q3, _, w3⟩ := DataW.trod_int Tryz.underlying3 g3
    obtain ⟨a4, q4, _, w4⟩ := DataW.trod_int Tryz.underlying3 g4
    obtain ⟨a5, q5, _, w5⟩ := DataW.trod_int Tryz.underlying22 g5
    obtain ⟨qa, qc, Q, rfl, v1, v2, v3, v4⟩ := open_verts g6 (fun q hq => hw q (DataW.weights_mem_each (j := 6) (t := 25) rfl rfl q hq))
    obtain ⟨a7, q7, _, w7⟩ := DataW.trod_int Tryz.underlying3 g7
    obtain ⟨zs, k8, _, hxy8, _, hz, hf8⟩ := DataW.trod_struct Tryz.underlying27 g8
    obtain ⟨a9, q9, _, w9⟩ := DataW.trod_int Tryz.underlying22 g9
    obtain ⟨a10, q10, _, w10⟩ := DataW.trod_int Tryz.underlying3 g10
    obtain ⟨a11, q11, _, w11⟩ := DataW.trod_int Tryz.underlying28 g11
    match zs, hz with
    | [z0, z1, z2], _ =>
      have h0 := hf8 0 _ rfl
      have h1 := hf8 1 _ rfl
      have h2 := hf8 2 _ rfl
      simp [cells22] at h0 h1 h2
      obtain ⟨r0, p0, _, x0⟩ := DataW.trod_int Tryz.underlying22 h0
      obtain ⟨r1, p1, _, x1⟩ := DataW.trod_int Tryz.underlying22 h1
      obtain ⟨r2, p2, _, x2⟩ := DataW.trod_int Tryz.underlying22 h2
      simp at q0 q3 q4 q5 q7 q9 q10 q11 p0 p1 p2
      subst q0 q3 q4 q5 q7 q9 q10 q11 p0 p1 p2
      have b0 := u32_b w0
      obtain ⟨n0, rfl⟩ : ∃ n : Nat, a0 = n := ⟨a0.toNat, by omega⟩
      refine ⟨⟨n0, sa, sn, sc, ea, L.length, ec, a3, a4, a5, qa, Q.length, qc, a7, r0, r1, r2, a9, a10, a11⟩, L, S, Q, rfl, ⟨rfl, rfl, s2, e2, v2, by simp only; omega, e3, v3, s1, e1, v1, s3, e4, v4, u32_b w5, u32_b x0, u32_b x1, u32_b x2, u32_b w9, u64_b w11, i64_b w7⟩⟩
end
end Au
end Go.Proofs.YtgoigcpdfecfhaaGreatDoor
