import Derived.Test.YtdphfhpohlodcabPkI
import Derived.Test.YtdphfhpohlodcabPkJ
import Derived.ProofKit
import Derived.OpenShut
import Derived.ShutString
import Derived.ChangeOld
import Derived.Below
import Derived.SizedLaws
import Derived.Lib.SmallJoins
namespace Go.Proofs.Ytdphfhpohlodcab.grainPacks
open Go.ChangeShapes Go.WideShapes Go.ChangeAt Go.RowKit Go.Joins
set_option linter.unusedVariables false

theorem own : ownKnob Try.prog.godebug = none := by kernel_rfl
theorem laidOut : laidOutB Try.prog = true := by kernel_rfl
theorem cells39 : Try.prog.cellsOf 39 = 4 := by kernel_rfl
theorem bytes5 : Try.prog.bytesOf 5 = 1 := by kernel_rfl
theorem reach : reachBytes = 140737488351232 := by decide +kernel
theorem i64_b {a : Int} (h : (Lit.int .i64 a).wf = true) : -9223372036854775808 ≤ a ∧ a ≤ 9223372036854775807 := by
  simp [Lit.wf, IntKind.min, IntKind.max, IntKind.signed, IntKind.bits] at h; omega
theorem u64_b {a : Int} (h : (Lit.int .u64 a).wf = true) : 0 ≤ a ∧ a < 18446744073709551616 := by
  simp [Lit.wf, IntKind.min, IntKind.max, IntKind.signed, IntKind.bits] at h; omega
theorem u8_b {a : Int} (h : (Lit.int .u8 a).wf = true) : 0 ≤ a ∧ a ≤ 255 := by
  simp [Lit.wf, IntKind.min, IntKind.max, IntKind.signed, IntKind.bits] at h; omega
theorem getD_take (zs : List Int) (n i : Nat) (h : i < n) : (zs.take n).getD i 0 = zs.getD i 0 := by
  rw [List.getD_eq_getElem?_getD, List.getElem?_take_of_lt h, ← List.getD_eq_getElem?_getD]

/-- All cases of the law. -/
theorem walk (a : Option Addr) (len cap : Nat) (L : List Int) (at' width v : Int) (w : World) (hr : Pk.BRow w a len L) (hs : len ≤ 140737488351232) (a0 : -9223372036854775808 ≤ at') (a1 : at' ≤ 9223372036854775807) (b0 : -9223372036854775808 ≤ width) (b1 : width ≤ 9223372036854775807) (hv0 : 0 ≤ v) (hv1 : v < 18446744073709551616) :
    Calls Try.prog 5 #[.agg #[.slice a len cap, .int .i64 at', .int .i64 width, .int .u64 v]] w fun e w' => e = .returned (.bool true) ∧ Below w.heap.size w w' := by
  by_cases he : Pk.ec len at' width = 0
  · have hx : 1 ≤ width ∧ width ≤ 8 ∧ 0 ≤ at' ∧ at' ≤ (len : Int) - width := by
      unfold Pk.ec at he
      split at he
      · omega
      · split at he
        · omega
        · omega
    obtain ⟨k, rfl⟩ := Int.eq_ofNat_of_zero_le (show 0 ≤ width by omega)
    obtain ⟨o, rfl⟩ := Int.eq_ofNat_of_zero_le hx.2.2.1
    have h1 : 1 ≤ k := by omega
    have h2 : k ≤ 8 := by omega
    have h3 : o + k ≤ len := by omega
    by_cases hf1 : v / 2 ^ (8 * k) = 0
    · by_cases hf2 : Pk.SFit (wrap64 v) k
      · exact Pk.law_oo a len cap L o k v w hr hs hv0 hv1 h1 h2 h3 hf1 hf2
      · exact Pk.law_ob a len cap L o k v w hr hs hv0 hv1 h1 h2 h3 hf1 hf2
    · by_cases hf2 : Pk.SFit (wrap64 v) k
      · exact Pk.law_bo a len cap L o k v w hr hs hv0 hv1 h1 h2 h3 hf1 hf2
      · exact Pk.law_bb a len cap L o k v w hr hs hv0 hv1 h1 h2 h3 hf1 hf2
  · exact Pk.law_err a len cap L at' width v w hr hs hv0 hv1 a0 a1 b0 b1 he

set_option maxRecDepth 100000 in
theorem lifted (os : Os) (started : os.Started) (H : Type) (enc : TypeId × Value → H) :
    ReturnsInHanded {} Try.checked os 5 .any (Rows.grainPacksSpec.pre6 enc Try.prog Try.f5 Rows.grainPacksRow.domain false) (Rows.grainPacksSpec.post enc Try.prog Try.f5 false true false false) := by
  refine returnsInHanded_of_change_sized (C := Try.checked) own started (by kernel_rfl) Try.func5
    (ChangeSpec.witness6 (enc := enc) (C := Try.checked) false ⟨#[], #[.agg #[.slice none 0 0, .int .i64 0, .int .i64 0, .int .u64 0]], []⟩ 8 (by kernel_rfl) (by kernel_rfl) (by kernel_rfl) (by kernel_rfl)) ?_
  intro W base args ds gs before hval0 hW hcnd hsz _
  have hval : ∀ (j : Nat) t v, Try.f5.params[j]? = some t → args[j]? = some v → Value.okWide Try.prog W .any base t v := hval0
  have hW' := hW
  obtain ⟨p, q, hA0, hV, rfl, hfz, hnd⟩ := hW
  have hA : DataW.TrodAll enc Try.prog W 0 (fun _ => true) true Try.f5.params.toList args.toList ds p := hA0
  rw [Try.params5] at hA hval
  obtain ⟨v0, vs0, d0, ds0, p0, q0, hargs, rfl, rfl, h0, r0⟩ := trodAll_cons hA
  obtain ⟨rfl, rfl, rfl⟩ := trodAll_nil r0
  obtain rfl : args = #[v0] := by cases args; simp_all
  obtain ⟨rfl, rfl⟩ := trodVars_none hV
  have k0 := h0
  have lt0 : ∀ x ∈ p0, x.block < W.heap.size := by obtain ⟨m, hm⟩ := k0; exact DataW.trod_lt m _ _ _ hm
  obtain ⟨e0, e1, e2, e3, y0, y1, y2, y3, n, rfl, rfl, _, t0, t1, t2, t3⟩ := open_agg4 Try.underlying39 (by kernel_rfl) cells39 (hval 0 39 v0 rfl rfl) h0
  obtain ⟨at', q1, rfl, wa⟩ := DataW.trod_int Try.underlying3 t1
  obtain ⟨width, q2, rfl, ww⟩ := DataW.trod_int Try.underlying3 t2
  obtain ⟨v, q3, rfl, wv⟩ := DataW.trod_int Try.underlying37 t3
  obtain rfl : e1 = .int .i64 at' := by simpa using q1
  obtain rfl : e2 = .int .i64 width := by simpa using q2
  obtain rfl : e3 = .int .u64 v := by simpa using q3
  obtain ⟨a, len, cap, L, rfl, hr, hs⟩ : ∃ a len cap L, e0 = .slice a len cap ∧ Pk.BRow W a len L ∧ len ≤ 140737488351232 := by
    rcases open_ints Try.underlying36 Try.underlying5 (by kernel_rfl) t0 with ⟨hcs, _⟩ | ⟨x, l, c, zs, hcs, _, hl, hm, hz, hx, hcell, hwz⟩
    · obtain rfl : e0 = .slice none 0 0 := by simpa using hcs
      exact ⟨none, 0, 0, [], rfl, ⟨rfl, (fun x h => by cases h), (fun h => by omega)⟩, by omega⟩
    · obtain rfl : e0 = .slice (some x) l c := by simpa using hcs
      have hz' : zs.length = c := by simpa using hz
      have hb : l ≤ 140737488351232 := by
        have hmem : (zs.length * 1) ∈ DataW.weights Try.prog 39 (DataW.agg [y0.1, DataW.lit (.int .i64 at'), DataW.lit (.int .i64 width), DataW.lit (.int .u64 v)] : DataW H) := by
          rw [hx]
          simp only [DataW.weights, Try.underlying39]
          have e36 : DataW.weights Try.prog 36 (DataW.slice (lits .u8 (zs.take l)) (lits .u8 (zs.drop l)) : DataW H) = ((lits (H := H) .u8 (zs.take l)).length + (lits (H := H) .u8 (zs.drop l)).length) * Try.prog.bytesOf 5 :: (DataW.weightsAll (H := H) Try.prog 5 (lits .u8 (zs.take l)) ++ DataW.weightsAll (H := H) Try.prog 5 (lits .u8 (zs.drop l))) := by
            simp only [DataW.weights, Try.underlying36]
          have e1 : ((lits (H := H) .u8 (zs.take l)).length + (lits (H := H) .u8 (zs.drop l)).length) * Try.prog.bytesOf 5 = zs.length * 1 := by
            rw [bytes5]; simp only [lits, List.length_map, List.length_take, List.length_drop]; omega
          show _ ∈ DataW.weightsEach Try.prog [36, 3, 3, 37] _
          simp only [DataW.weightsEach, e36, e1]
          simp
        have h9 := List.all_eq_true.1 hsz _ (DataW.weights_mem_each (P := Try.prog) (j := 0) (t := 39) (by rw [Try.params5]; rfl) rfl _ hmem)
        rw [reach] at h9
        simp at h9
        omega
      refine ⟨some x, l, c, zs.take l, rfl, ⟨by simp; omega, fun y hy => u8_b (hwz y (List.mem_of_mem_take hy)), fun hp => ⟨x, rfl, ?_, fun i hi => ?_⟩⟩, hb⟩
      · simpa [Addr.add] using World.block_lt_of_cell? _ _ (hcell 0 (by omega))
      · rw [getD_take zs l i hi]; exact hcell i (by omega)
  clear hA0 hval0
  have ba := i64_b wa
  have bw := i64_b ww
  have bv := u64_b wv
  refine (walk a len cap L at' width v W hr hs ba.1 ba.2 bw.1 bw.2 bv.1 bv.2).mono fun e W' ⟨he, bel⟩ => ?_
  subst he
  exact ⟨_, rfl, _, _, _, [], _, [], hW', trodAll_mk1 (shut_bool Try.underlying4 _), (trodAll_cons_mk (Below.trod laidOut (by kernel_rfl) (of_decide_eq_true (by kernel_rfl)) k0 bel lt0) trodAll_mk0), rfl, bel.frame _, fun h => by cases h⟩

theorem over : Rows.grainPacksRow.holds Try.pinned (OpenSpec.ofChange Rows.grainPacksSpec) :=
  OpenClaim.holds_of_wide 5 Try.f5 rfl rfl rfl rfl rfl rfl rfl ⟨rfl, rfl, rfl, rfl, rfl⟩ rfl rfl rfl rfl rfl (by kernel_rfl) Try.func5 (by kernel_rfl)
    (of_decide_eq_true (by kernel_rfl)) (by unfold Func.isWrapper; first | (rw [if_pos (by decide +kernel)]; kernel_rfl) | (rw [if_neg (by decide +kernel)]; exact ⟨rfl, rfl⟩))
    (fun os started H enc _ => lifted os started H enc)
end Go.Proofs.Ytdphfhpohlodcab.grainPacks
namespace Go.Proofs.Ytdphfhpohlodcab
theorem grainPacks_holds : Rows.GrainPacksSaid := grainPacks.over
#print axioms grainPacks_holds
end Go.Proofs.Ytdphfhpohlodcab
