import Derived.Test.YtdphfhpohlodcabWhMul
import Derived.WalkKit
import Derived.ProofKit
import Derived.OpenShut
import Derived.ShutString
namespace Go.Proofs.Ytdphfhpohlodcab.grainWholes
open Go.ChangeShapes Go.WideShapes Go.ChangeAt Go.RowKit
open Go.ChangeMaps (open_string shut_string)
set_option linter.unusedVariables false

theorem i64_b {a : Int} (h : (Lit.int .i64 a).wf = true) : Wh.Fit a := by
  simp [Lit.wf, IntKind.min, IntKind.max, IntKind.signed, IntKind.bits] at h; unfold Wh.Fit; omega
theorem own : ownKnob Try.prog.godebug = none := by kernel_rfl

set_option maxHeartbeats 1000000 in
theorem walk (a0 : Int) (a1 : Int) (w0 : (Lit.int .i64 a0).wf = true) (w1 : (Lit.int .i64 a1).wf = true) (w : World) :
    Calls Try.prog 6 #[.int .i64 a0, .int .i64 a1] w fun e w' => e = .returned (.bool true) ∧ Grown w w' := by
  have h0 := i64_b w0
  have h1 := i64_b w1
  clear w0 w1
  go_enter Try.func6, Try.ntmps6
  go_wp2_with (first
    | (go_at_call 7; refine (Wh.add_any a0 a1 h0 h1 _).mono ?_; rintro e1 w1 ⟨rfl, rfl⟩)
    | (go_at_call 28; refine (Wh.radd_any a0 a1 h0 h1 _).mono ?_; rintro e1 w1 ⟨rfl, rfl⟩)
    | (go_at_call 9; refine (Wh.sub_any a0 a1 h0 h1 _).mono ?_; rintro e1 w1 ⟨rfl, rfl⟩)
    | (go_at_call 29; refine (Wh.rsub_any a0 a1 h0 h1 _).mono ?_; rintro e1 w1 ⟨rfl, rfl⟩)
    | (go_at_call 13; refine (Wh.mul_any a0 a1 h0 h1 _).mono ?_; rintro e1 w1 ⟨rfl, rfl⟩)
    | (go_at_call 30; refine (Wh.rmul_any a0 a1 h0 h1 _).mono ?_; rintro e1 w1 ⟨rfl, rfl⟩)
    | (go_at_call 11; refine (Wh.quo_any a0 a1 h0 h1 _).mono ?_; rintro e1 w1 ⟨rfl, rfl⟩)
    | (go_at_call 31; refine (Wh.rquo_any a0 a1 h0 h1 _).mono ?_; rintro e1 w1 ⟨rfl, rfl⟩)
    | (go_at_call 12; refine (Wh.rem_any a0 a1 h0 h1 _).mono ?_; rintro e1 w1 ⟨rfl, rfl⟩)
    | (go_at_call 32; refine (Wh.rrem_any a0 a1 h0 h1 _).mono ?_; rintro e1 w1 ⟨rfl, rfl⟩)
    | (go_at_call 33; refine (Wh.neg_any a0 h0 _).mono ?_; rintro e1 w1 ⟨rfl, rfl⟩)
    | (go_at_call 34; refine (Wh.rneg_any a0 h0 _).mono ?_; rintro e1 w1 ⟨rfl, rfl⟩)
    | (go_at_call 8; refine (Wh.num_any _ _).mono ?_; rintro e1 w1 ⟨rfl, rfl⟩))
  go_ret
  exact ⟨by simp, Grown.refl _⟩

set_option maxRecDepth 100000 in
theorem lifted (os : Os) (started : os.Started) (H : Type) (enc : TypeId × Value → H) :
    ReturnsInHanded {} Try.checked os 6 .any (Rows.grainWholesSpec.pre6 enc Try.prog Try.f6 Rows.grainWholesRow.domain false) (Rows.grainWholesSpec.post enc Try.prog Try.f6 false true false false) := by
  refine returnsInHanded_of_change (C := Try.checked) own started (by kernel_rfl) Try.func6
    (ChangeSpec.witness6 (enc := enc) (C := Try.checked) false ⟨#[], #[.int .i64 0, .int .i64 0], []⟩ 8 (by kernel_rfl) (by kernel_rfl) (by kernel_rfl) (by kernel_rfl)) ?_
  intro W base args ds gs before hval0 hW hcnd _
  have hval : ∀ (j : Nat) t v, Try.f6.params[j]? = some t → args[j]? = some v → Value.okWide Try.prog W .any base t v := hval0
  have hW' := hW
  obtain ⟨p, q, hA0, hV, rfl, hfz, hnd⟩ := hW
  have hA : DataW.TrodAll enc Try.prog W 0 (fun _ => true) true Try.f6.params.toList args.toList ds p := hA0
  rw [Try.params6] at hA hval
  obtain ⟨v0, vs0, d0, ds0, p0, q0, hargs, rfl, rfl, h0, r0⟩ := trodAll_cons hA
  obtain ⟨v1, vs1, d1, ds1, p1, q1, rfl, rfl, rfl, h1, r1⟩ := trodAll_cons r0
  obtain ⟨rfl, rfl, rfl⟩ := trodAll_nil r1
  obtain rfl : args = #[v0, v1] := by cases args; simp_all
  obtain ⟨rfl, rfl⟩ := trodVars_none hV
  obtain ⟨a0, rfl, rfl, rfl, w0⟩ := open_int Try.underlying2 (hval 0 2 v0 rfl rfl) h0
  obtain ⟨a1, rfl, rfl, rfl, w1⟩ := open_int Try.underlying2 (hval 1 2 v1 rfl rfl) h1
  clear hA0 hval0
  simp only [List.append_nil] at hW'
  refine (walk a0 a1 w0 w1 W).mono fun e W' ⟨he, hg⟩ => ?_
  subst he
  exact ⟨_, rfl, post_of_same (pa := []) (pv := []) hW' (fun _ _ _ => (trodAll_cons_mk (shut_bool Try.underlying4 _) trodAll_mk0)) (fun sp _ => (trodAll_cons_mk (shut_int Try.underlying2 w0) (trodAll_cons_mk (shut_int Try.underlying2 w1) trodAll_mk0))) (fun _ _ => rfl) rfl
    (hg.frame _) hg.2.1 (ok_one (by kernel_rfl) rfl (okWide_bool_mk Try.underlying4 _))⟩

theorem over : Rows.grainWholesRow.holds Try.pinned (OpenSpec.ofChange Rows.grainWholesSpec) :=
  OpenClaim.holds_of_wide 6 Try.f6 rfl rfl rfl rfl rfl rfl rfl ⟨rfl, rfl, rfl, rfl, rfl⟩ rfl rfl rfl rfl rfl (by kernel_rfl) Try.func6 (by kernel_rfl)
    (of_decide_eq_true (by kernel_rfl)) (by unfold Func.isWrapper; first | (rw [if_pos (by decide +kernel)]; kernel_rfl) | (rw [if_neg (by decide +kernel)]; exact ⟨rfl, rfl⟩))
    (fun os started H enc _ => lifted os started H enc)

theorem proved : Rows.GrainWholesSaid :=
  over
end Go.Proofs.Ytdphfhpohlodcab.grainWholes
namespace Go.Proofs.Ytdphfhpohlodcab
theorem grainWholes_holds : Rows.GrainWholesSaid := grainWholes.proved
#print axioms grainWholes_holds
end Go.Proofs.Ytdphfhpohlodcab
