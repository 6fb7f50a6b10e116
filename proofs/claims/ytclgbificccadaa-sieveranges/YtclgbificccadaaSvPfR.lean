import Derived.Test.YtclgbificccadaaSvD
import Derived.WalkKit
import Derived.ProofKit
import Derived.OpenShut
import Derived.ShutString
import Derived.ChangeOld
namespace Go.Proofs.Ytclgbificccadaa.sieveRanges
open Go.ChangeShapes Go.WideShapes Go.ChangeAt Go.RowKit
open Go.ChangeMaps (open_string shut_string)
set_option linter.unusedVariables false
theorem own : ownKnob Try.prog.godebug = none := by kernel_rfl
theorem laidOut : laidOutB Try.prog = true := by kernel_rfl
open Sv in
/-- Four cells: the ranges of the program and of the document. -/
abbrev S4 (c r : Nat) (N K : Int) (w : World) : Prop := (w.cell? ⟨c, 0, none⟩ = some (.int .u32 N) ∧ w.cell? ⟨c, 1, none⟩ = some (.int .i64 K)) ∧ (w.cell? ⟨r, 0, none⟩ = some (.int .u32 N) ∧ w.cell? ⟨r, 1, none⟩ = some (.int .i64 K))
theorem S4.below {c r B : Nat} {N K : Int} {w w' : World} (h : S4 c r N K w) (hb : Below B w w') (hc : c < B) (hr : r < B) : S4 c r N K w' :=
  ⟨Sv.S2.below h.1 hb hc, Sv.S2.below h.2 hb hr⟩
open Sv in
set_option maxRecDepth 20000 in
set_option maxHeartbeats 4000000 in
theorem walk (n k v p : Int) (hn0 : 0 ≤ n) (hn1 : n ≤ 4294967295) (hv0 : 0 ≤ v) (hv1 : v ≤ 4294967295) (w : World) : Calls Try.prog 6 #[.int .u32 n, .int .i64 k, .int .u32 v, .int .i64 p] w fun e w' => e = .returned (.bool true) ∧ Below w.heap.size w w' := by
  go_enter Try.func6, Try.ntmps6
  go_wp2_with (fail)
  refine (split_any n k hn0 hn1 _).mono ?_
  rintro e1 w1 ⟨hb1, h1⟩
  obtain ⟨N, K, E, hNK, rfl, hN⟩ : ∃ N K E, (Rg N K ∨ (N = 0 ∧ K = 0)) ∧ e1 = .returned (.tuple #[rg N K, .int .i64 E]) ∧ ((Bad n k ∧ N = 0 ∧ K = 0 ∧ E = 90) ∨ (Rg n k ∧ N = n ∧ K = k ∧ E = 0)) := by
    rcases h1 with ⟨a, rfl⟩ | ⟨a, rfl⟩
    · exact ⟨0, 0, 90, .inr ⟨rfl, rfl⟩, rfl, .inl ⟨a, rfl, rfl, rfl⟩⟩
    · exact ⟨n, k, 0, .inl a, rfl, .inr ⟨a, rfl, rfl, rfl⟩⟩
  clear h1
  go_wp2_with (fail)
  refine (rsplit_any n k hn0 hn1 _).mono ?_
  rintro e2 w2 ⟨hb2, h2⟩
  obtain rfl : e2 = .returned (.tuple #[rg N K, .int .i64 E]) := by
    rcases hN with ⟨a, rfl, rfl, rfl⟩ | ⟨a, rfl, rfl, rfl⟩ <;> rcases h2 with ⟨b, rfl⟩ | ⟨b, rfl⟩ <;> first | rfl | exact (Bad.not a b).elim | exact (Bad.not b a).elim
  clear h2 hN
  have hS2 : S2 w1.heap.size (.int .u32 N) (.int .i64 K) w2 := (S2.new w1 _ _ 39).below hb2 (by simp)
  have hbB := ((hb1.alloc hb1.size (.cells #[.int .u32 N, .int .i64 K] 39)).trans (hb2.mono (by simp; have := hb1.size; omega)))
  have hs1 := hb1.size
  have hs2 := hb2.size
  simp only [World.size_alloc] at hs2
  go_wp2
  have hS4 : S4 w1.heap.size w2.heap.size N K (w2.alloc (.cells #[.int .u32 N, .int .i64 K] 53)) := ⟨hS2.below (b1 w2 53 _) (by omega), S2.new w2 _ _ 53⟩
  have hbW : Below w.heap.size w (w2.alloc (.cells #[.int .u32 N, .int .i64 K] 53)) := hbB.trans ((b1 w2 53 _).mono (by omega))
  obtain ⟨W, HW⟩ : ∃ W, Hid (W = w2.alloc (.cells #[.int .u32 N, .int .i64 K] 53)) := ⟨_, rfl⟩
  obtain ⟨c, HC⟩ : ∃ c, Hid (c = w1.heap.size) := ⟨_, rfl⟩
  obtain ⟨r, HR⟩ : ∃ r, Hid (r = w2.heap.size) := ⟨_, rfl⟩
  rw [← HW.out, ← HC.out, ← HR.out] at hS4 ⊢
  rw [← HW.out] at hbW
  have hcl : c < W.heap.size := World.block_lt_of_cell? _ _ hS4.1.1
  have hrl : r < W.heap.size := World.block_lt_of_cell? _ _ hS4.2.1
  clear HW HC HR hbB hS2 hb1 hb2 hs1 hs2
  have hNv : Rg N K ∨ N ≤ v := hNK.elim .inl (fun h => .inr (by omega))
  have hK0 : Rg N K ∨ K = 0 := hNK.elim .inl (fun h => .inr h.2)
  have H17 : Hid (∀ w, Calls Try.prog 17 #[rg N K] w fun e w' => e = .returned (.int .i64 K) ∧ Below w.heap.size w w') := fun w => parts_any N K w
  have H18 : Hid (∀ w, Calls Try.prog 18 #[rg N K] w fun e w' => e = .returned (.int .u32 N) ∧ Below w.heap.size w w') := fun w => vertices_any N K w
  have H15 : Hid (∀ w, Calls Try.prog 15 #[rg N K, .int .u32 v] w fun e w' => e = .returned (.int .i64 (pt N K v)) ∧ Below w.heap.size w w') := fun w => part_any N K v hNv hv0 hv1 w
  have H19 : Hid (∀ w, Calls Try.prog 19 #[rg N K, .int .u32 v] w fun e w' => e = .returned (.int .i64 (pt N K v)) ∧ Below w.heap.size w w') := fun w => rpart_any N K v hNv hv0 hv1 w
  have H20 : Hid (∀ w, Calls Try.prog 20 #[rg N K, .int .i64 p] w fun e w' => Below w.heap.size w w' ∧ e = .returned (.tuple (if p < 0 ∨ K ≤ p then #[.int .u32 0, .int .u32 0] else #[.int .u32 (sta N K p), .int .u32 (sta N K (p + 1))]))) := fun w => span_any N K p hK0 w
  have H21 : Hid (∀ w, Calls Try.prog 21 #[rg N K, .int .i64 p] w fun e w' => Below w.heap.size w w' ∧ e = .returned (.tuple (if p < 0 ∨ K ≤ p then #[.int .u32 0, .int .u32 0] else #[.int .u32 (sta N K p), .int .u32 (sta N K (p + 1))]))) := fun w => rspan_any N K p hK0 w
  have H22 : Hid (∀ w, Calls Try.prog 22 #[rg N K, eV v 1 0] w fun e w' => e = .returned (.int .i64 (pt N K v)) ∧ Below w.heap.size w w') := fun w => bySrc_any N K v 1 0 hNv hv0 hv1 w
  have H23 : Hid (∀ w, Calls Try.prog 23 #[rg N K, eV 1 v 0] w fun e w' => e = .returned (.int .i64 (pt N K v)) ∧ Below w.heap.size w w') := fun w => byDst_any N K 1 v 0 hNv hv0 hv1 w
  have H14 : Hid (∀ w, Calls Try.prog 14 #[rg N K, uV v 0 0] w fun e w' => e = .returned (.int .i64 (pt N K v)) ∧ Below w.heap.size w w') := fun w => byTo_any N K v 0 0 hNv hv0 hv1 w
  obtain ⟨X, Y, HXY⟩ : ∃ X Y : Int, Hid ((if p < 0 ∨ K ≤ p then #[.int .u32 0, .int .u32 0] else #[.int .u32 (sta N K p), .int .u32 (sta N K (p + 1))] : Array Value) = #[.int .u32 X, .int .u32 Y]) := by
    by_cases h : p < 0 ∨ K ≤ p
    · exact ⟨0, 0, if_pos h⟩
    · exact ⟨_, _, if_neg h⟩
  rw [HXY.out] at H20 H21
  clear HXY hNv hK0 hNK
  generalize pt N K v = T at *
  have hS : Hid (S4 c r N K W.drew) := hS4
  have hd : Below W.heap.size W W.drew := (Below.refl _ _).drew
  clear hS4
  go_region_held3 (S4 c r N K) ((with_reducible exact hS.out))
    ((first
      | (go_at_call 9; refine (num_any _ _).mono ?_; rintro e5 w5 ⟨rfl, rfl⟩)
      | (go_at_call 17; refine (H17.out _).mono ?_; rintro e5 w5 ⟨rfl, o5⟩; (replace hS : Hid (S4 c r N K w5) := S4.below hS.out o5 (Nat.lt_of_lt_of_le hcl hd.size) (Nat.lt_of_lt_of_le hrl hd.size)); (replace hd := hd.trans (o5.mono hd.size)); clear o5)
      | (go_at_call 18; refine (H18.out _).mono ?_; rintro e5 w5 ⟨rfl, o5⟩; (replace hS : Hid (S4 c r N K w5) := S4.below hS.out o5 (Nat.lt_of_lt_of_le hcl hd.size) (Nat.lt_of_lt_of_le hrl hd.size)); (replace hd := hd.trans (o5.mono hd.size)); clear o5)
      | (go_at_call 15; refine (H15.out _).mono ?_; rintro e5 w5 ⟨rfl, o5⟩; (replace hS : Hid (S4 c r N K w5) := S4.below hS.out o5 (Nat.lt_of_lt_of_le hcl hd.size) (Nat.lt_of_lt_of_le hrl hd.size)); (replace hd := hd.trans (o5.mono hd.size)); clear o5)
      | (go_at_call 19; refine (H19.out _).mono ?_; rintro e5 w5 ⟨rfl, o5⟩; (replace hS : Hid (S4 c r N K w5) := S4.below hS.out o5 (Nat.lt_of_lt_of_le hcl hd.size) (Nat.lt_of_lt_of_le hrl hd.size)); (replace hd := hd.trans (o5.mono hd.size)); clear o5)))
  have hq := hS.out
  obtain ⟨⟨c0, c1⟩, ⟨r0, r1⟩⟩ := hq
  go_wp2_with (fail)
  refine (H20.out _).mono ?_
  rintro e5 w5 ⟨o5, rfl⟩
  clear c0 c1 r0 r1
  replace hS : Hid (S4 c r N K w5) := S4.below hS.out o5 (Nat.lt_of_lt_of_le hcl hd.size) (Nat.lt_of_lt_of_le hrl hd.size)
  replace hd := hd.trans (o5.mono hd.size)
  clear o5
  have hq := hS.out
  obtain ⟨⟨c0, c1⟩, ⟨r0, r1⟩⟩ := hq
  go_wp2_with (fail)
  refine (H21.out _).mono ?_
  rintro e5 w5 ⟨o5, rfl⟩
  clear c0 c1 r0 r1
  replace hS : Hid (S4 c r N K w5) := S4.below hS.out o5 (Nat.lt_of_lt_of_le hcl hd.size) (Nat.lt_of_lt_of_le hrl hd.size)
  replace hd := hd.trans (o5.mono hd.size)
  clear o5
  go_wp2
  replace hS : Hid (S4 c r N K (World.drew _)) := hS
  replace hd := hd.drew
  go_region_held3 (S4 c r N K) ((with_reducible exact hS.out))
    ((first
      | (go_at_call 22; refine (H22.out _).mono ?_; rintro e5 w5 ⟨rfl, o5⟩; (replace hS : Hid (S4 c r N K w5) := S4.below hS.out o5 (Nat.lt_of_lt_of_le hcl hd.size) (Nat.lt_of_lt_of_le hrl hd.size)); (replace hd := hd.trans (o5.mono hd.size)); clear o5)
      | (go_at_call 23; refine (H23.out _).mono ?_; rintro e5 w5 ⟨rfl, o5⟩; (replace hS : Hid (S4 c r N K w5) := S4.below hS.out o5 (Nat.lt_of_lt_of_le hcl hd.size) (Nat.lt_of_lt_of_le hrl hd.size)); (replace hd := hd.trans (o5.mono hd.size)); clear o5)
      | (go_at_call 14; refine (H14.out _).mono ?_; rintro e5 w5 ⟨rfl, o5⟩; (replace hS : Hid (S4 c r N K w5) := S4.below hS.out o5 (Nat.lt_of_lt_of_le hcl hd.size) (Nat.lt_of_lt_of_le hrl hd.size)); (replace hd := hd.trans (o5.mono hd.size)); clear o5)
      | (go_at_call 19; refine (H19.out _).mono ?_; rintro e5 w5 ⟨rfl, o5⟩; (replace hS : Hid (S4 c r N K w5) := S4.below hS.out o5 (Nat.lt_of_lt_of_le hcl hd.size) (Nat.lt_of_lt_of_le hrl hd.size)); (replace hd := hd.trans (o5.mono hd.size)); clear o5)))
  clear hS H14 H15 H17 H18 H19 H20 H21 H22 H23
  have hbX := hbW.trans (hd.mono hbW.size)
  clear hd hbW
  go_wp2_with (fail)
  refine (span_any 0 0 0 (.inr rfl) _).mono ?_
  rintro e6 w6 ⟨o6, rfl⟩
  rw [if_pos (.inr (Int.le_refl 0))]
  have hZ : S2 w5.heap.size (.int .u32 0) (.int .i64 0) w6 := (S2.new w5 _ _ 39).below o6 (by simp)
  have hlz : w5.heap.size < w6.heap.size := by have := o6.size; simp at this; omega
  replace hbX : Below w.heap.size w w6 := (hbX.alloc hbX.size _).trans (o6.mono (by have := hbX.size; simp; omega))
  clear o6
  generalize w5.heap.size = g at *
  obtain ⟨z0, z1⟩ := id hZ
  go_wp2_with (fail)
  refine (parts_any 0 0 _).mono ?_
  rintro e7 w7 ⟨rfl, o7⟩
  clear z0 z1
  replace hZ := hZ.below o7 hlz
  replace hlz := Nat.lt_of_lt_of_le hlz o7.size
  replace hbX := hbX.trans (o7.mono hbX.size)
  clear o7
  obtain ⟨z0, z1⟩ := id hZ
  go_wp2_with (fail)
  refine (vertices_any 0 0 _).mono ?_
  rintro e7 w7 ⟨rfl, o7⟩
  clear z0 z1
  replace hZ := hZ.below o7 hlz
  replace hlz := Nat.lt_of_lt_of_le hlz o7.size
  replace hbX := hbX.trans (o7.mono hbX.size)
  clear o7
  obtain ⟨z0, z1⟩ := id hZ
  go_wp2_with (fail)
  refine (part_any 0 0 v (.inr hv0) hv0 hv1 _).mono ?_
  rintro e7 w7 ⟨rfl, o7⟩
  clear z0 z1
  replace hZ := hZ.below o7 hlz
  replace hlz := Nat.lt_of_lt_of_le hlz o7.size
  replace hbX := hbX.trans (o7.mono hbX.size)
  clear o7
  rw [pt_none hv0]
  go_wp2
  go_ret
  exact ⟨by simp, hbX⟩
set_option maxRecDepth 100000 in
theorem lifted (os : Os) (started : os.Started) (H : Type) (enc : TypeId × Value → H) :
    ReturnsInHanded {} Try.checked os 6 .any (Rows.sieveRangesSpec.pre6 enc Try.prog Try.f6 Rows.sieveRangesRow.domain false) (Rows.sieveRangesSpec.post enc Try.prog Try.f6 false true false false) := by
  refine returnsInHanded_of_change (C := Try.checked) own started (by kernel_rfl) Try.func6
    (ChangeSpec.witness6 (enc := enc) (C := Try.checked) false ⟨#[], #[.int .u32 0, .int .i64 0, .int .u32 0, .int .i64 0], []⟩ 8 (by kernel_rfl) (by kernel_rfl) (by kernel_rfl) (by kernel_rfl)) ?_
  intro W base args ds gs before hval0 hW hcnd _
  have hval : ∀ (j : Nat) t v, Try.f6.params[j]? = some t → args[j]? = some v → Value.okWide Try.prog W .any base t v := hval0
  have hW' := hW
  obtain ⟨p, q, hA0, hV, rfl, hfz, hnd⟩ := hW
  have hA : DataW.TrodAll enc Try.prog W 0 (fun _ => true) true Try.f6.params.toList args.toList ds p := hA0
  rw [Try.params6] at hA hval
  obtain ⟨v0, vs0, d0, ds0, p0, q0, hargs, rfl, rfl, h0, r0⟩ := trodAll_cons hA
  obtain ⟨v1, vs1, d1, ds1, p1, q1, rfl, rfl, rfl, h1, r1⟩ := trodAll_cons r0
  obtain ⟨v2, vs2, d2, ds2, p2, q2, rfl, rfl, rfl, h2, r2⟩ := trodAll_cons r1
  obtain ⟨v3, vs3, d3, ds3, p3, q3, rfl, rfl, rfl, h3, r3⟩ := trodAll_cons r2
  obtain ⟨rfl, rfl, rfl⟩ := trodAll_nil r3
  obtain rfl : args = #[v0, v1, v2, v3] := by cases args; simp_all
  obtain ⟨rfl, rfl⟩ := trodVars_none hV
  obtain ⟨a0, rfl, rfl, rfl, w0⟩ := open_int Try.underlying27 (hval 0 27 v0 rfl rfl) h0
  obtain ⟨a1, rfl, rfl, rfl, w1⟩ := open_int Try.underlying3 (hval 1 3 v1 rfl rfl) h1
  obtain ⟨a2, rfl, rfl, rfl, w2⟩ := open_int Try.underlying27 (hval 2 27 v2 rfl rfl) h2
  obtain ⟨a3, rfl, rfl, rfl, w3⟩ := open_int Try.underlying3 (hval 3 3 v3 rfl rfl) h3
  clear hA0 hval0
  simp only [List.append_nil] at hW'
  have u0 : 0 ≤ a0 ∧ a0 ≤ 4294967295 := by simp [Lit.wf, IntKind.min, IntKind.max, IntKind.signed, IntKind.bits] at w0; omega
  have u2 : 0 ≤ a2 ∧ a2 ≤ 4294967295 := by simp [Lit.wf, IntKind.min, IntKind.max, IntKind.signed, IntKind.bits] at w2; omega
  refine (walk a0 a1 a2 a3 u0.1 u0.2 u2.1 u2.2 W).mono fun e W' ⟨he, bel⟩ => ?_
  subst he
  exact ⟨_, rfl, _, _, _, [], _, [], hW', trodAll_mk1 (shut_bool Try.underlying4 _), (trodAll_cons_mk (shut_int Try.underlying27 w0) (trodAll_cons_mk (shut_int Try.underlying3 w1) (trodAll_cons_mk (shut_int Try.underlying27 w2) (trodAll_cons_mk (shut_int Try.underlying3 w3) trodAll_mk0)))), rfl, bel.frame _, fun h => by cases h⟩
theorem over : Rows.sieveRangesRow.holds Try.pinned (OpenSpec.ofChange Rows.sieveRangesSpec) :=
  OpenClaim.holds_of_wide 6 Try.f6 rfl rfl rfl rfl rfl rfl rfl ⟨rfl, rfl, rfl, rfl, rfl⟩ rfl rfl rfl rfl rfl (by kernel_rfl) Try.func6 (by kernel_rfl)
    (of_decide_eq_true (by kernel_rfl)) (by unfold Func.isWrapper; first | (rw [if_pos (by decide +kernel)]; kernel_rfl) | (rw [if_neg (by decide +kernel)]; exact ⟨rfl, rfl⟩))
    (fun os started H enc _ => lifted os started H enc)
end Go.Proofs.Ytclgbificccadaa.sieveRanges
namespace Go.Proofs.Ytclgbificccadaa
theorem sieveRanges_holds : Rows.SieveRangesSaid := sieveRanges.over
#print axioms sieveRanges_holds
end Go.Proofs.Ytclgbificccadaa
