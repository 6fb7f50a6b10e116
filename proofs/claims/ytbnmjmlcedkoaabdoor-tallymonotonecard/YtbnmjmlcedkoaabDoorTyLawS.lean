import Derived.Test.YtbnmjmlcedkoaabDoorTyNo
namespace Go.Proofs.YtbnmjmlcedkoaabDoor
namespace Ty
open Go.RowKit
set_option linter.unusedVariables false
theorem sizeWords : (Tryd.prog.info? 41).map (·.size) = some 6 := by kernel_rfl
theorem feq (a b : Nat) (B : Bool) (h : (FloatKind.f32.format.order a b == some .eq) = B) (w : World) : (binOp .eql 43 (.float .f32 a) (.float .f32 b)).run Tryd.prog w = .ok (.bool B) w := by
  simp [binOp, Op.floatCmp, h]
theorem feq_fin (u v : Int) (hu : 0 ≤ u ∧ u < 4294967296 ∧ u % 2147483648 < 2139095040) (hv : 0 ≤ v ∧ v < 4294967296 ∧ v % 2147483648 < 2139095040) (w : World) : (binOp .eql 43 (.float .f32 u.toNat) (.float .f32 v.toNat)).run Tryd.prog w = .ok (.bool (decide (un u = un v))) w := by
  refine feq _ _ _ ?_ w
  have h := order_fin u.toNat v.toNat (by omega) (by omega) (by omega) (by omega)
  rw [Int.toNat_of_nonneg hu.1, Int.toNat_of_nonneg hv.1] at h
  rw [h]
  by_cases e : un u = un v
  · rw [decide_eq_true e, e]; simp
  · rw [decide_eq_false e]
    have : compare (un u) (un v) ≠ .eq := fun hh => e (Int.compare_eq_eq.1 hh)
    simp [this]
theorem mg_zero (z : Int) (h0 : 0 ≤ z) (h : mg z = 0) : z = 0 := by
  unfold mg at h
  rcases Int.mul_eq_zero.1 h with h | h
  · unfold M0 at h; split at h <;> omega
  · have := pw (S0 z); omega
theorem un_zero (u : Int) (h0 : 0 ≤ u) (h1 : u < 4294967296) (h : un u = 0) : u = 0 ∨ u = 2147483648 := by
  have h2 : mag u = 0 := by unfold un at h; split at h <;> omega
  rw [mag_mg] at h2
  have := mg_zero _ (by omega) h2
  omega
theorem over_ex (A n mode : Int) (h : Sg A) (h0 : 0 < n) (h1 : n < 18446744073709551616) (m0 : 0 ≤ mode) (m1 : mode ≤ 3) : ∃ L : Nat, IsLen (ab A / n) L ∧ ∀ mode, 0 ≤ mode → mode ≤ 3 → ∀ w, Calls Tryd.prog 21 #[.agg (sm A), .int .u64 n, .int .i64 mode] w fun e w' => e = .returned (.tuple #[.float .f32 (rU (decide (A < 0)) (sz A n mode L)).toNat, .int .i64 (rE (sz A n mode L))]) ∧ Below w.heap.size w w' := by
  have hab := ab_b A h
  have q0 : 0 ≤ ab A / n := Int.ediv_nonneg hab.1 (by omega)
  have q1 : ab A / n < 2 ^ 384 := by
    have e : (2 : Int) ^ 384 = 2 * 2 ^ 383 := p384
    have := pw 383
    have := Int.ediv_le_self n hab.1
    omega
  obtain ⟨L, hl, hL⟩ := len_ex (ab A / n) q0 384 q1
  exact ⟨L, hL, fun mode m0 m1 w => over_any A n mode L h h0 h1 m0 m1 hL hl w⟩
set_option maxRecDepth 8000 in
set_option maxHeartbeats 400000 in
theorem share_walk (A n : Int) (h : Sg A) (n0 : 0 ≤ n) (n1 : n < 18446744073709551616) (w : World) (ht : Cl.TabAt w) :
    Calls Tryd.prog 5 #[.agg (sm A), .int .u64 n] w fun e w' => e = .returned (.bool true) ∧ Below w.heap.size w w' := by
  obtain ⟨K, hK, K0, K1⟩ : ∃ K, 1 + n % 1099511627776 = K ∧ 0 < K ∧ K ≤ 1099511627776 := ⟨_, rfl, by omega, by omega⟩
  obtain ⟨L, hL, HO⟩ := over_ex A K 0 h K0 (by omega) (by omega) (by omega)
  obtain ⟨L1, hL1, HO1⟩ := over_ex A 1 0 h (by omega) (by omega) (by omega) (by omega)
  have HO2 : Hid (∀ w, Calls Tryd.prog 21 #[.agg (sm A), .int .u64 K, .int .i64 2] w fun e w' => e = .returned (.tuple #[.float .f32 (rU (decide (A < 0)) (sz A K 2 L)).toNat, .int .i64 (rE (sz A K 2 L))]) ∧ Below w.heap.size w w') := HO 2 (by omega) (by omega)
  have HO3 : Hid (∀ w, Calls Tryd.prog 21 #[.agg (sm A), .int .u64 K, .int .i64 3] w fun e w' => e = .returned (.tuple #[.float .f32 (rU (decide (A < 0)) (sz A K 3 L)).toNat, .int .i64 (rE (sz A K 3 L))]) ∧ Below w.heap.size w w') := HO 3 (by omega) (by omega)
  have HOn : Hid (∀ w, Calls Tryd.prog 21 #[.agg (sm A), .int .u64 1, .int .i64 0] w fun e w' => e = .returned (.tuple #[.float .f32 (rU (decide (A < 0)) (sz A 1 0 L1)).toNat, .int .i64 (rE (sz A 1 0 L1))]) ∧ Below w.heap.size w w') := HO1 0 (by omega) (by omega)
  have HRn : Hid (∀ w, Calls Tryd.prog 15 #[.agg (sm A), .int .i64 0] w fun e w' => e = .returned (.tuple #[.float .f32 (rU (decide (A < 0)) (sz A 1 0 L1)).toNat, .int .i64 (rE (sz A 1 0 L1))]) ∧ Below w.heap.size w w') := fun w => round_any A 0 _ _ w (HO1 0 (by omega) (by omega))
  have HS : Hid (sz A K 2 L < 2139095040 → sz A K 3 L < 2139095040 → ∃ u v : Int, rU (decide (A < 0)) (sz A K 2 L) = u ∧ rU (decide (A < 0)) (sz A K 3 L) = v ∧ (0 ≤ u ∧ u < 4294967296 ∧ u % 2147483648 < 2139095040) ∧ (0 ≤ v ∧ v < 4294967296 ∧ v % 2147483648 < 2139095040) ∧
      un u * K ≤ A ∧ A ≤ un v * K ∧ (un u * K = A ↔ ix A K L = false) ∧ (un v * K = A ↔ ix A K L = false) ∧ (un u = un v ↔ ix A K L = false) ∧ (-(2 ^ 277) ≤ un u ∧ un u ≤ 2 ^ 277) ∧ (-(2 ^ 277) ≤ un v ∧ un v ≤ 2 ^ 277) ∧
      (ix A K L = true → (u < 2147483648 ∧ v = u + 1) ∨ (2147483648 < u ∧ v = u - 1))) := fun a b => share A K L h K0 hL a b
  have HE2 : Hid (rE (sz A K 2 L) = if 2139095040 ≤ sz A K 2 L then 20 else 0) := rfl
  have HE3 : Hid (rE (sz A K 3 L) = if 2139095040 ≤ sz A K 3 L then 20 else 0) := rfl
  have HT : Hid (Cl.TabAt w) := ht
  have HSg : Hid (Sg A) := h
  have HCM : Hid (∀ u, (0 ≤ u ∧ u < 4294967296 ∧ u % 2147483648 < 2139095040) → (-(2 ^ 277) ≤ un u ∧ un u ≤ 2 ^ 277) → ∀ w, Calls Tryd.prog 14 #[.agg (sm (un u * K)), .agg (sm A)] w fun e w' => e = .returned (.int .i64 (cp (un u * K) A)) ∧ Below w.heap.size w w') := fun u _ hb w => compare_any _ _ (sg_mul (un u) K hb K0 K1) h w
  clear HO HO1 hL hL1 ht h
  obtain ⟨v0, hv0, hv0b, hv0s, hv00⟩ : ∃ v0, w.alloc (.cells (sm A) 41) = v0 ∧ Below w.heap.size w v0 ∧ v0.heap.size = w.heap.size + 1 ∧ v0.heap[w.heap.size]? = some (.cells (sm A) 41 (0, 0)) := ⟨_, rfl, (Below.refl _ _).alloc (Nat.le_refl _) _, by simp, heap_alloc_last w _⟩
  generalize sz A K 2 L = z2 at *
  generalize sz A K 3 L = z3 at *
  generalize sz A 1 0 L1 = z1 at *
  generalize ix A K L = X at *
  have hone := sm_one A
  have hsa : (sm A).size = 6 := rfl
  have hal1 := heap_alloc_last v0 (.cells #[.int .u64 0, .int .u64 0, .int .u64 0, .int .u64 0, .int .u64 0, .int .u64 0] 27)
  rw [hv0s] at hal1
  obtain ⟨v1, hv1, b1, s1, q1⟩ : ∃ v1, (v0.alloc (.cells #[.int .u64 0, .int .u64 0, .int .u64 0, .int .u64 0, .int .u64 0, .int .u64 0] 27)).setRow (w.heap.size + 1) (sm A) = v1 ∧ Below w.heap.size w v1 ∧ v1.heap.size = w.heap.size + 1 + 1 ∧ v1.heap[w.heap.size + 1]? = some (.cells (sm A) 27 (0, 0)) :=
    ⟨_, rfl, below_setRow _ _ (hv0b.alloc (by omega) _) (by omega), by simp [hv0s], setRow_heap _ (w.heap.size + 1) _ _ 27 (0, 0) hal1⟩
  generalize hcA : sm A = ca at *
  have HCA : Hid (sm A = ca) := hcA
  clear hcA
  have hK2 : IntKind.u64.wrap (1 + n % 1099511627776) = K := by rw [IntKind.wrap_u64, hK]; omega
  go_enter Tryd.func5, Tryd.ntmps5
  go_wp2_with (first
    | (refine wpList_load6 41 _ Tryd.underlying41 sizeWords rfl _ rfl w.heap.size ca rfl hsa hv00 ?_)
    | (refine wpList_store6 27 sizeSum rfl _ _ rfl (w.heap.size + 1) ca _ rfl rfl hsa rfl hone hal1 ?_; rw [hv1])
    | (refine wpList_load6 27 _ Tryd.underlying27 sizeSum rfl _ rfl (w.heap.size + 1) ca rfl hsa q1 ?_))
  clear hv0 hv1 hal1 hv00 hv0b hv0s
  refine (HO2.out _).mono ?_
  rintro e2 w2 ⟨rfl, hw2⟩
  have b2 := below_chain b1 hw2 (Nat.le_refl _)
  have q2 := (hw2.block _ (by omega)).trans q1
  have l2 : w.heap.size + 1 < w2.heap.size := (Array.getElem?_eq_some_iff.1 q2).1
  clear hw2 q1 b1 s1
  go_wp2_with (refine wpList_load6 27 _ Tryd.underlying27 sizeSum rfl _ rfl (w.heap.size + 1) ca rfl hsa q2 ?_)
  refine (HO3.out _).mono ?_
  rintro e3 w3 ⟨rfl, hw3⟩
  have b3 := below_chain b2 hw3 (Nat.le_refl _)
  have q3 := (hw3.block _ l2).trans q2
  have l3 : w.heap.size + 1 < w3.heap.size := (Array.getElem?_eq_some_iff.1 q3).1
  clear hw3 q2 b2 l2
  go_wp2_with (refine wpList_load6 27 _ Tryd.underlying27 sizeSum rfl _ rfl (w.heap.size + 1) ca rfl hsa q3 ?_)
  refine (HOn.out _).mono ?_
  rintro e4 w4 ⟨rfl, hw4⟩
  have b4 := below_chain b3 hw4 (Nat.le_refl _)
  have q4 := (hw4.block _ l3).trans q3
  have l4 : w.heap.size + 1 < w4.heap.size := (Array.getElem?_eq_some_iff.1 q4).1
  clear hw4 q3 b3 l3
  go_wp2_with (refine wpList_load6 27 _ Tryd.underlying27 sizeSum rfl _ rfl (w.heap.size + 1) ca rfl hsa q4 ?_)
  refine (HRn.out _).mono ?_
  rintro e5 w5 ⟨rfl, hw5⟩
  have b5 := below_chain b4 hw5 (Nat.le_refl _)
  have q5 := (hw5.block _ l4).trans q4
  have l5 : w.heap.size + 1 < w5.heap.size := (Array.getElem?_eq_some_iff.1 q5).1
  clear hw5 q4 b4 l4 HOn HRn HO2 HO3
  generalize (rU (decide (A < 0)) z1).toNat = u1 at *
  generalize rE z1 = E1 at *
  go_wp2_with (fail)
  refine (awake_any w5 (tab_on HT.out b5)).mono ?_
  rintro e6 w6 ⟨rfl, hw6⟩
  have b6 := below_chain b5 hw6 (Nat.le_refl _)
  have q6 := (hw6.block _ l5).trans q5
  have l6 : w.heap.size + 1 < w6.heap.size := (Array.getElem?_eq_some_iff.1 q6).1
  clear hw6 q5 b5 l5
  by_cases c2 : 2139095040 ≤ z2
  · have hE2 : rE z2 = 20 := by rw [HE2.out, if_pos c2]
    have hE3 : rE z3 = 20 ∨ rE z3 = 0 := by rw [HE3.out]; split <;> simp
    rw [hE2]
    rcases hE3 with hE3 | hE3
    all_goals
      rw [hE3]
      generalize (rU (decide (A < 0)) z2).toNat = u2 at *
      generalize (rU (decide (A < 0)) z3).toNat = u3 at *
      clear HS HCM HE2 HE3 hE2 hE3
      go_wp2_with (first
        | (go_at_call 10; refine (Cl.num_any _ _).mono ?_; rintro e9 w9 ⟨rfl, hw9⟩; subst w9)
        | (go_at_call 19; refine (Cl.bits_any _ _).mono ?_; rintro e9 w9 ⟨rfl, hw9⟩; subst w9))
      go_ret
      exact ⟨rfl, b6⟩
  have hE2 : rE z2 = 0 := by rw [HE2.out, if_neg c2]
  by_cases c3 : 2139095040 ≤ z3
  · have hE3 : rE z3 = 20 := by rw [HE3.out, if_pos c3]
    rw [hE2, hE3]
    generalize (rU (decide (A < 0)) z2).toNat = u2 at *
    generalize (rU (decide (A < 0)) z3).toNat = u3 at *
    clear HS HCM HE2 HE3 hE2 hE3
    go_wp2_with (first
        | (go_at_call 10; refine (Cl.num_any _ _).mono ?_; rintro e9 w9 ⟨rfl, hw9⟩; subst w9)
        | (go_at_call 19; refine (Cl.bits_any _ _).mono ?_; rintro e9 w9 ⟨rfl, hw9⟩; subst w9))
    go_ret
    exact ⟨rfl, b6⟩
  have hE3 : rE z3 = 0 := by rw [HE3.out, if_neg c3]
  rw [hE2, hE3]
  obtain ⟨u, v, hu, hv, ub, vb, f1, f2, f3, f4, f5, ubb, vbb, f6⟩ := HS.out (by omega) (by omega)
  rw [hu, hv]
  have HOu : Hid (∀ W, Below w.heap.size w W → Calls Tryd.prog 16 #[.float .f32 u.toNat] W fun e w' => e = .returned (.agg (sm (un u))) ∧ Below W.heap.size W w') := fun W hb => of_one u ub.1 ub.2.1 ub.2.2 W (tab_on HT.out hb)
  have HOv : Hid (∀ W, Below w.heap.size w W → Calls Tryd.prog 16 #[.float .f32 v.toNat] W fun e w' => e = .returned (.agg (sm (un v))) ∧ Below W.heap.size W w') := fun W hb => of_one v vb.1 vb.2.1 vb.2.2 W (tab_on HT.out hb)
  have HTu : Hid (∀ W, Calls Tryd.prog 22 #[.agg (sm (un u)), .int .i64 K] W fun e w' => e = .returned (.agg (sm (un u * K))) ∧ Below W.heap.size W w') := fun W => times_any (un u) K (by omega) (by omega) W
  have HTv : Hid (∀ W, Calls Tryd.prog 22 #[.agg (sm (un v)), .int .i64 K] W fun e w' => e = .returned (.agg (sm (un v * K))) ∧ Below W.heap.size W w') := fun W => times_any (un v) K (by omega) (by omega) W
  have HCu : Hid (∀ w, Calls Tryd.prog 14 #[.agg (sm (un u * K)), .agg ca] w fun e w' => e = .returned (.int .i64 (cp (un u * K) A)) ∧ Below w.heap.size w w') := HCM.out u ub ubb
  have HCv : Hid (∀ w, Calls Tryd.prog 14 #[.agg (sm (un v * K)), .agg ca] w fun e w' => e = .returned (.int .i64 (cp (un v * K) A)) ∧ Below w.heap.size w w') := HCM.out v vb vbb
  have hFE := feq_fin u v ub vb
  have hFV := feq_fin v v vb vb
  have hF0 := feq_fin u 0 ub (by decide)
  have hbu : ((u.toNat : Nat) : Int) = u := Int.toNat_of_nonneg ub.1
  have HBU : Hid (((u.toNat : Nat) : Int) = u) := hbu
  rw [show un 0 = 0 from rfl, show (0 : Int).toNat = 0 from rfl] at hF0
  clear HS HE2 HE3 hE2 hE3 HCM hu hv
  generalize hxu : un u = xu at *
  generalize hxv : un v = xv at *
  have HXU : Hid (un u = xu) := hxu
  have HF : Hid (xu * K ≤ A ∧ A ≤ xv * K ∧ (xu * K = A ↔ X = false) ∧ (xv * K = A ↔ X = false) ∧ (xu = xv ↔ X = false) ∧ (X = true → (u < 2147483648 ∧ v = u + 1) ∨ (2147483648 < u ∧ v = u - 1))) := ⟨f1, f2, f3, f4, f5, f6⟩
  have HFE : Hid (∀ w, (binOp .eql 43 (.float .f32 u.toNat) (.float .f32 v.toNat)).run Tryd.prog w = .ok (.bool (decide (xu = xv))) w) := hFE
  have HFV : Hid (∀ w, (binOp .eql 43 (.float .f32 v.toNat) (.float .f32 v.toNat)).run Tryd.prog w = .ok (.bool (decide (xv = xv))) w) := hFV
  have HF0 : Hid (∀ w, (binOp .eql 43 (.float .f32 u.toNat) (.float .f32 0)).run Tryd.prog w = .ok (.bool (decide (xu = 0))) w) := hF0
  have hwK : IntKind.i64.wrap K = K := by rw [IntKind.wrap_i64]; omega
  clear hxu hxv f1 f2 f3 f4 f5 f6 ubb vbb hFE hFV hF0
  go_wp2_with (first
        | (go_at_call 10; refine (Cl.num_any _ _).mono ?_; rintro e9 w9 ⟨rfl, hw9⟩; subst w9)
        | (go_at_call 19; refine (Cl.bits_any _ _).mono ?_; rintro e9 w9 ⟨rfl, hw9⟩; subst w9))
  rw [← HCA.out] at q6
  have hcw6 := (cells6 (row_sm q6)).1
  have bw6 := b6
  have hsq : ca = #[.int .u64 (wd A 0), .int .u64 (wd A 1), .int .u64 (wd A 2), .int .u64 (wd A 3), .int .u64 (wd A 4), .int .u64 (wd A 5)] := HCA.out.symm
  rw [hsq] at HCu HCv
  have HC6 : Hid (C6 w6 (w.heap.size + 1) A) := hcw6
  clear hsq q6 hone hsa
  have hdp : Hid (C6 w6.drew (w.heap.size + 1) A) := hcw6
  have bdp : Below w.heap.size w w6.drew := bw6.drew
  go_region_held3 (fun W => C6 W (w.heap.size + 1) A) ((first | with_reducible exact hdp.out | with_reducible exact hpa.out | with_reducible exact hpb.out | with_reducible exact hpc.out))
    ((first
      | (go_at_call 16; refine (HOu.out _ bdp).mono ?_; rintro epa pa ⟨rfl, hwpa⟩; have hpa : Hid (C6 pa (w.heap.size + 1) A) := C6.on hdp.out hwpa; have bpa := below_chain bdp hwpa (Nat.le_refl _))
      | (go_at_call 22; refine (HTu.out _).mono ?_; rintro epb pb ⟨rfl, hwpb⟩; have hpb : Hid (C6 pb (w.heap.size + 1) A) := C6.on hpa.out hwpb; have bpb := below_chain bpa hwpb (Nat.le_refl _))
      | (go_at_call 14; refine (HCu.out _).mono ?_; rintro epc pc ⟨rfl, hwpc⟩; have hpc : Hid (C6 pc (w.heap.size + 1) A) := C6.on hpb.out hwpc; have bpc := below_chain bpb hwpc (Nat.le_refl _))))
  clear hdp bdp hwpa hwpb hwpc hpa hpb bpa bpb HTu HOu HCu hcw6 HC6
  have hcpc := hpc.out
  go_wp2_with (fail)
  have hdq : Hid (C6 pc.drew (w.heap.size + 1) A) := hcpc
  have bdq : Below w.heap.size w pc.drew := bpc.drew
  go_region_held3 (fun W => C6 W (w.heap.size + 1) A) ((first | with_reducible exact hdq.out | with_reducible exact hqa.out | with_reducible exact hqb.out | with_reducible exact hqc.out))
    ((first
      | (go_at_call 16; refine (HOv.out _ bdq).mono ?_; rintro eqa qa ⟨rfl, hwqa⟩; have hqa : Hid (C6 qa (w.heap.size + 1) A) := C6.on hdq.out hwqa; have bqa := below_chain bdq hwqa (Nat.le_refl _))
      | (go_at_call 22; refine (HTv.out _).mono ?_; rintro eqb qb ⟨rfl, hwqb⟩; have hqb : Hid (C6 qb (w.heap.size + 1) A) := C6.on hqa.out hwqb; have bqb := below_chain bqa hwqb (Nat.le_refl _))
      | (go_at_call 14; refine (HCv.out _).mono ?_; rintro eqc qc ⟨rfl, hwqc⟩; have hqc : Hid (C6 qc (w.heap.size + 1) A) := C6.on hqb.out hwqc; have bqc := below_chain bqb hwqc (Nat.le_refl _))))
  clear hdq bdq hwqa hwqb hwqc hqa hqb hqc bqa bqb HTv HOv HCv hcpc hpc
  obtain ⟨f1, f2, f3, f4, f5, f6⟩ := HF.out
  have hFE := HFE.out
  cases X
  · have e1 : cp (xu * K) A = 0 := by rw [f3.2 rfl]; unfold cp; rw [if_neg (by omega), if_neg (by omega)]
    have e2 : cp (xv * K) A = 0 := by rw [f4.2 rfl]; unfold cp; rw [if_neg (by omega), if_neg (by omega)]
    rw [decide_eq_true (f5.2 rfl)] at hFE
    rw [e1, e2]
    clear f1 f2 f3 f4 f5 f6 e1 e2
    go_wp2
    go_ret
    exact ⟨rfl, bqc⟩
  · have HFG : Hid ((u < 2147483648 ∧ v = u + 1) ∨ (2147483648 < u ∧ v = u - 1)) := f6 rfl
    have g1 : ¬ xu * K = A := fun hh => by have := f3.1 hh; cases this
    have g2 : ¬ xv * K = A := fun hh => by have := f4.1 hh; cases this
    have g3 : ¬ xu = xv := fun hh => by have := f5.1 hh; cases this
    have e1 : cp (xu * K) A = -1 := by unfold cp; rw [if_pos (by omega)]
    have e2 : cp (xv * K) A = 1 := by unfold cp; rw [if_neg (by omega), if_pos (by omega)]
    rw [decide_eq_false g3] at hFE
    rw [e1, e2]
    have hF0 := HF0.out
    have hFV : ∀ w, (binOp .eql 43 (.float .f32 v.toNat) (.float .f32 v.toNat)).run Tryd.prog w = .ok (.bool true) w := fun w => by
      have h := HFV.out w
      simpa using h
    clear f1 f2 f3 f4 f5 f6 e1 e2 g1 g2 g3
    go_wp2_with (fail)
    refine (Cl.bits_any _ _).mono ?_
    rintro e9 w9 ⟨rfl, hw9⟩
    subst w9
    rw [HBU.out]
    go_wp2_with (fail)
    refine (rank_any u ub.1 ub.2.1 _).mono ?_
    rintro e9 w9 ⟨rfl, hw9⟩
    subst w9
    obtain ⟨R, hR, hR0, hR1, hRv⟩ : ∃ R, (if u < 2147483648 then u else 2147483647 - u) + 1 = R ∧ -2147483648 ≤ R ∧ R ≤ 2147483647 ∧ (if R < 0 then 2147483647 - R else R) = v := by
      refine ⟨_, rfl, ?_⟩
      rcases HFG.out with ⟨h1, h2⟩ | ⟨h1, h2⟩
      · rw [if_pos h1, if_neg (by omega)]; omega
      · rw [if_neg (by omega), if_pos (by omega)]; omega
    have hRw : IntKind.i64.wrap ((if u < 2147483648 then u else 2147483647 - u) + 1) = R := by rw [hR, IntKind.wrap_i64]; omega
    have HRK : Hid (∀ w, Calls Tryd.prog 17 #[.int .i64 R] w fun e w' => e = .returned (.tuple #[.int .u32 v, .int .i64 0]) ∧ w' = w) := fun w => by
      have h := ofRank_any R hR0 hR1 w
      rw [hRv] at h; exact h
    have hz0 : xu = 0 → v = 1 := fun h => by
      have h9 := un_zero u ub.1 ub.2.1 (HXU.out.trans h)
      rcases HFG.out with ⟨h1, h2⟩ | ⟨h1, h2⟩ <;> omega
    have HZ0 : Hid (xu = 0 → v = 1) := hz0
    generalize hru : (if u < 2147483648 then u else 2147483647 - u) = ru at *
    clear hz0 hru hRv hR
    go_wp2_with (fail)
    refine (HRK.out _).mono ?_
    rintro e9 w9 ⟨rfl, hw9⟩
    subst w9
    by_cases hx0 : xu = 0
    · have hv1 := HZ0.out hx0
      rw [decide_eq_true hx0] at hF0
      subst hv1
      simp only [show (1 : Int).toNat = 1 from rfl] at hFV
      clear hx0 HZ0 HRK HFG
      go_wp2_with (first
        | (go_at_call 10; refine (Cl.num_any _ _).mono ?_; rintro e9 w9 ⟨rfl, hw9⟩; subst w9)
        | (go_at_call 20; refine (Cl.float_any _ _).mono ?_; rintro e9 w9 ⟨rfl, hw9⟩; subst w9))
      go_ret
      exact ⟨rfl, bqc⟩
    · rw [decide_eq_false hx0] at hF0
      clear HZ0 HRK HFG
      go_wp2_with (first
        | (go_at_call 10; refine (Cl.num_any _ _).mono ?_; rintro e9 w9 ⟨rfl, hw9⟩; subst w9)
        | (go_at_call 20; refine (Cl.float_any _ _).mono ?_; rintro e9 w9 ⟨rfl, hw9⟩; subst w9))
      go_ret
      exact ⟨rfl, bqc⟩
end Ty
end Go.Proofs.YtbnmjmlcedkoaabDoor
