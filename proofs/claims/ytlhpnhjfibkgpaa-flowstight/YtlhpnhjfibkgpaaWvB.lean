import Derived.Test.YtlhpnhjfibkgpaaWvA
namespace Go.Proofs.Ytlhpnhjfibkgpaa
namespace Wp
open Go.RowKit
set_option linter.unusedVariables false
set_option maxRecDepth 8000
theorem w64e (x : Int) : IntKind.i64.wrap x = wrap64 x := by rw [IntKind.wrap_i64]; first | rfl | (unfold wrap64; omega)
def wySc (n k : Int) (c s : Nat → Int) (z : Int) (b : Bool) : Int × Bool := if b = true ∨ s 0 = 9223372036854775807 ∨ n ≤ c 0 ∨ s 2 ≠ c 0 then (0, false) else (IntKind.u64.wrap (wrap64 (s 0) + wt k z), true)
abbrev St3 (q : Nat) (s : Nat → Int) (x y z : Int) (w : World) : Prop := K8 (q + 1) s w ∧ K3 (q + 1 + 1) x y z w
abbrev Sw (wb q : Nat) (n : Int) (c s : Nat → Int) (w : World) : Prop := w.cell? ⟨wb, 0, none⟩ = some (.int .u32 n) ∧ K4 q c w ∧ K8 (q + 1) s w
set_option maxHeartbeats 4000000 in
theorem scatter_wy (wb : Nat) (n q k : Int) (c s : Nat → Int) (x y z : Int) (b : Bool) (h0 : 0 ≤ n) (h1 : n < 4294967296) (hok : s 0 ≠ 9223372036854775807 → -9223372036854775808 ≤ wrap64 (s 0) + wt k z ∧ wrap64 (s 0) + wt k z ≤ 9223372036854775807) (w : World) (hO : WO w wb n q k) : Calls Try.prog 94 #[.pointer (some ⟨wb, 0, none⟩), .agg (cv c), .agg (sv s), .agg (ev x y z), .bool b] w fun e w' => e = .returned (.tuple #[.int .u64 (wySc n k c s z b).1, .int .u64 0, .bool (wySc n k c s z b).2, .int .i64 0]) ∧ Below w.heap.size w w' := by
  cases b with
  | true =>
    have hE : Hid (wySc n k c s z true = (0, false)) := by show _ = _; unfold wySc; rw [if_pos (.inl rfl)]
    rw [hE.out]
    clear hok hO
    go_enter Try.func94, Try.ntmps94
    go_wp2
    all_goals refine bodyPost_ret (results_tmp4 rfl _ _ _) rfl ?_
    all_goals exact ⟨rfl, by repeat first | exact Below.refl _ _ | refine belowD ?_ | refine belowN ?_ _ | refine bA ?_ (by first | exact Nat.le_refl _ | (simp only [World.size_alloc]; omega)) _⟩
  | false =>
    by_cases hs : s 0 = 9223372036854775807
    · have hE : Hid (wySc n k c s z false = (0, false)) := by show _ = _; unfold wySc; rw [if_pos (.inr (.inl hs))]
      rw [hE.out]
      have hb : (s 0 == 9223372036854775807) = true := by simp [hs]
      clear hok hO hs
      go_enter Try.func94, Try.ntmps94
      go_wp2
      all_goals refine bodyPost_ret (results_tmp4 rfl _ _ _) rfl ?_
      all_goals exact ⟨rfl, by repeat first | exact Below.refl _ _ | refine belowD ?_ | refine belowN ?_ _ | refine bA ?_ (by first | exact Nat.le_refl _ | (simp only [World.size_alloc]; omega)) _⟩
    · have hb : (s 0 == 9223372036854775807) = false := by simp [hs]
      have hok' := hok hs
      have HAd := hide (gadd_ok (wrap64 (s 0)) (wt k z) hok'.1 hok'.2)
      rw [← w64e (s 0)] at HAd
      have HWt : Hid (∀ W, Below w.heap.size w W → Calls Try.prog 99 #[.pointer (some ⟨wb, 0, none⟩), .agg (ev x y z)] W fun e w' => e = .returned (.int .i64 (wt k z)) ∧ w' = W.alloc (.cells (ev x y z) 45)) := fun W h => weight_wy wb n q k x y z W (hO.on h)
      have HVd := hide (verdict_pace n c h0 h1)
      have HNw := hide (news_pace n c (s 2))
      have HO := hide hO
      obtain ⟨vd, hvd⟩ : ∃ vd, decide (n ≤ c 0) = vd := ⟨_, rfl⟩
      obtain ⟨nw, hnw⟩ : ∃ nw, (s 2 == c 0) = nw := ⟨_, rfl⟩
      obtain ⟨R1, R2, hR⟩ : ∃ R1 R2, wySc n k c s z false = (R1, R2) := ⟨_, _, rfl⟩
      have HRa : Hid (vd = true → R1 = 0 ∧ R2 = false) := fun e => by
        have p1 : n ≤ c 0 := by rw [e] at hvd; simpa using hvd
        unfold wySc at hR
        rw [if_pos (.inr (.inr (.inl p1)))] at hR
        simp at hR; exact ⟨hR.1.symm, hR.2⟩
      have HRb : Hid (nw = false → R1 = 0 ∧ R2 = false) := fun e => by
        have p2 : s 2 ≠ c 0 := by rw [e] at hnw; simpa using hnw
        unfold wySc at hR
        rw [if_pos (.inr (.inr (.inr p2)))] at hR
        simp at hR; exact ⟨hR.1.symm, hR.2⟩
      have HRc : Hid (vd = false → nw = true → R1 = IntKind.u64.wrap (IntKind.i64.wrap (s 0) + wt k z) ∧ R2 = true) := fun e e' => by
        have p1 : ¬ n ≤ c 0 := by rw [e] at hvd; simpa using hvd
        have p2 : s 2 = c 0 := by rw [e'] at hnw; simpa using hnw
        unfold wySc at hR
        rw [if_neg (by simp [hs, p1, p2]), ← w64e (s 0)] at hR
        simp at hR; exact ⟨hR.1.symm, hR.2⟩
      rw [hR]
      rw [hvd] at HVd
      rw [hnw] at HNw
      have hS3 : Hid (St3 w.heap.size s x y z (((w.alloc (.cells (cv c) 37)).alloc (.cells (sv s) 35)).alloc (.cells (ev x y z) 45)).drew) := by
        refine ⟨?_, ?_⟩
        · have h1 := keep (.cells (ev x y z) 45) (at0 (w.alloc (.cells (cv c) 37)) (.cells (sv s) 35))
          simp only [World.size_alloc] at h1; exact k8 (t := 35) h1
        · have h1 := at0 ((w.alloc (.cells (cv c) 37)).alloc (.cells (sv s) 35)) (.cells (ev x y z) 45)
          simp only [World.size_alloc] at h1; exact k3 (t := 45) h1
      have hz : (((w.alloc (.cells (cv c) 37)).alloc (.cells (sv s) 35)).alloc (.cells (ev x y z) 45)).heap.size = w.heap.size + 1 + 1 + 1 := by simp only [World.size_alloc]
      have HK3 : Hid (∀ W, Below (((w.alloc (.cells (cv c) 37)).alloc (.cells (sv s) 35)).alloc (.cells (ev x y z) 45)).heap.size (((w.alloc (.cells (cv c) 37)).alloc (.cells (sv s) 35)).alloc (.cells (ev x y z) 45)) W → St3 w.heap.size s x y z W) := fun W hB => ⟨K8.on (w := (((w.alloc (.cells (cv c) 37)).alloc (.cells (sv s) 35)).alloc (.cells (ev x y z) 45))) hS3.out.1 hB (by rw [hz]; omega), K3.on (w := (((w.alloc (.cells (cv c) 37)).alloc (.cells (sv s) 35)).alloc (.cells (ev x y z) 45))) hS3.out.2 hB (by rw [hz]; omega)⟩
      clear hok hok' hs hO hvd hnw hz hR
      go_enter Try.func94, Try.ntmps94
      go_wp2_with (fail)
      go_region_held3 (St3 w.heap.size s x y z) ((first | with_reducible exact hS3.out | (refine HK3.out _ ?_; repeat first | exact Below.refl _ _ | refine belowD ?_ | refine belowN ?_ _ | refine bA ?_ (by first | exact Nat.le_refl _ | (simp only [World.size_alloc]; omega)) _))) ((first | (go_at_call 99; refine (HWt.out _ (by repeat first | exact Below.refl _ _ | refine belowD ?_ | refine belowN ?_ _ | refine bA ?_ (by first | exact Nat.le_refl _ | (simp only [World.size_alloc]; omega)) _)).mono ?_; rintro e1 w1 ⟨rfl, hw1⟩; subst w1) | (go_at_call 98; refine (HAd.out _).mono ?_; rintro e2 w2 ⟨rfl, hw2⟩; subst w2)))
      all_goals go_wp2_with (fail)
      have HB4 : Hid (Below w.heap.size w ((((w.alloc (.cells (cv c) 37)).alloc (.cells (sv s) 35)).alloc (.cells (ev x y z) 45)).alloc (.cells (ev x y z) 45)).drew) := by repeat first | exact Below.refl _ _ | refine belowD ?_ | refine belowN ?_ _ | refine bA ?_ (by first | exact Nat.le_refl _ | (simp only [World.size_alloc]; omega)) _
      have hS4 : Hid (Sw wb w.heap.size n c s ((((w.alloc (.cells (cv c) 37)).alloc (.cells (sv s) 35)).alloc (.cells (ev x y z) 45)).alloc (.cells (ev x y z) 45)).drew) := by
        refine ⟨(HO.out.on HB4.out).w5.1, ?_, ?_⟩
        · exact k4 (t := 37) (keep (.cells (ev x y z) 45) (keep (.cells (ev x y z) 45) (keep (.cells (sv s) 35) (at0 w (.cells (cv c) 37)))))
        · have h1 := keep (.cells (ev x y z) 45) (keep (.cells (ev x y z) 45) (at0 (w.alloc (.cells (cv c) 37)) (.cells (sv s) 35)))
          simp only [World.size_alloc] at h1; exact k8 (t := 35) h1
      have hz4 : w.heap.size + 1 + 1 + 1 + 1 = ((((w.alloc (.cells (cv c) 37)).alloc (.cells (sv s) 35)).alloc (.cells (ev x y z) 45)).alloc (.cells (ev x y z) 45)).drew.heap.size := by simp only [World.size_drew, World.size_alloc]
      have HWb : Hid (wb < w.heap.size) := HO.out.lt
      generalize ((((w.alloc (.cells (cv c) 37)).alloc (.cells (sv s) 35)).alloc (.cells (ev x y z) 45)).alloc (.cells (ev x y z) 45)).drew = w4 at *
      have HK4 : Hid (∀ W, Below w4.heap.size w4 W → Sw wb w.heap.size n c s W) := fun W hB => ⟨(hB.cell (p := ⟨wb, 0, none⟩) (show wb < _ by have := HWb.out; omega)).trans hS4.out.1, K4.on hS4.out.2.1 hB (by omega), K8.on hS4.out.2.2 hB (by omega)⟩
      have HS4 := hide hz4
      clear hz4 HWt HAd hS3 HK3 HO hb h0 h1
      have hS4 : Hid (Sw wb w.heap.size n c s w4.drew) := hS4
      cases vd with
      | true =>
        obtain ⟨rfl, rfl⟩ := HRa.out (by simp)
        clear HRa HRb HRc
        refine wp_region_held_drew (S := Sw wb w.heap.size n c s) (by kernel_rfl) ?_ (fun hHeld => ?_)
        · exact hS4.out
        refine wpAnyH_take (i := 0) (oi := ({ dst := some 31, op := Go.Op.move (Go.Operand.tmp 13), type := 29, pos := "ways.go:53", after := #[], guard := none } : Oper)) (v := ?_) rfl (by kernel_rfl) (by kernel_rfl) (by kernel_rfl) (fun _ _ _ h => h) (Or.inl ⟨by rfl, ?_⟩) (by assumption) ?_
        rotate_left 1
        · (intro w hSw; (try dsimp only at hSw); go_simp; (try with_reducible rfl))
        try simp only [Act.put, List.setIfInBounds_toArray, List.set_cons_zero, List.set_cons_succ]
        refine wpAnyH_take (i := 1) (oi := ({ dst := some 32, op := Go.Op.binOp Go.BinOp.neq 29 (Go.Operand.tmp 31) (Go.Operand.const (Go.Value.int Go.IntKind.i64 0)) 29, type := 4, pos := "ways.go:53", after := #[{ on := 0, ground := Go.Ground.data }], guard := none } : Oper)) (v := ?_) rfl (by kernel_rfl) (by kernel_rfl) (by kernel_rfl) (fun _ _ _ h => h) (Or.inl ⟨by rfl, ?_⟩) (by assumption) ?_
        rotate_left 1
        · (intro w hSw; (try dsimp only at hSw); go_simp; (try with_reducible rfl))
        try simp only [Act.put, List.setIfInBounds_toArray, List.set_cons_zero, List.set_cons_succ]
        refine wpAnyH_take (i := 2) (oi := ({ dst := some 33, op := Go.Op.move (Go.Operand.tmp 32), type := 4, pos := "ways.go:53", after := #[{ on := 1, ground := Go.Ground.data }], guard := none } : Oper)) (v := ?_) rfl (by kernel_rfl) (by kernel_rfl) (by kernel_rfl) (fun _ _ _ h => h) (Or.inl ⟨by rfl, ?_⟩) (by assumption) ?_
        rotate_left 1
        · (intro w hSw; (try dsimp only at hSw); go_simp; (try with_reducible rfl))
        try simp only [Act.put, List.setIfInBounds_toArray, List.set_cons_zero, List.set_cons_succ]
        refine wpAnyH_take (i := 3) (oi := ({ dst := some 34, op := Go.Op.move (Go.Operand.tmp 0), type := 86, pos := "ways.go:53", after := #[{ on := 2, ground := Go.Ground.guard }], guard := some (2, false) } : Oper)) (v := ?_) rfl (by kernel_rfl) (by kernel_rfl) (by kernel_rfl) (fun _ _ _ h => h) (Or.inl ⟨by rfl, ?_⟩) (by assumption) ?_
        rotate_left 1
        · (intro w hSw; (try dsimp only at hSw); go_simp; (try with_reducible rfl))
        try simp only [Act.put, List.setIfInBounds_toArray, List.set_cons_zero, List.set_cons_succ]
        refine wpAnyH_take (i := 4) (oi := ({ dst := some 35, op := Go.Op.nilCheck (Go.Operand.tmp 34), type := 0, pos := "ways.go:53", after := #[{ on := 3, ground := Go.Ground.data }, { on := 2, ground := Go.Ground.guard }], guard := some (2, false) } : Oper)) (v := ?_) rfl (by kernel_rfl) (by kernel_rfl) (by kernel_rfl) (fun _ _ _ h => h) (Or.inl ⟨by rfl, ?_⟩) (by assumption) ?_
        rotate_left 1
        · (intro w hSw; (try dsimp only at hSw); go_simp; (try with_reducible rfl))
        try simp only [Act.put, List.setIfInBounds_toArray, List.set_cons_zero, List.set_cons_succ]
        refine wpAnyH_take (i := 5) (oi := ({ dst := some 36, op := Go.Op.fieldAddr 123 (Go.Operand.tmp 35) 0, type := 0, pos := "ways.go:53", after := #[{ on := 4, ground := Go.Ground.data }, { on := 2, ground := Go.Ground.guard }], guard := some (2, false) } : Oper)) (v := ?_) rfl (by kernel_rfl) (by kernel_rfl) (by kernel_rfl) (fun _ _ _ h => h) (Or.inl ⟨by rfl, ?_⟩) (by assumption) ?_
        rotate_left 1
        · (intro w hSw; (try dsimp only at hSw); go_simp; (try with_reducible rfl))
        try simp only [Act.put, List.setIfInBounds_toArray, List.set_cons_zero, List.set_cons_succ]
        refine wpAnyH_take (i := 6) (oi := ({ dst := some 37, op := Go.Op.load 73 (Go.Operand.tmp 36), type := 73, pos := "ways.go:53", after := #[{ on := 5, ground := Go.Ground.data }, { on := 2, ground := Go.Ground.guard }], guard := some (2, false) } : Oper)) (v := ?_) rfl (by kernel_rfl) (by kernel_rfl) (by kernel_rfl) (fun _ _ _ h => h) (Or.inl ⟨by rfl, ?_⟩) (by assumption) ?_
        rotate_left 1
        · (intro w hSw; (try dsimp only at hSw); go_simp; (try with_reducible rfl))
        try simp only [Act.put, List.setIfInBounds_toArray, List.set_cons_zero, List.set_cons_succ]
        refine wpAnyH_take (i := 7) (oi := ({ dst := some 38, op := Go.Op.load 37 (Go.Operand.tmp 6), type := 37, pos := "ways.go:53", after := #[{ on := 2, ground := Go.Ground.guard }], guard := some (2, false) } : Oper)) (v := ?_) rfl (by kernel_rfl) (by kernel_rfl) (by kernel_rfl) (fun _ _ _ h => h) (Or.inl ⟨by rfl, ?_⟩) (by assumption) ?_
        rotate_left 1
        · (intro w hSw; (try dsimp only at hSw); go_simp; (try with_reducible rfl))
        try simp only [Act.put, List.setIfInBounds_toArray, List.set_cons_zero, List.set_cons_succ]
        refine wpAnyH_ready (rs := [8]) (by kernel_rfl) (by simp) ?_
        refine AllReadyH.cons (o := ({ dst := some 39, op := Go.Op.call { callee := Go.Callee.value (Go.Operand.func 82), args := #[Go.Operand.tmp 37, Go.Operand.tmp 38], argTypes := #[73, 37] }, type := 4, pos := "ways.go:53", after := #[{ on := 6, ground := Go.Ground.data }, { on := 7, ground := Go.Ground.data }, { on := 2, ground := Go.Ground.chain }, { on := 2, ground := Go.Ground.guard }], guard := some (2, false) } : Oper)) rfl (fun K hK => ?_) AllReadyH.nil
        go_simp
        go_at_call 82
        refine (HVd.out _).mono ?_
        rintro e1 w1 ⟨rfl, hw1⟩
        subst w1
        go_wp2_with (fail)
        refine hK.out _ _ ?_ (fun hHeld => ?_)
        · (refine HK4.out _ ?_; repeat first | exact Below.refl _ _ | refine belowD ?_ | refine belowN ?_ _ | refine bA ?_ (by first | exact Nat.le_refl _ | (simp only [World.size_alloc]; omega)) _)
        clear hK K
        try simp only [Act.put, List.setIfInBounds_toArray, List.set_cons_zero, List.set_cons_succ]
        refine wpAnyH_take (i := 9) (oi := ({ dst := some 40, op := Go.Op.pick (Go.Operand.tmp 33) (Go.Operand.const (Go.Value.bool true)) (Go.Operand.tmp 39), type := 4, pos := "ways.go:53", after := #[{ on := 2, ground := Go.Ground.data }, { on := 8, ground := Go.Ground.data }], guard := none } : Oper)) (v := ?_) rfl (by kernel_rfl) (by kernel_rfl) (by kernel_rfl) (fun _ _ _ h => h) (Or.inl ⟨by rfl, ?_⟩) (by assumption) ?_
        rotate_left 1
        · (intro w hSw; (try dsimp only at hSw); go_simp; (try with_reducible rfl))
        try simp only [Act.put, List.setIfInBounds_toArray, List.set_cons_zero, List.set_cons_succ]
        refine wpAnyH_take (i := 10) (oi := ({ dst := some 41, op := Go.Op.move (Go.Operand.tmp 40), type := 4, pos := "ways.go:53", after := #[{ on := 9, ground := Go.Ground.data }, { on := 8, ground := Go.Ground.chain }], guard := none } : Oper)) (v := ?_) rfl (by kernel_rfl) (by kernel_rfl) (by kernel_rfl) (fun _ _ _ h => h) (Or.inl ⟨by rfl, ?_⟩) (by assumption) ?_
        rotate_left 1
        · (intro w hSw; (try dsimp only at hSw); go_simp; (try with_reducible rfl))
        try simp only [Act.put, List.setIfInBounds_toArray, List.set_cons_zero, List.set_cons_succ]
        refine wpAnyH_take (i := 11) (oi := ({ dst := some 42, op := Go.Op.move (Go.Operand.tmp 0), type := 86, pos := "ways.go:53", after := #[{ on := 10, ground := Go.Ground.guard }], guard := some (10, false) } : Oper)) (v := undef) rfl (by kernel_rfl) (by kernel_rfl) (by kernel_rfl) (fun _ _ _ h => h) (Or.inr ⟨by rfl, rfl⟩) (by assumption) ?_
        try simp only [Act.put, List.setIfInBounds_toArray, List.set_cons_zero, List.set_cons_succ]
        refine wpAnyH_take (i := 12) (oi := ({ dst := some 43, op := Go.Op.nilCheck (Go.Operand.tmp 42), type := 0, pos := "ways.go:53", after := #[{ on := 11, ground := Go.Ground.data }, { on := 10, ground := Go.Ground.guard }], guard := some (10, false) } : Oper)) (v := undef) rfl (by kernel_rfl) (by kernel_rfl) (by kernel_rfl) (fun _ _ _ h => h) (Or.inr ⟨by rfl, rfl⟩) (by assumption) ?_
        try simp only [Act.put, List.setIfInBounds_toArray, List.set_cons_zero, List.set_cons_succ]
        refine wpAnyH_take (i := 13) (oi := ({ dst := some 44, op := Go.Op.fieldAddr 123 (Go.Operand.tmp 43) 0, type := 0, pos := "ways.go:53", after := #[{ on := 12, ground := Go.Ground.data }, { on := 10, ground := Go.Ground.guard }], guard := some (10, false) } : Oper)) (v := undef) rfl (by kernel_rfl) (by kernel_rfl) (by kernel_rfl) (fun _ _ _ h => h) (Or.inr ⟨by rfl, rfl⟩) (by assumption) ?_
        try simp only [Act.put, List.setIfInBounds_toArray, List.set_cons_zero, List.set_cons_succ]
        refine wpAnyH_take (i := 14) (oi := ({ dst := some 45, op := Go.Op.load 73 (Go.Operand.tmp 44), type := 73, pos := "ways.go:53", after := #[{ on := 13, ground := Go.Ground.data }, { on := 10, ground := Go.Ground.guard }], guard := some (10, false) } : Oper)) (v := undef) rfl (by kernel_rfl) (by kernel_rfl) (by kernel_rfl) (fun _ _ _ h => h) (Or.inr ⟨by rfl, rfl⟩) (by assumption) ?_
        try simp only [Act.put, List.setIfInBounds_toArray, List.set_cons_zero, List.set_cons_succ]
        refine wpAnyH_take (i := 15) (oi := ({ dst := some 46, op := Go.Op.load 37 (Go.Operand.tmp 6), type := 37, pos := "ways.go:53", after := #[{ on := 10, ground := Go.Ground.guard }], guard := some (10, false) } : Oper)) (v := undef) rfl (by kernel_rfl) (by kernel_rfl) (by kernel_rfl) (fun _ _ _ h => h) (Or.inr ⟨by rfl, rfl⟩) (by assumption) ?_
        try simp only [Act.put, List.setIfInBounds_toArray, List.set_cons_zero, List.set_cons_succ]
        refine wpAnyH_take (i := 16) (oi := ({ dst := some 47, op := Go.Op.indexAddr 35 (Go.Operand.tmp 7) (Go.Operand.const (Go.Value.int Go.IntKind.i64 2)), type := 0, pos := "ways.go:53", after := #[{ on := 10, ground := Go.Ground.guard }], guard := some (10, false) } : Oper)) (v := undef) rfl (by kernel_rfl) (by kernel_rfl) (by kernel_rfl) (fun _ _ _ h => h) (Or.inr ⟨by rfl, rfl⟩) (by assumption) ?_
        try simp only [Act.put, List.setIfInBounds_toArray, List.set_cons_zero, List.set_cons_succ]
        refine wpAnyH_take (i := 17) (oi := ({ dst := some 48, op := Go.Op.load 33 (Go.Operand.tmp 47), type := 33, pos := "ways.go:53", after := #[{ on := 16, ground := Go.Ground.data }, { on := 10, ground := Go.Ground.guard }], guard := some (10, false) } : Oper)) (v := undef) rfl (by kernel_rfl) (by kernel_rfl) (by kernel_rfl) (fun _ _ _ h => h) (Or.inr ⟨by rfl, rfl⟩) (by assumption) ?_
        try simp only [Act.put, List.setIfInBounds_toArray, List.set_cons_zero, List.set_cons_succ]
        refine wpAnyH_take (i := 18) (oi := ({ dst := some 49, op := Go.Op.call { callee := Go.Callee.value (Go.Operand.func 90), args := #[Go.Operand.tmp 45, Go.Operand.tmp 46, Go.Operand.tmp 48], argTypes := #[73, 37, 33] }, type := 4, pos := "ways.go:53", after := #[{ on := 14, ground := Go.Ground.data }, { on := 15, ground := Go.Ground.data }, { on := 17, ground := Go.Ground.data }, { on := 10, ground := Go.Ground.chain }, { on := 10, ground := Go.Ground.guard }], guard := some (10, false) } : Oper)) (v := undef) rfl (by kernel_rfl) (by kernel_rfl) (by kernel_rfl) (fun _ _ _ h => h) (Or.inr ⟨by rfl, rfl⟩) (by assumption) ?_
        try simp only [Act.put, List.setIfInBounds_toArray, List.set_cons_zero, List.set_cons_succ]
        refine wpAnyH_take (i := 19) (oi := ({ dst := some 50, op := Go.Op.unOp Go.UnOp.not 4 (Go.Operand.tmp 49), type := 4, pos := "ways.go:53", after := #[{ on := 18, ground := Go.Ground.data }, { on := 10, ground := Go.Ground.guard }], guard := some (10, false) } : Oper)) (v := undef) rfl (by kernel_rfl) (by kernel_rfl) (by kernel_rfl) (fun _ _ _ h => h) (Or.inr ⟨by rfl, rfl⟩) (by assumption) ?_
        try simp only [Act.put, List.setIfInBounds_toArray, List.set_cons_zero, List.set_cons_succ]
        refine wpAnyH_take (i := 20) (oi := ({ dst := some 51, op := Go.Op.pick (Go.Operand.tmp 41) (Go.Operand.const (Go.Value.bool true)) (Go.Operand.tmp 50), type := 4, pos := "ways.go:53", after := #[{ on := 10, ground := Go.Ground.data }, { on := 19, ground := Go.Ground.data }], guard := none } : Oper)) (v := ?_) rfl (by kernel_rfl) (by kernel_rfl) (by kernel_rfl) (fun _ _ _ h => h) (Or.inl ⟨by rfl, ?_⟩) (by assumption) ?_
        rotate_left 1
        · (intro w hSw; (try dsimp only at hSw); go_simp; (try with_reducible rfl))
        try simp only [Act.put, List.setIfInBounds_toArray, List.set_cons_zero, List.set_cons_succ]
        refine wpAnyH_done (by kernel_rfl) ?_ _
        all_goals go_wp2
        all_goals refine bodyPost_ret (results_tmp4 rfl _ _ _) rfl ?_
        all_goals exact ⟨rfl, HB4.out.trans ((show Below w4.heap.size w4 _ from (by repeat first | exact Below.refl _ _ | refine belowD ?_ | refine belowN ?_ _ | refine bA ?_ (by first | exact Nat.le_refl _ | (simp only [World.size_alloc]; omega)) _)).mono HB4.out.size)⟩
      | false =>
        go_region_held3 (Sw wb w.heap.size n c s) ((first | with_reducible exact hS4.out | (refine HK4.out _ ?_; repeat first | exact Below.refl _ _ | refine belowD ?_ | refine belowN ?_ _ | refine bA ?_ (by first | exact Nat.le_refl _ | (simp only [World.size_alloc]; omega)) _))) ((first | (go_at_call 82; refine (HVd.out _).mono ?_; rintro e1 w1 ⟨rfl, hw1⟩; subst w1) | (go_at_call 90; refine (HNw.out _).mono ?_; rintro e2 w2 ⟨rfl, hw2⟩; subst w2)))
        clear HRa
        cases nw with
        | false =>
          obtain ⟨rfl, rfl⟩ := HRb.out (by simp)
          all_goals go_wp2
          all_goals refine bodyPost_ret (results_tmp4 rfl _ _ _) rfl ?_
          all_goals exact ⟨rfl, HB4.out.trans ((show Below w4.heap.size w4 _ from (by repeat first | exact Below.refl _ _ | refine belowD ?_ | refine belowN ?_ _ | refine bA ?_ (by first | exact Nat.le_refl _ | (simp only [World.size_alloc]; omega)) _)).mono HB4.out.size)⟩
        | true =>
          obtain ⟨rfl, rfl⟩ := HRc.out (by simp) (by simp)
          all_goals go_wp2
          all_goals refine bodyPost_ret (results_tmp4 rfl _ _ _) rfl ?_
          all_goals first | exact ⟨rfl, HB4.out.trans ((show Below w4.heap.size w4 _ from (by repeat first | exact Below.refl _ _ | refine belowD ?_ | refine belowN ?_ _ | refine bA ?_ (by first | exact Nat.le_refl _ | (simp only [World.size_alloc]; omega)) _)).mono HB4.out.size)⟩ | (rw [w64e (s 0)]; exact ⟨rfl, HB4.out.trans ((show Below w4.heap.size w4 _ from (by repeat first | exact Below.refl _ _ | refine belowD ?_ | refine belowN ?_ _ | refine bA ?_ (by first | exact Nat.le_refl _ | (simp only [World.size_alloc]; omega)) _)).mono HB4.out.size)⟩) | (simp only [w64e]; exact ⟨rfl, HB4.out.trans ((show Below w4.heap.size w4 _ from (by repeat first | exact Below.refl _ _ | refine belowD ?_ | refine belowN ?_ _ | refine bA ?_ (by first | exact Nat.le_refl _ | (simp only [World.size_alloc]; omega)) _)).mono HB4.out.size)⟩)
end Wp
end Go.Proofs.Ytlhpnhjfibkgpaa
