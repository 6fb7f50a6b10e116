import Derived.Test.YtbnmjmlcedkoaaaTySw4
import Derived.Test.YtbnmjmlcedkoaaaTyRf
import Derived.Test.YtbnmjmlcedkoaaaTyRt
import Derived.Test.YtbnmjmlcedkoaaaTyRc
namespace Go.Proofs.Ytbnmjmlcedkoaaa
namespace Ty
open Go.RowKit
set_option linter.unusedVariables false
theorem sizeWords : (Try.prog.info? 24).map (·.size) = some 6 := by kernel_rfl
theorem num_any (e : Int) (w : World) : Calls Try.prog 10 #[.int .i64 e] w fun e' w' => e' = .returned (.int .i64 e) ∧ w' = w := by
  go_enter Try.func10, Try.ntmps10
  go_wp2
  go_ret
  exact ⟨rfl, rfl⟩
/-- The four variables. -/
abbrev Q4 (w : World) (g : Nat) (x0 x1 x2 x3 x4 x5 y0 y1 y2 y3 y4 y5 : Int) : Prop := K6 w (g + 1 + 1) x0 x1 x2 x3 x4 x5 ∧ K6 w (g + 1 + 1 + 1) y0 y1 y2 y3 y4 y5 ∧ K6 w (g + 1 + 1 + 1 + 1) x0 x1 x2 x3 x4 x5 ∧ K6 w (g + 1 + 1 + 1 + 1 + 1) y0 y1 y2 y3 y4 y5
theorem Q4.on {w w' : World} {g : Nat} {x0 x1 x2 x3 x4 x5 y0 y1 y2 y3 y4 y5 : Int} (h : Q4 w g x0 x1 x2 x3 x4 x5 y0 y1 y2 y3 y4 y5) (hb : Below w.heap.size w w') : Q4 w' g x0 x1 x2 x3 x4 x5 y0 y1 y2 y3 y4 y5 :=
  ⟨K6.on h.1 hb, K6.on h.2.1 hb, K6.on h.2.2.1 hb, K6.on h.2.2.2 hb⟩
/-- The six blocks of the law. -/
structure S4 (w v : World) (A B : Int) : Prop where
  b : Below w.heap.size w v
  s : v.heap.size = w.heap.size + 6
  p0 : v.heap[w.heap.size + 1 + 1]? = some (.cells (sm A) 25 (0, 0))
  p1 : v.heap[w.heap.size + 1 + 1 + 1]? = some (.cells (sm B) 25 (0, 0))
  p2 : v.heap[w.heap.size + 1 + 1 + 1 + 1]? = some (.cells (sm A) 29 (0, 0))
  p3 : v.heap[w.heap.size + 1 + 1 + 1 + 1 + 1]? = some (.cells (sm B) 29 (0, 0))
set_option maxHeartbeats 3200000 in
theorem reckons_walk (A B n k : Int) (ha : Sg A) (hb : Sg B) (hn0 : -9223372036854775808 ≤ n) (hn1 : n ≤ 9223372036854775807) (hk0 : -9223372036854775808 ≤ k) (hk1 : k ≤ 9223372036854775807) (w : World) :
    Calls Try.prog 5 #[.agg (sm A), .agg (sm B), .int .i64 n, .int .i64 k] w fun e w' => e = .returned (.bool true) ∧ Below w.heap.size w w' := by
  obtain ⟨v0, hv0, hv0b, hv0s, h00, h01⟩ : ∃ v0, (w.alloc (.cells (sm A) 24)).alloc (.cells (sm B) 24) = v0 ∧ Below w.heap.size w v0 ∧ v0.heap.size = w.heap.size + 1 + 1 ∧ v0.heap[w.heap.size]? = some (.cells (sm A) 24 (0, 0)) ∧ v0.heap[w.heap.size + 1]? = some (.cells (sm B) 24 (0, 0)) := by
    obtain ⟨h1, h2⟩ := heap_two w (.cells (sm A) 24) (.cells (sm B) 24)
    exact ⟨_, rfl, ((Below.refl _ _).alloc (Nat.le_refl _) _).alloc (by simp) _, by simp, h1, h2⟩
  have hoA := sm_one A
  have hoB := sm_one B
  have hal0 := heap_alloc_last v0 (.cells #[.int .u64 0, .int .u64 0, .int .u64 0, .int .u64 0, .int .u64 0, .int .u64 0] 25)
  obtain ⟨v1, hv1, b01, s1, q1⟩ := new_sum (W := v0) 25 A
  have h11 := (b01.block _ (by omega)).trans h01
  have h10 := (b01.block _ (by omega)).trans h00
  have hal1 := heap_alloc_last v1 (.cells #[.int .u64 0, .int .u64 0, .int .u64 0, .int .u64 0, .int .u64 0, .int .u64 0] 25)
  obtain ⟨v2, hv2, b12, s2, q2⟩ := new_sum (W := v1) 25 B
  have h20 := (b12.block _ (by omega)).trans h10
  have h21 := (b12.block _ (by omega)).trans h11
  have q12 := (b12.block _ (by omega)).trans q1
  have hal2 := heap_alloc_last v2 (.cells #[.int .u64 0, .int .u64 0, .int .u64 0, .int .u64 0, .int .u64 0, .int .u64 0] 29)
  obtain ⟨v3, hv3, b23, s3, q3⟩ := new_sum (W := v2) 29 A
  have h31 := (b23.block _ (by omega)).trans h21
  have q13 := (b23.block _ (by omega)).trans q12
  have q23 := (b23.block _ (by omega)).trans q2
  have hal3 := heap_alloc_last v3 (.cells #[.int .u64 0, .int .u64 0, .int .u64 0, .int .u64 0, .int .u64 0, .int .u64 0] 29)
  obtain ⟨v4, hv4, b34, s4, q4⟩ := new_sum (W := v3) 29 B
  have q14 := (b34.block _ (by omega)).trans q13
  have q24 := (b34.block _ (by omega)).trans q23
  have q34 := (b34.block _ (by omega)).trans q3
  have e1 : v1.heap.size = w.heap.size + 1 + 1 + 1 := by omega
  have e2 : v2.heap.size = w.heap.size + 1 + 1 + 1 + 1 := by omega
  have e3 : v3.heap.size = w.heap.size + 1 + 1 + 1 + 1 + 1 := by omega
  rw [hv0s] at q14 hal0 hv1
  rw [e1] at q24 hal1 hv2
  rw [e2] at q34 hal2 hv3
  rw [e3] at q4 hal3 hv4
  have HS : Hid (S4 w v4 A B) := ⟨below_chain (below_chain (below_chain (below_chain hv0b b01 (Nat.le_refl _)) b12 (Nat.le_refl _)) b23 (Nat.le_refl _)) b34 (Nat.le_refl _), by omega, q14, q24, q34, q4⟩
  clear q1 q2 q3 q4 q12 q13 q14 q23 q24 q34 b01 b12 b23 b34 hv0b s1 s2 s3 s4
  have hsA : (sm A).size = 6 := rfl
  have hsB : (sm B).size = 6 := rfl
  go_enter Try.func5, Try.ntmps5
  go_wp2_with (first
    | (refine wpList_load6 24 _ Try.underlying24 sizeWords rfl _ rfl w.heap.size (sm A) rfl hsA h00 ?_)
    | (refine wpList_load6 24 _ Try.underlying24 sizeWords rfl _ rfl (w.heap.size + 1) (sm B) rfl hsB h11 ?_)
    | (refine wpList_load6 24 _ Try.underlying24 sizeWords rfl _ rfl w.heap.size (sm A) rfl hsA h20 ?_)
    | (refine wpList_load6 24 _ Try.underlying24 sizeWords rfl _ rfl (w.heap.size + 1) (sm B) rfl hsB h31 ?_)
    | (refine wpList_store6 25 sizeSum rfl _ _ rfl (w.heap.size + 1 + 1) (sm A) _ rfl rfl hsA rfl hoA hal0 ?_; rw [hv1])
    | (refine wpList_store6 25 sizeSum rfl _ _ rfl (w.heap.size + 1 + 1 + 1) (sm B) _ rfl rfl hsB rfl hoB hal1 ?_; rw [hv2])
    | (refine wpList_store6 29 sizeRSum rfl _ _ rfl (w.heap.size + 1 + 1 + 1 + 1) (sm A) _ rfl rfl hsA rfl hoA hal2 ?_; rw [hv3])
    | (refine wpList_store6 29 sizeRSum rfl _ _ rfl (w.heap.size + 1 + 1 + 1 + 1 + 1) (sm B) _ rfl rfl hsB rfl hoB hal3 ?_; rw [hv4]))
  obtain ⟨x0, x1, x2, x3, x4, x5, hxA⟩ := sm_open A
  obtain ⟨y0, y1, y2, y3, y4, y5, hxB⟩ := sm_open B
  obtain ⟨m0, m1, m2, m3, m4, m5, hxM⟩ := sm_open (A + B)
  obtain ⟨n0, n1, n2, n3, n4, n5, hxN⟩ := sm_open (-A)
  obtain ⟨u0, u1, u2, u3, u4, u5, hxU⟩ := sm_open (A * n)
  have HM1 : Hid (∀ w, Calls Try.prog 16 #[.agg #[.int .u64 x0, .int .u64 x1, .int .u64 x2, .int .u64 x3, .int .u64 x4, .int .u64 x5], .agg #[.int .u64 y0, .int .u64 y1, .int .u64 y2, .int .u64 y3, .int .u64 y4, .int .u64 y5]] w fun e w' => e = .returned (.agg #[.int .u64 m0, .int .u64 m1, .int .u64 m2, .int .u64 m3, .int .u64 m4, .int .u64 m5]) ∧ Below w.heap.size w w') := by
    intro w; have h := merge_any A B w; rwa [hxM, hxA, hxB] at h
  have HM2 : Hid (∀ w, Calls Try.prog 17 #[.agg #[.int .u64 x0, .int .u64 x1, .int .u64 x2, .int .u64 x3, .int .u64 x4, .int .u64 x5], .agg #[.int .u64 y0, .int .u64 y1, .int .u64 y2, .int .u64 y3, .int .u64 y4, .int .u64 y5]] w fun e w' => e = .returned (.agg #[.int .u64 m0, .int .u64 m1, .int .u64 m2, .int .u64 m3, .int .u64 m4, .int .u64 m5]) ∧ Below w.heap.size w w') := by
    intro w; have h := rmerge_any A B w; rwa [hxM, hxA, hxB] at h
  have HN1 : Hid (∀ w, Calls Try.prog 18 #[.agg #[.int .u64 x0, .int .u64 x1, .int .u64 x2, .int .u64 x3, .int .u64 x4, .int .u64 x5]] w fun e w' => e = .returned (.agg #[.int .u64 n0, .int .u64 n1, .int .u64 n2, .int .u64 n3, .int .u64 n4, .int .u64 n5]) ∧ Below w.heap.size w w') := by
    intro w; have h := neg_any A w; rwa [hxN, hxA] at h
  have HN2 : Hid (∀ w, Calls Try.prog 19 #[.agg #[.int .u64 x0, .int .u64 x1, .int .u64 x2, .int .u64 x3, .int .u64 x4, .int .u64 x5]] w fun e w' => e = .returned (.agg #[.int .u64 n0, .int .u64 n1, .int .u64 n2, .int .u64 n3, .int .u64 n4, .int .u64 n5]) ∧ Below w.heap.size w w') := by
    intro w; have h := rneg_any A w; rwa [hxN, hxA] at h
  have HU1 : Hid (∀ w, Calls Try.prog 20 #[.agg #[.int .u64 x0, .int .u64 x1, .int .u64 x2, .int .u64 x3, .int .u64 x4, .int .u64 x5], .int .i64 n] w fun e w' => e = .returned (.agg #[.int .u64 u0, .int .u64 u1, .int .u64 u2, .int .u64 u3, .int .u64 u4, .int .u64 u5]) ∧ Below w.heap.size w w') := by
    intro w; have h := times_any A n hn0 hn1 w; rwa [hxU, hxA] at h
  have HU2 : Hid (∀ w, Calls Try.prog 21 #[.agg #[.int .u64 x0, .int .u64 x1, .int .u64 x2, .int .u64 x3, .int .u64 x4, .int .u64 x5], .int .i64 n] w fun e w' => e = .returned (.agg #[.int .u64 u0, .int .u64 u1, .int .u64 u2, .int .u64 u3, .int .u64 u4, .int .u64 u5]) ∧ Below w.heap.size w w') := by
    intro w; have h := rtimes_any A n hn0 hn1 w; rwa [hxU, hxA] at h
  obtain ⟨q, hq⟩ : ∃ q, shE A k = q := ⟨_, rfl⟩
  obtain ⟨V, hV⟩ : ∃ V, shV A k = V := ⟨_, rfl⟩
  obtain ⟨sg, hsg⟩ : ∃ sg, sgn A = sg := ⟨_, rfl⟩
  obtain ⟨cc, hcc⟩ : ∃ cc, cp A B = cc := ⟨_, rfl⟩
  have h00c : cp A A = 0 := cp_zero.2 rfl
  have HH1 : Hid (∀ w, Calls Try.prog 22 #[.agg #[.int .u64 x0, .int .u64 x1, .int .u64 x2, .int .u64 x3, .int .u64 x4, .int .u64 x5], .int .i64 k] w fun e w' => e = .returned (.tuple #[.agg (sm V), .int .i64 q]) ∧ Below w.heap.size w w') := by
    intro w; have h := shift_any A k ha hk0 hk1 w; rwa [hq, hV, hxA] at h
  have HH2 : Hid (∀ w, Calls Try.prog 23 #[.agg #[.int .u64 x0, .int .u64 x1, .int .u64 x2, .int .u64 x3, .int .u64 x4, .int .u64 x5], .int .i64 k] w fun e w' => e = .returned (.tuple #[.agg (sm V), .int .i64 q]) ∧ Below w.heap.size w w') := by
    intro w; have h := rshift_any A k ha hk0 hk1 w; rwa [hq, hV, hxA] at h
  have HG1 : Hid (∀ w, Calls Try.prog 24 #[.agg #[.int .u64 x0, .int .u64 x1, .int .u64 x2, .int .u64 x3, .int .u64 x4, .int .u64 x5]] w fun e w' => e = .returned (.int .i64 sg) ∧ Below w.heap.size w w') := by
    intro w; have h := sign_any A ha w; rwa [hsg, hxA] at h
  have HG2 : Hid (∀ w, Calls Try.prog 25 #[.agg #[.int .u64 x0, .int .u64 x1, .int .u64 x2, .int .u64 x3, .int .u64 x4, .int .u64 x5]] w fun e w' => e = .returned (.int .i64 sg) ∧ Below w.heap.size w w') := by
    intro w; have h := rsign_any A ha w; rwa [hsg, hxA] at h
  have HC1 : Hid (∀ w, Calls Try.prog 26 #[.agg #[.int .u64 x0, .int .u64 x1, .int .u64 x2, .int .u64 x3, .int .u64 x4, .int .u64 x5], .agg #[.int .u64 y0, .int .u64 y1, .int .u64 y2, .int .u64 y3, .int .u64 y4, .int .u64 y5]] w fun e w' => e = .returned (.int .i64 cc) ∧ Below w.heap.size w w') := by
    intro w; have h := compare_any A B ha hb w; rwa [hcc, hxA, hxB] at h
  have HC2 : Hid (∀ w, Calls Try.prog 27 #[.agg #[.int .u64 x0, .int .u64 x1, .int .u64 x2, .int .u64 x3, .int .u64 x4, .int .u64 x5], .agg #[.int .u64 y0, .int .u64 y1, .int .u64 y2, .int .u64 y3, .int .u64 y4, .int .u64 y5]] w fun e w' => e = .returned (.int .i64 cc) ∧ Below w.heap.size w w') := by
    intro w; have h := rcompare_any A B ha hb w; rwa [hcc, hxA, hxB] at h
  have HC3 : Hid (∀ w, Calls Try.prog 26 #[.agg #[.int .u64 x0, .int .u64 x1, .int .u64 x2, .int .u64 x3, .int .u64 x4, .int .u64 x5], .agg #[.int .u64 x0, .int .u64 x1, .int .u64 x2, .int .u64 x3, .int .u64 x4, .int .u64 x5]] w fun e w' => e = .returned (.int .i64 0) ∧ Below w.heap.size w w') := by
    intro w; have h := compare_any A A ha ha w; rwa [h00c, hxA] at h
  have E4 : ∀ w, (Op.equalIn 10000 23 (.agg (sm V)) (.agg (sm V))).run Try.prog w = .ok true w := fun w => by
    rw [eq_sm 23 Try.underlying23 V V w, same_refl]
  have E1 : ∀ w, (Op.equalIn 10000 23 (.agg #[.int .u64 m0, .int .u64 m1, .int .u64 m2, .int .u64 m3, .int .u64 m4, .int .u64 m5]) (.agg #[.int .u64 m0, .int .u64 m1, .int .u64 m2, .int .u64 m3, .int .u64 m4, .int .u64 m5])).run Try.prog w = .ok true w := fun w => by
    have h := eq6 23 Try.underlying23 m0 m1 m2 m3 m4 m5 m0 m1 m2 m3 m4 m5 w
    rw [h]; simp
  have E2 : ∀ w, (Op.equalIn 10000 23 (.agg #[.int .u64 n0, .int .u64 n1, .int .u64 n2, .int .u64 n3, .int .u64 n4, .int .u64 n5]) (.agg #[.int .u64 n0, .int .u64 n1, .int .u64 n2, .int .u64 n3, .int .u64 n4, .int .u64 n5])).run Try.prog w = .ok true w := fun w => by
    have h := eq6 23 Try.underlying23 n0 n1 n2 n3 n4 n5 n0 n1 n2 n3 n4 n5 w
    rw [h]; simp
  have E3 : ∀ w, (Op.equalIn 10000 23 (.agg #[.int .u64 u0, .int .u64 u1, .int .u64 u2, .int .u64 u3, .int .u64 u4, .int .u64 u5]) (.agg #[.int .u64 u0, .int .u64 u1, .int .u64 u2, .int .u64 u3, .int .u64 u4, .int .u64 u5])).run Try.prog w = .ok true w := fun w => by
    have h := eq6 23 Try.underlying23 u0 u1 u2 u3 u4 u5 u0 u1 u2 u3 u4 u5 w
    rw [h]; simp
  have HS1 := HS.out
  have p0 := HS1.p0
  have p1 := HS1.p1
  have p2 := HS1.p2
  have p3 := HS1.p3
  rw [hxA] at p0 p2
  rw [hxB] at p1 p3
  have HS0 : Hid (Q4 v4.drew w.heap.size x0 x1 x2 x3 x4 x5 y0 y1 y2 y3 y4 y5) := ⟨(k6_of p0).1, (k6_of p1).1, (k6_of p2).1, (k6_of p3).1⟩
  have HP0 : Hid (v4.heap[w.heap.size + 1 + 1]? = some (.cells #[.int .u64 x0, .int .u64 x1, .int .u64 x2, .int .u64 x3, .int .u64 x4, .int .u64 x5] 25 (0, 0)) ∧ v4.heap[w.heap.size + 1 + 1 + 1]? = some (.cells #[.int .u64 y0, .int .u64 y1, .int .u64 y2, .int .u64 y3, .int .u64 y4, .int .u64 y5] 25 (0, 0)) ∧ v4.heap[w.heap.size + 1 + 1 + 1 + 1]? = some (.cells #[.int .u64 x0, .int .u64 x1, .int .u64 x2, .int .u64 x3, .int .u64 x4, .int .u64 x5] 29 (0, 0)) ∧ v4.heap[w.heap.size + 1 + 1 + 1 + 1 + 1]? = some (.cells #[.int .u64 y0, .int .u64 y1, .int .u64 y2, .int .u64 y3, .int .u64 y4, .int .u64 y5] 29 (0, 0))) := ⟨p0, p1, p2, p3⟩
  rw [hxA, hxB]
  clear p0 p1 p2 p3 HS1 h00 h01 h10 h11 h20 h21 h31 hv0 hv1 hv2 hv3 hv4 hal0 hal1 hal2 hal3 hoA hoB hsA hsB e1 e2 e3 hv0s hxA hxB hxM hxN hxU hq hV hsg hcc h00c
  go_region_held (fun w' => (w'.cell? ⟨w.heap.size + 1 + 1, 0, none⟩ = some (.int .u64 x0) ∧ w'.cell? ⟨w.heap.size + 1 + 1, 1, none⟩ = some (.int .u64 x1) ∧ w'.cell? ⟨w.heap.size + 1 + 1, 2, none⟩ = some (.int .u64 x2) ∧ w'.cell? ⟨w.heap.size + 1 + 1, 3, none⟩ = some (.int .u64 x3) ∧ w'.cell? ⟨w.heap.size + 1 + 1, 4, none⟩ = some (.int .u64 x4) ∧ w'.cell? ⟨w.heap.size + 1 + 1, 5, none⟩ = some (.int .u64 x5)) ∧ (w'.cell? ⟨w.heap.size + 1 + 1 + 1, 0, none⟩ = some (.int .u64 y0) ∧ w'.cell? ⟨w.heap.size + 1 + 1 + 1, 1, none⟩ = some (.int .u64 y1) ∧ w'.cell? ⟨w.heap.size + 1 + 1 + 1, 2, none⟩ = some (.int .u64 y2) ∧ w'.cell? ⟨w.heap.size + 1 + 1 + 1, 3, none⟩ = some (.int .u64 y3) ∧ w'.cell? ⟨w.heap.size + 1 + 1 + 1, 4, none⟩ = some (.int .u64 y4) ∧ w'.cell? ⟨w.heap.size + 1 + 1 + 1, 5, none⟩ = some (.int .u64 y5)) ∧ (w'.cell? ⟨w.heap.size + 1 + 1 + 1 + 1, 0, none⟩ = some (.int .u64 x0) ∧ w'.cell? ⟨w.heap.size + 1 + 1 + 1 + 1, 1, none⟩ = some (.int .u64 x1) ∧ w'.cell? ⟨w.heap.size + 1 + 1 + 1 + 1, 2, none⟩ = some (.int .u64 x2) ∧ w'.cell? ⟨w.heap.size + 1 + 1 + 1 + 1, 3, none⟩ = some (.int .u64 x3) ∧ w'.cell? ⟨w.heap.size + 1 + 1 + 1 + 1, 4, none⟩ = some (.int .u64 x4) ∧ w'.cell? ⟨w.heap.size + 1 + 1 + 1 + 1, 5, none⟩ = some (.int .u64 x5)) ∧ (w'.cell? ⟨w.heap.size + 1 + 1 + 1 + 1 + 1, 0, none⟩ = some (.int .u64 y0) ∧ w'.cell? ⟨w.heap.size + 1 + 1 + 1 + 1 + 1, 1, none⟩ = some (.int .u64 y1) ∧ w'.cell? ⟨w.heap.size + 1 + 1 + 1 + 1 + 1, 2, none⟩ = some (.int .u64 y2) ∧ w'.cell? ⟨w.heap.size + 1 + 1 + 1 + 1 + 1, 3, none⟩ = some (.int .u64 y3) ∧ w'.cell? ⟨w.heap.size + 1 + 1 + 1 + 1 + 1, 4, none⟩ = some (.int .u64 y4) ∧ w'.cell? ⟨w.heap.size + 1 + 1 + 1 + 1 + 1, 5, none⟩ = some (.int .u64 y5)))
    (first | with_reducible exact HS0.out | with_reducible exact (Q4.on HS0.out hw1) | with_reducible exact (Q4.on (Q4.on HS0.out hw1) hw2) | with_reducible exact (Q4.on (Q4.on (Q4.on HS0.out hw1) hw2) hw3) | with_reducible exact (Q4.on (Q4.on (Q4.on (Q4.on HS0.out hw1) hw2) hw3) hw4) | with_reducible exact (Q4.on (Q4.on (Q4.on (Q4.on (Q4.on HS0.out hw1) hw2) hw3) hw4) hw5) | with_reducible exact (Q4.on (Q4.on (Q4.on (Q4.on (Q4.on (Q4.on HS0.out hw1) hw2) hw3) hw4) hw5) hw6))
    ((first
      | (go_at_call 16; refine (HM1.out _).mono ?_; rintro e1 w1 ⟨rfl, hw1⟩)
      | (go_at_call 17; refine (HM2.out _).mono ?_; rintro e2 w2 ⟨rfl, hw2⟩)
      | (go_at_call 18; refine (HN1.out _).mono ?_; rintro e3 w3 ⟨rfl, hw3⟩)
      | (go_at_call 19; refine (HN2.out _).mono ?_; rintro e4 w4 ⟨rfl, hw4⟩)
      | (go_at_call 20; refine (HU1.out _).mono ?_; rintro e5 w5 ⟨rfl, hw5⟩)
      | (go_at_call 21; refine (HU2.out _).mono ?_; rintro e6 w6 ⟨rfl, hw6⟩)))
  have BV : Below v4.heap.size v4 w6 := below_chain (below_chain (below_chain (below_chain (below_chain (below_chain ((Below.refl _ _).drew) hw1 (Nat.le_refl _)) hw2 (Nat.le_refl _)) hw3 (Nat.le_refl _)) hw4 (Nat.le_refl _)) hw5 (Nat.le_refl _)) hw6 (Nat.le_refl _)
  have B6 : Below w.heap.size w w6 := below_chain HS.out.b BV (Nat.le_refl _)
  have hs4 := HS.out.s
  have hs6 := BV.size
  have z0 := (BV.block _ (by omega)).trans HP0.out.1
  have z1 := (BV.block _ (by omega)).trans HP0.out.2.1
  have z2 := (BV.block _ (by omega)).trans HP0.out.2.2.1
  have z3 := (BV.block _ (by omega)).trans HP0.out.2.2.2
  clear hw1 hw2 hw3 hw4 hw5 hw6 HS0 HS HP0 BV E1 E2 E3 HM1 HM2 HN1 HN2 HU1 HU2
  have HZ : Hid (w6.heap[w.heap.size + 1 + 1]? = some (.cells #[.int .u64 x0, .int .u64 x1, .int .u64 x2, .int .u64 x3, .int .u64 x4, .int .u64 x5] 25 (0, 0)) ∧ w6.heap[w.heap.size + 1 + 1 + 1]? = some (.cells #[.int .u64 y0, .int .u64 y1, .int .u64 y2, .int .u64 y3, .int .u64 y4, .int .u64 y5] 25 (0, 0)) ∧ w6.heap[w.heap.size + 1 + 1 + 1 + 1]? = some (.cells #[.int .u64 x0, .int .u64 x1, .int .u64 x2, .int .u64 x3, .int .u64 x4, .int .u64 x5] 29 (0, 0)) ∧ w6.heap[w.heap.size + 1 + 1 + 1 + 1 + 1]? = some (.cells #[.int .u64 y0, .int .u64 y1, .int .u64 y2, .int .u64 y3, .int .u64 y4, .int .u64 y5] 29 (0, 0))) := ⟨z0, z1, z2, z3⟩
  clear z1 z3
  have L6 : w.heap.size + 6 ≤ w6.heap.size := by omega
  clear hs4 hs6
  go_wp2_with (first
    | (refine wpList_load6 25 _ Try.underlying25 sizeSum rfl _ rfl (w.heap.size + 1 + 1) #[.int .u64 x0, .int .u64 x1, .int .u64 x2, .int .u64 x3, .int .u64 x4, .int .u64 x5] rfl rfl z0 ?_)
    | (go_at_call 22; refine (HH1.out _).mono ?_; rintro e7 w7 ⟨rfl, hw7⟩; obtain ⟨w8, hv8, hb8, hs8, q8⟩ := new_sum (W := w7) 25 V; have hal7 := heap_alloc_last w7 (.cells #[.int .u64 0, .int .u64 0, .int .u64 0, .int .u64 0, .int .u64 0, .int .u64 0] 25); have hc8 := below_chain hw7 hb8 (Nat.le_refl _); have z2b := (hc8.block _ (by omega)).trans z2; clear z0)
    | (refine wpList_store6 25 sizeSum rfl _ _ rfl w7.heap.size (sm V) _ rfl rfl rfl rfl (sm_one V) hal7 ?_; rw [hv8])
    | (refine wpList_load6 29 _ Try.underlying29 sizeRSum rfl _ rfl (w.heap.size + 1 + 1 + 1 + 1) #[.int .u64 x0, .int .u64 x1, .int .u64 x2, .int .u64 x3, .int .u64 x4, .int .u64 x5] rfl rfl z2b ?_)
    | (go_at_call 23; refine (HH2.out _).mono ?_; rintro e9 w9 ⟨rfl, hw9⟩; obtain ⟨w10, hv10, hb10, hs10, q10⟩ := new_sum (W := w9) 29 V; have hal9 := heap_alloc_last w9 (.cells #[.int .u64 0, .int .u64 0, .int .u64 0, .int .u64 0, .int .u64 0, .int .u64 0] 29); have hc10 := below_chain hw9 hb10 (Nat.le_refl _); have q8b := (hc10.block _ (by omega)).trans q8; clear z2b)
    | (refine wpList_store6 29 sizeRSum rfl _ _ rfl w9.heap.size (sm V) _ rfl rfl rfl rfl (sm_one V) hal9 ?_; rw [hv10])
    | (refine wpList_load6 25 _ Try.underlying25 sizeSum rfl _ rfl w7.heap.size (sm V) rfl rfl q8b ?_)
    | (refine wpList_load6 29 _ Try.underlying29 sizeRSum rfl _ rfl w9.heap.size (sm V) rfl rfl q10 ?_)
    | (go_at_call 10; refine (num_any _ _).mono ?_; rintro e11 w11 ⟨rfl, hw11⟩; subst w11))
  have B10 : Below w6.heap.size w6 w10 := below_chain hc8 hc10 (Nat.le_refl _)
  have BW : Below w.heap.size w w10 := below_chain B6 B10 (Nat.le_refl _)
  have p0 := (B10.block _ (by omega)).trans HZ.out.1
  have p1 := (B10.block _ (by omega)).trans HZ.out.2.1
  have p2 := (B10.block _ (by omega)).trans HZ.out.2.2.1
  have p3 := (B10.block _ (by omega)).trans HZ.out.2.2.2
  have HT0 : Hid (Q4 w10.drew w.heap.size x0 x1 x2 x3 x4 x5 y0 y1 y2 y3 y4 y5) := ⟨(k6_of p0).1, (k6_of p1).1, (k6_of p2).1, (k6_of p3).1⟩
  have HBW : Hid (Below w.heap.size w w10) := BW
  have HD10 : Hid (Below w10.heap.size w10 w10.drew) := (Below.refl _ _).drew
  clear p0 p1 p2 p3 B10 BW hc8 hc10 HZ z2 q8 q8b q10 hal7 hal9 hv8 hv10 hb8 hb10 hs8 hs10 hw7 hw9 B6 L6 HH1 HH2 E4
  go_region_held (fun w' => (w'.cell? ⟨w.heap.size + 1 + 1, 0, none⟩ = some (.int .u64 x0) ∧ w'.cell? ⟨w.heap.size + 1 + 1, 1, none⟩ = some (.int .u64 x1) ∧ w'.cell? ⟨w.heap.size + 1 + 1, 2, none⟩ = some (.int .u64 x2) ∧ w'.cell? ⟨w.heap.size + 1 + 1, 3, none⟩ = some (.int .u64 x3) ∧ w'.cell? ⟨w.heap.size + 1 + 1, 4, none⟩ = some (.int .u64 x4) ∧ w'.cell? ⟨w.heap.size + 1 + 1, 5, none⟩ = some (.int .u64 x5)) ∧ (w'.cell? ⟨w.heap.size + 1 + 1 + 1, 0, none⟩ = some (.int .u64 y0) ∧ w'.cell? ⟨w.heap.size + 1 + 1 + 1, 1, none⟩ = some (.int .u64 y1) ∧ w'.cell? ⟨w.heap.size + 1 + 1 + 1, 2, none⟩ = some (.int .u64 y2) ∧ w'.cell? ⟨w.heap.size + 1 + 1 + 1, 3, none⟩ = some (.int .u64 y3) ∧ w'.cell? ⟨w.heap.size + 1 + 1 + 1, 4, none⟩ = some (.int .u64 y4) ∧ w'.cell? ⟨w.heap.size + 1 + 1 + 1, 5, none⟩ = some (.int .u64 y5)) ∧ (w'.cell? ⟨w.heap.size + 1 + 1 + 1 + 1, 0, none⟩ = some (.int .u64 x0) ∧ w'.cell? ⟨w.heap.size + 1 + 1 + 1 + 1, 1, none⟩ = some (.int .u64 x1) ∧ w'.cell? ⟨w.heap.size + 1 + 1 + 1 + 1, 2, none⟩ = some (.int .u64 x2) ∧ w'.cell? ⟨w.heap.size + 1 + 1 + 1 + 1, 3, none⟩ = some (.int .u64 x3) ∧ w'.cell? ⟨w.heap.size + 1 + 1 + 1 + 1, 4, none⟩ = some (.int .u64 x4) ∧ w'.cell? ⟨w.heap.size + 1 + 1 + 1 + 1, 5, none⟩ = some (.int .u64 x5)) ∧ (w'.cell? ⟨w.heap.size + 1 + 1 + 1 + 1 + 1, 0, none⟩ = some (.int .u64 y0) ∧ w'.cell? ⟨w.heap.size + 1 + 1 + 1 + 1 + 1, 1, none⟩ = some (.int .u64 y1) ∧ w'.cell? ⟨w.heap.size + 1 + 1 + 1 + 1 + 1, 2, none⟩ = some (.int .u64 y2) ∧ w'.cell? ⟨w.heap.size + 1 + 1 + 1 + 1 + 1, 3, none⟩ = some (.int .u64 y3) ∧ w'.cell? ⟨w.heap.size + 1 + 1 + 1 + 1 + 1, 4, none⟩ = some (.int .u64 y4) ∧ w'.cell? ⟨w.heap.size + 1 + 1 + 1 + 1 + 1, 5, none⟩ = some (.int .u64 y5)))
    (first | with_reducible exact HT0.out | with_reducible exact (Q4.on HT0.out hw21) | with_reducible exact (Q4.on (Q4.on HT0.out hw21) hw22) | with_reducible exact (Q4.on (Q4.on (Q4.on HT0.out hw21) hw22) hw23) | with_reducible exact (Q4.on (Q4.on (Q4.on (Q4.on HT0.out hw21) hw22) hw23) hw24) | with_reducible exact (Q4.on (Q4.on (Q4.on (Q4.on (Q4.on HT0.out hw21) hw22) hw23) hw24) hw25))
    ((first
      | (go_at_call 24; refine (HG1.out _).mono ?_; rintro e21 w21 ⟨rfl, hw21⟩)
      | (go_at_call 25; refine (HG2.out _).mono ?_; rintro e22 w22 ⟨rfl, hw22⟩)
      | (go_at_call_of 26 y0; refine (HC1.out _).mono ?_; rintro e23 w23 ⟨rfl, hw23⟩)
      | (go_at_call 27; refine (HC2.out _).mono ?_; rintro e24 w24 ⟨rfl, hw24⟩)
      | (go_at_call 26; refine (HC3.out _).mono ?_; rintro e25 w25 ⟨rfl, hw25⟩)))
  have BF : Below w.heap.size w w25 := below_chain (below_chain (below_chain (below_chain (below_chain (below_chain HBW.out HD10.out (Nat.le_refl _)) hw21 (Nat.le_refl _)) hw22 (Nat.le_refl _)) hw23 (Nat.le_refl _)) hw24 (Nat.le_refl _)) hw25 (Nat.le_refl _)
  clear hw21 hw22 hw23 hw24 hw25 HG1 HG2 HC1 HC2 HC3
  go_wp2
  go_ret
  exact ⟨by simp, BF⟩
end Ty
end Go.Proofs.Ytbnmjmlcedkoaaa
