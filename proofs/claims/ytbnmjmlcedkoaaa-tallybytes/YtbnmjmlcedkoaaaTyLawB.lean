import Derived.Test.YtbnmjmlcedkoaaaTyBd
namespace Go.Proofs.Ytbnmjmlcedkoaaa
namespace Ty
open Go.RowKit
set_option linter.unusedVariables false
theorem sm_openb (N : Int) : ∃ x0 x1 x2 x3 x4 x5 : Int, sm N = #[.int .u64 x0, .int .u64 x1, .int .u64 x2, .int .u64 x3, .int .u64 x4, .int .u64 x5] := ⟨_, _, _, _, _, _, rfl⟩
/-- Six cells. -/
abbrev K6b (w : World) (g : Nat) (x0 x1 x2 x3 x4 x5 : Int) : Prop := w.cell? ⟨g, 0, none⟩ = some (.int .u64 x0) ∧ w.cell? ⟨g, 1, none⟩ = some (.int .u64 x1) ∧ w.cell? ⟨g, 2, none⟩ = some (.int .u64 x2) ∧ w.cell? ⟨g, 3, none⟩ = some (.int .u64 x3) ∧ w.cell? ⟨g, 4, none⟩ = some (.int .u64 x4) ∧ w.cell? ⟨g, 5, none⟩ = some (.int .u64 x5)
theorem K6b.on {w w' : World} {g : Nat} {x0 x1 x2 x3 x4 x5 : Int} (h : K6b w g x0 x1 x2 x3 x4 x5) (hb : Below w.heap.size w w') : K6b w' g x0 x1 x2 x3 x4 x5 := by
  obtain ⟨h0, h1, h2, h3, h4, h5⟩ := h
  have hg : g < w.heap.size := World.block_lt_of_cell? w ⟨g, 0, none⟩ h0
  exact ⟨(hb.cell (p := ⟨g, 0, none⟩) hg).trans h0, (hb.cell (p := ⟨g, 1, none⟩) hg).trans h1, (hb.cell (p := ⟨g, 2, none⟩) hg).trans h2, (hb.cell (p := ⟨g, 3, none⟩) hg).trans h3, (hb.cell (p := ⟨g, 4, none⟩) hg).trans h4, (hb.cell (p := ⟨g, 5, none⟩) hg).trans h5⟩
theorem K6b.far {w : World} {g : Nat} {x0 x1 x2 x3 x4 x5 : Int} (h : K6b w g x0 x1 x2 x3 x4 x5) (p : Addr) (v : Value) (hp : p.block ≠ g) : K6b (w.setCell p v) g x0 x1 x2 x3 x4 x5 := by
  obtain ⟨h0, h1, h2, h3, h4, h5⟩ := h
  exact ⟨(World.cell?_setCell_far _ _ _ _ hp).trans h0, (World.cell?_setCell_far _ _ _ _ hp).trans h1, (World.cell?_setCell_far _ _ _ _ hp).trans h2, (World.cell?_setCell_far _ _ _ _ hp).trans h3, (World.cell?_setCell_far _ _ _ _ hp).trans h4, (World.cell?_setCell_far _ _ _ _ hp).trans h5⟩
theorem k6_ofb {w : World} {g : Nat} {t : TypeId} {x0 x1 x2 x3 x4 x5 : Int} (h : w.heap[g]? = some (.cells #[.int .u64 x0, .int .u64 x1, .int .u64 x2, .int .u64 x3, .int .u64 x4, .int .u64 x5] t (0, 0))) : K6b w g x0 x1 x2 x3 x4 x5 ∧ ∀ i, w.frozen? ⟨g, i, none⟩ = false := by
  refine ⟨⟨?_, ?_, ?_, ?_, ?_, ?_⟩, fun i => ?_⟩ <;> simp [World.cell?, World.frozen?, h]
theorem sizeWordsB : (Try.prog.info? 24).map (·.size) = some 6 := by kernel_rfl
theorem numB (e : Int) (w : World) : Calls Try.prog 10 #[.int .i64 e] w fun e' w' => e' = .returned (.int .i64 e) ∧ w' = w := by
  go_enter Try.func10, Try.ntmps10
  go_wp2
  go_ret
  exact ⟨rfl, rfl⟩
theorem sm_congr {N M : Int} (h : ∀ i, i < 6 → wd M i = wd N i) : sm M = sm N := by
  unfold sm
  rw [h 0 (by omega), h 1 (by omega), h 2 (by omega), h 3 (by omega), h 4 (by omega), h 5 (by omega)]
/-- Both readings of a text give the same words and the same error. -/
theorem from_both (b : ByteArray) : ∃ N r : Int,
    (∀ w, Calls Try.prog 6 #[.string b] w fun e w' => e = .returned (.tuple #[.agg (sm N), .int .i64 r]) ∧ Below w.heap.size w w') ∧
    (∀ w, Calls Try.prog 7 #[.string b] w fun e w' => e = .returned (.tuple #[.agg (sm N), .int .i64 r]) ∧ Below w.heap.size w w') := by
  by_cases hb : b.size = 48
  · obtain ⟨N, _, _, hN⟩ := six_sm (gf (sb b) (8 * 0) 8) (gf (sb b) (8 * 1) 8) (gf (sb b) (8 * 2) 8) (gf (sb b) (8 * 3) 8) (gf (sb b) (8 * 4) 8) (gf (sb b) (8 * 5) 8) (gf8 b _) (gf8 b _) (gf8 b _) (gf8 b _) (gf8 b _) (gf8 b _)
    have hw : ∀ M : Int, (∀ i, i < 6 → wd M i = gf (sb b) (8 * i) 8) → sm M = sm N := by
      intro M hM
      rw [← hN]
      unfold sm
      rw [hM 0 (by omega), hM 1 (by omega), hM 2 (by omega), hM 3 (by omega), hM 4 (by omega), hM 5 (by omega)]
    refine ⟨N, 0, fun w => (frombytes_any b hb w).mono ?_, fun w => (rfrombytes_any b hb w).mono ?_⟩
    · rintro e w1 ⟨M, hM, he, h⟩
      exact ⟨by rw [he, hw M hM], h⟩
    · rintro e w1 ⟨M, hM, he, h⟩
      exact ⟨by rw [he, hw M hM], h⟩
  · exact ⟨0, 10, fun w => frombytes_short b hb w, fun w => rfrombytes_short b hb w⟩
/-- The three variables. -/
abbrev Q3 (w : World) (g a b : Nat) (x0 x1 x2 x3 x4 x5 n0 n1 n2 n3 n4 n5 : Int) : Prop := K6b w g x0 x1 x2 x3 x4 x5 ∧ K6b w a n0 n1 n2 n3 n4 n5 ∧ K6b w b n0 n1 n2 n3 n4 n5
theorem Q3.on {w w' : World} {g a b : Nat} {x0 x1 x2 x3 x4 x5 n0 n1 n2 n3 n4 n5 : Int} (h : Q3 w g a b x0 x1 x2 x3 x4 x5 n0 n1 n2 n3 n4 n5) (hb : Below w.heap.size w w') : Q3 w' g a b x0 x1 x2 x3 x4 x5 n0 n1 n2 n3 n4 n5 :=
  ⟨K6b.on h.1 hb, K6b.on h.2.1 hb, K6b.on h.2.2 hb⟩
set_option maxHeartbeats 1600000 in
theorem bytes_walk (A : Int) (b : ByteArray) (w : World) :
    Calls Try.prog 3 #[.agg (sm A), .string b] w fun e w' => e = .returned (.bool true) ∧ Below w.heap.size w w' := by
  obtain ⟨N, r, hF0, hG0⟩ := from_both b
  have HF : Hid (∀ w, Calls Try.prog 6 #[.string b] w fun e w' => e = .returned (.tuple #[.agg (sm N), .int .i64 r]) ∧ Below w.heap.size w w') := hF0
  have HG : Hid (∀ w, Calls Try.prog 7 #[.string b] w fun e w' => e = .returned (.tuple #[.agg (sm N), .int .i64 r]) ∧ Below w.heap.size w w') := hG0
  clear hF0 hG0
  obtain ⟨v0, hv0, hv0b, hv0s, h00⟩ : ∃ v0, w.alloc (.cells (sm A) 24) = v0 ∧ Below w.heap.size w v0 ∧ v0.heap.size = w.heap.size + 1 ∧ v0.heap[w.heap.size]? = some (.cells (sm A) 24 (0, 0)) :=
    ⟨_, rfl, (Below.refl _ _).alloc (Nat.le_refl _) _, by simp, heap_alloc_last w _⟩
  have hoN := sm_one N
  go_enter Try.func3, Try.ntmps3
  go_wp2_with (first
    | (go_at_call 6; refine (HF.out _).mono ?_; rintro e7 w7 ⟨rfl, hw7⟩; obtain ⟨w8, hv8, hb8, hs8, q8⟩ := fresh_sum (W := w7) 25 N; have hal7 := heap_alloc_last w7 (.cells #[.int .u64 0, .int .u64 0, .int .u64 0, .int .u64 0, .int .u64 0, .int .u64 0] 25))
    | (refine wpList_store6 25 sizeSum rfl _ _ rfl w7.heap.size (sm N) _ rfl rfl rfl rfl hoN hal7 ?_; rw [hv8])
    | (go_at_call 7; refine (HG.out _).mono ?_; rintro e9 w9 ⟨rfl, hw9⟩; obtain ⟨w10, hv10, hb10, hs10, q10⟩ := fresh_sum (W := w9) 29 N; have hal9 := heap_alloc_last w9 (.cells #[.int .u64 0, .int .u64 0, .int .u64 0, .int .u64 0, .int .u64 0, .int .u64 0] 29))
    | (refine wpList_store6 29 sizeRSum rfl _ _ rfl w9.heap.size (sm N) _ rfl rfl rfl rfl hoN hal9 ?_; rw [hv10]))
  have z8 := below_chain2 hw7 hb8
  have z10 := below_chain2 hw9 hb10
  have hs7 := hw7.size
  have hs9 := hw9.size
  have p0 := (z10.block _ (by omega)).trans ((z8.block _ (by omega)).trans h00)
  have p1 := (z10.block _ (by omega)).trans q8
  have BW : Below w.heap.size w w10 := below_chain2 (below_chain2 hv0b z8) z10
  obtain ⟨x0, x1, x2, x3, x4, x5, hxA⟩ := sm_openb A
  obtain ⟨n0, n1, n2, n3, n4, n5, hxN⟩ := sm_openb N
  have HM1 : Hid (∀ w, Calls Try.prog 8 #[.agg #[.int .u64 x0, .int .u64 x1, .int .u64 x2, .int .u64 x3, .int .u64 x4, .int .u64 x5]] w fun e w' => e = .returned (.string (strOfNums (by48s A))) ∧ Below w.heap.size w w') := by
    intro w; have h := bytes_any A w; rwa [hxA] at h
  have HM2 : Hid (∀ w, Calls Try.prog 9 #[.agg #[.int .u64 x0, .int .u64 x1, .int .u64 x2, .int .u64 x3, .int .u64 x4, .int .u64 x5]] w fun e w' => e = .returned (.string (strOfNums (by48s A))) ∧ Below w.heap.size w w') := by
    intro w; have h := rbytes_any A w; rwa [hxA] at h
  have E1 : ∀ w, (Op.equalIn 10000 23 (.agg #[.int .u64 n0, .int .u64 n1, .int .u64 n2, .int .u64 n3, .int .u64 n4, .int .u64 n5]) (.agg #[.int .u64 n0, .int .u64 n1, .int .u64 n2, .int .u64 n3, .int .u64 n4, .int .u64 n5])).run Try.prog w = .ok true w := fun w => by
    have h := eq6 23 Try.underlying23 n0 n1 n2 n3 n4 n5 n0 n1 n2 n3 n4 n5 w
    simpa using h
  rw [hxA] at p0
  rw [hxN] at p1 q10
  have HS0 : Hid (Q3 w10.drew w.heap.size w7.heap.size w9.heap.size x0 x1 x2 x3 x4 x5 n0 n1 n2 n3 n4 n5) := ⟨(k6_ofb p0).1, (k6_ofb p1).1, (k6_ofb q10).1⟩
  have HBW : Hid (Below w.heap.size w w10) := BW
  have HD10 : Hid (Below w10.heap.size w10 w10.drew) := (Below.refl _ _).drew
  generalize strOfNums (by48s A) = str at *
  rw [hxA, hxN]
  clear z8 z10 hs7 hs9 p0 p1 q8 q10 hal7 hal9 hv8 hv10 hb8 hb10 hs8 hs10 hw7 hw9 BW hxA hxN HF HG h00 hv0 hv0s hv0b hoN
  go_region_held (fun w' => (w'.cell? ⟨w.heap.size, 0, none⟩ = some (.int .u64 x0) ∧ w'.cell? ⟨w.heap.size, 1, none⟩ = some (.int .u64 x1) ∧ w'.cell? ⟨w.heap.size, 2, none⟩ = some (.int .u64 x2) ∧ w'.cell? ⟨w.heap.size, 3, none⟩ = some (.int .u64 x3) ∧ w'.cell? ⟨w.heap.size, 4, none⟩ = some (.int .u64 x4) ∧ w'.cell? ⟨w.heap.size, 5, none⟩ = some (.int .u64 x5)) ∧ (w'.cell? ⟨w7.heap.size, 0, none⟩ = some (.int .u64 n0) ∧ w'.cell? ⟨w7.heap.size, 1, none⟩ = some (.int .u64 n1) ∧ w'.cell? ⟨w7.heap.size, 2, none⟩ = some (.int .u64 n2) ∧ w'.cell? ⟨w7.heap.size, 3, none⟩ = some (.int .u64 n3) ∧ w'.cell? ⟨w7.heap.size, 4, none⟩ = some (.int .u64 n4) ∧ w'.cell? ⟨w7.heap.size, 5, none⟩ = some (.int .u64 n5)) ∧ (w'.cell? ⟨w9.heap.size, 0, none⟩ = some (.int .u64 n0) ∧ w'.cell? ⟨w9.heap.size, 1, none⟩ = some (.int .u64 n1) ∧ w'.cell? ⟨w9.heap.size, 2, none⟩ = some (.int .u64 n2) ∧ w'.cell? ⟨w9.heap.size, 3, none⟩ = some (.int .u64 n3) ∧ w'.cell? ⟨w9.heap.size, 4, none⟩ = some (.int .u64 n4) ∧ w'.cell? ⟨w9.heap.size, 5, none⟩ = some (.int .u64 n5)))
    (first | with_reducible exact HS0.out | with_reducible exact (Q3.on HS0.out hw21) | with_reducible exact (Q3.on (Q3.on HS0.out hw21) hw22))
    ((first
      | (go_at_call 8; refine (HM1.out _).mono ?_; rintro e21 w21 ⟨rfl, hw21⟩)
      | (go_at_call 9; refine (HM2.out _).mono ?_; rintro e22 w22 ⟨rfl, hw22⟩)
      | (go_at_call 10; refine (numB _ _).mono ?_; rintro e23 w23 ⟨rfl, hw23⟩; subst w23)))
  have BF : Below w.heap.size w w22 := below_chain2 (below_chain2 (below_chain2 HBW.out HD10.out) hw21) hw22
  clear hw21 hw22
  go_wp2
  go_ret
  exact ⟨rfl, BF⟩
end Ty
end Go.Proofs.Ytbnmjmlcedkoaaa
