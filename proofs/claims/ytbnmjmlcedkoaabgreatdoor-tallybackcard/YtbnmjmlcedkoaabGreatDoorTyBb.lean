import Derived.Test.YtbnmjmlcedkoaabGreatDoorTyBa
import Derived.Test.YtbnmjmlcedkoaabGreatDoorTySix
namespace Go.Proofs.YtbnmjmlcedkoaabGreatDoor
namespace Ty
open Go.RowKit
set_option linter.unusedVariables false
theorem below_chain2 {w w1 w2 : World} (h1 : Below w.heap.size w w1) (h2 : Below w1.heap.size w1 w2) : Below w.heap.size w w2 :=
  h1.trans (h2.mono h1.size)
theorem fresh_sum {W : World} (t : TypeId) (N : Int) : ∃ V, (W.alloc (.cells #[.int .u64 0, .int .u64 0, .int .u64 0, .int .u64 0, .int .u64 0, .int .u64 0] t)).setRow W.heap.size (sm N) = V ∧ Below W.heap.size W V ∧ V.heap.size = W.heap.size + 1 ∧ V.heap[W.heap.size]? = some (.cells (sm N) t (0, 0)) := by
  refine ⟨_, rfl, below_setRow _ _ ((Below.refl _ _).alloc (Nat.le_refl _) _) (Nat.le_refl _), by simp, ?_⟩
  exact setRow_heap _ W.heap.size _ _ t (0, 0) (heap_alloc_last W _)
/-- The bytes of a text. -/
def sb (b : ByteArray) (j : Nat) : Int := ((b.data.toList.getD j 0).toNat : Int)
theorem sb_by (b : ByteArray) : By (sb b) := fun i => by
  unfold sb
  have := (b.data.toList.getD i 0).toNat_lt
  omega
theorem conv_b (b : ByteArray) (hb : b.size = 48) (w : World) : (convert 9 72 (.string b)).run Tryz.prog w = .ok (.slice (some ⟨w.heap.size, 0, none⟩) 48 (grownCap w 48 0 5)) (Lib.bytesWorld w 5 b) := by
  have := Lib.run_convert_string_bytes (P := Tryz.prog) w 9 72 5 b Tryz.underlying9 Tryz.underlying72 Tryz.underlying5
  rw [hb] at this; exact this
theorem below_bytes (w : World) (b : ByteArray) : Below w.heap.size w (Lib.bytesWorld w 5 b) := by
  refine ⟨rfl, rfl, rfl, by rw [Lib.bytesWorld_size]; omega, fun k hk => Lib.bytesWorld_at_old w 5 b k hk⟩
set_option maxHeartbeats 800000 in
theorem frombytes_short (b : ByteArray) (hb : b.size ≠ 48) (w : World) :
    Calls Tryz.prog 14 #[.string b] w fun e w' => e = .returned (.tuple #[.agg (sm 0), .int .i64 10]) ∧ Below w.heap.size w w' := by
  have hb' : ((b.size : Int) != 48) = true := by simp; omega
  clear hb
  obtain ⟨V, hV, bV, sV, qV⟩ := fresh_sum (W := w) 25 0
  have hal := heap_alloc_last w (.cells #[.int .u64 0, .int .u64 0, .int .u64 0, .int .u64 0, .int .u64 0, .int .u64 0] 25)
  have hld : (loadVar 25 ⟨w.heap.size, 0, none⟩).run Tryz.prog V = .ok (.agg (sm 0)) V := run_loadVar_row _ _ 25 25 _ (0, 0) _ qV Tryz.underlying25 rfl sizeSum
  have hone := sm_one 0
  go_enter Tryz.func14, Tryz.ntmps14
  go_wp2_with (refine wpList_store6 25 sizeSum rfl _ _ rfl w.heap.size (sm 0) _ rfl (by rw [← zeros_sm]; rfl) rfl rfl hone hal ?_; rw [hV])
  refine bodyPost_ret (v := .tuple #[.agg (sm 0), .int .i64 10]) ?_ rfl ⟨rfl, bV⟩
  simp [results, Tryz.results14, asAddr, hld]
def FMid (w wr : World) (t : Nat) (f : Nat → Int) : Prop :=
  Below w.heap.size w wr ∧ w.heap.size + 1 < wr.heap.size ∧ wr.rowIs w.heap.size t 6 (fun i => .int .u64 0) ∧ wr.rowIs (w.heap.size + 1) t 6 (fun i => .int .u64 (f i))
theorem fm_start (w : World) (t : Nat) (f : Nat → Int) (hf : ∀ i, f i = 0) : FMid w ((w.alloc (.cells (sm 0) t)).alloc (.cells (sm 0) t)) t f := by
  obtain ⟨h1, h2⟩ := heap_two w (.cells (sm 0) t) (.cells (sm 0) t)
  exact ⟨((Below.refl _ _).alloc (Nat.le_refl _) _).alloc (by simp) _, by simp, (row_sm h1).congr (fun i hi => by simp [zero_wd]), (row_sm h2).congr (fun i hi => by simp [zero_wd, hf])⟩
theorem fm_grow {w wr v : World} {t : Nat} {f : Nat → Int} (h : FMid w wr t f) (hb : Below wr.heap.size wr v) : FMid w v t f := by
  obtain ⟨b1, s1, r0, r1⟩ := h
  have := hb.size
  exact ⟨below_chain2 b1 hb, by omega, r0.of_block (hb.block _ (by omega)), r1.of_block (hb.block _ (by omega))⟩
theorem fm_set {w wr : World} {t : Nat} {f : Nat → Int} (h : FMid w wr t f) (k : Nat) (x : Int) : FMid w (wr.setCell ⟨w.heap.size + 1, k, none⟩ (.int .u64 x)) t (fun i => if i = k then x else f i) := by
  obtain ⟨b1, s1, r0, r1⟩ := h
  refine ⟨b1.setCell (by show w.heap.size ≤ w.heap.size + 1; omega) _, by simpa using s1, r0.setOther (by show w.heap.size ≠ w.heap.size + 1; omega) _, (r1.set k _).congr (fun i hi => ?_)⟩
  by_cases e : i = k
  · subst e; simp
  · simp only [e, if_false]
theorem fm_congr {w wr : World} {t : Nat} {f f' : Nat → Int} (h : FMid w wr t f) (he : ∀ i, i < 6 → f i = f' i) : FMid w wr t f' := by
  obtain ⟨b1, s1, r0, r1⟩ := h
  exact ⟨b1, s1, r0, r1.congr (fun i hi => by rw [he i hi])⟩
theorem wd_of_row {w : World} {b t : Nat} {f : Nat → Int} (h : w.rowIs b t 6 (fun i => .int .u64 (f i))) (hf : ∀ i, i < 6 → 0 ≤ f i ∧ f i < 18446744073709551616) : ∃ N : Int, (∀ i, i < 6 → wd N i = f i) ∧ w.heap[b]? = some (.cells (sm N) t (0, 0)) := by
  obtain ⟨N, _, _, hN⟩ := six_sm (f 0) (f 1) (f 2) (f 3) (f 4) (f 5) (hf 0 (by omega)) (hf 1 (by omega)) (hf 2 (by omega)) (hf 3 (by omega)) (hf 4 (by omega)) (hf 5 (by omega))
  have hw : ∀ i, i < 6 → wd N i = f i := by
    intro i hi
    have h1 := sm_get N i hi
    rw [← hN] at h1
    match i, hi with
    | 0, _ => simpa using h1.symm
    | 1, _ => simpa using h1.symm
    | 2, _ => simpa using h1.symm
    | 3, _ => simpa using h1.symm
    | 4, _ => simpa using h1.symm
    | 5, _ => simpa using h1.symm
  exact ⟨N, hw, sm_row (h.congr (fun i hi => by rw [hw i hi]))⟩
theorem gf8 (b : ByteArray) (o : Nat) : 0 ≤ gf (sb b) o 8 ∧ gf (sb b) o 8 < 18446744073709551616 := by
  have h := gf_b (sb b) o 8 (sb_by b)
  have e : (2 : Int) ^ (8 * 8) = 18446744073709551616 := by decide
  rw [e] at h; exact h
set_option maxHeartbeats 800000 in
theorem frombytes_any (b : ByteArray) (hb : b.size = 48) (w : World) :
    Calls Tryz.prog 14 #[.string b] w fun e w' => ∃ N : Int, (∀ i, i < 6 → wd N i = gf (sb b) (8 * i) 8) ∧ e = .returned (.tuple #[.agg (sm N), .int .i64 0]) ∧ Below w.heap.size w w' := by
  have hb' : ((b.size : Int) != 48) = false := by simp; omega
  have h0 := fm_start w 25 (fun i => if i < 0 then gf (sb b) (8 * i) 8 else 0) (fun i => by simp)
  rw [← zeros_sm] at h0
  go_enter Tryz.func14, Tryz.ntmps14
  go_wp2
  go_loopw [10, 5] (fun i _ wr => ∃ k : Nat, k ≤ 6 ∧ i = .int .i64 k ∧ FMid w wr 25 (fun i => if i < k then gf (sb b) (8 * i) 8 else 0)) (fun i _ _ => 6 - (intOf i).toNat)
  case atStart => exact ⟨0, by omega, rfl, h0⟩
  case round =>
    clear h0
    obtain ⟨k, hk, rfl, hm⟩ := hrel
    by_cases hlt : k < 6
    · have hcv := conv_b b hb
      have hm2 := fm_grow hm (below_bytes wr b)
      have HM : Hid (FMid w ((Lib.bytesWorld wr 5 b).setCell ⟨w.heap.size + 1, k, none⟩ (.int .u64 (gf (sb b) (8 * k) 8))) 25 (fun i => if i < k + 1 then gf (sb b) (8 * i) 8 else 0)) := by
        refine fm_congr (fm_set hm2 k _) (fun i hi => ?_)
        by_cases e : i = k
        · subst e; simp
        · simp only [e, if_false]
          by_cases h : i < k
          · rw [if_pos h, if_pos (by omega)]
          · rw [if_neg h, if_neg (by omega)]
      have c1 := hm2.2.2.2.cell hlt
      have f1 := hm2.2.2.2.frozen k
      have HC : Hid (∀ j, j < 48 → (Lib.bytesWorld wr 5 b).cell? ⟨wr.heap.size, j, none⟩ = some (.int .u8 (sb b j))) := fun j hj => Lib.bytesWorld_cell wr 5 b j (by omega)
      simp only [Nat.lt_irrefl, if_false] at c1
      clear hb hb' hm hm2
      go_wp2_with (go_at_call 40; refine (get8 (sb b) (sb_by b) _ _ (8 * k) _ (by omega) (by omega) _ HC.out).mono ?_; rintro e9 w9 ⟨rfl, hw9⟩; subst w9)
      exact ⟨⟨k + 1, by omega, by go_num, HM.out⟩, by simp [intOf]; omega⟩
    · obtain rfl : k = 6 := by omega
      obtain ⟨b1, s1, r0, r1⟩ := hm
      obtain ⟨N, hN, q1⟩ := wd_of_row (f := fun i => gf (sb b) (8 * i) 8) (r1.congr (fun i hi => by simp only [if_pos hi])) (fun i hi => gf8 b (8 * i))
      have q0 := sm_row (N := 0) (r0.congr (fun i hi => by rw [zero_wd]))
      have hbel := below_setRow w.heap.size (sm N) b1 (Nat.le_refl _)
      have hone := sm_one N
      have hld : (loadVar 25 ⟨w.heap.size, 0, none⟩).run Tryz.prog (wr.setRow w.heap.size (sm N)) = .ok (.agg (sm N)) (wr.setRow w.heap.size (sm N)) :=
        run_loadVar_row _ _ 25 25 _ (0, 0) _ (setRow_heap wr w.heap.size _ _ 25 (0, 0) q0) Tryz.underlying25 rfl sizeSum
      clear r0 r1
      go_wp2_with (first
        | (refine wpList_load6 25 _ Tryz.underlying25 sizeSum rfl _ rfl (w.heap.size + 1) (sm N) rfl rfl q1 ?_)
        | (refine wpList_store6 25 sizeSum rfl _ _ rfl w.heap.size (sm N) (sm 0) rfl rfl rfl rfl hone q0 ?_))
      refine bodyPost_ret (v := .tuple #[.agg (sm N), .int .i64 0]) ?_ rfl ⟨N, hN, rfl, hbel⟩
      simp [results, Tryz.results14, asAddr, hld]
end Ty
end Go.Proofs.YtbnmjmlcedkoaabGreatDoor
