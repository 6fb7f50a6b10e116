import Derived.Test.YtdphfhpohlodcaaJnB
namespace Go.Proofs.Ytdphfhpohlodcaa
namespace Jn
open Go.RowKit
set_option linter.unusedVariables false
def seed (i : Nat) : Int := if i = 0 then 3988292384 else 2 ^ (i - 1)
theorem seed_b (i : Nat) (hi : i < 32) : W32 (seed i) := by
  unfold seed W32
  split
  · omega
  · have h1 : (2 : Int) ^ (i - 1) ≤ 2 ^ 31 := by exact_mod_cast Nat.pow_le_pow_right (by omega) (by omega)
    have h2 : (0 : Int) < 2 ^ (i - 1) := by exact_mod_cast Nat.two_pow_pos (i - 1)
    omega
theorem dn_seed (i : Nat) (hi : i < 32) : dn (2 ^ i) = seed i := by
  match i with
  | 0 =>
    unfold dn seed
    rw [if_pos (by decide), if_pos rfl]
    rw [u32_xor _ _ (by decide) (by decide) (by decide) (by decide)]; decide
  | n + 1 =>
    have e : (2 : Int) ^ (n + 1) = 2 ^ n * 2 := by rw [Int.pow_succ]
    unfold dn seed
    rw [if_neg (by rw [e]; omega), if_neg (by omega), Nat.add_sub_cancel, e]; omega
/-- What the two variables of 'byteShift' hold behind j rounds. -/
def Mis (w wr : World) (j : Nat) : Prop :=
  Below w.heap.size w wr ∧ w.heap.size + 2 ≤ wr.heap.size ∧ wr.rowIs w.heap.size 46 32 (fun _ => .int .u32 0) ∧
  wr.rowIs (w.heap.size + 1) 46 32 (fun i => .int .u32 (if i ≤ j then seed i else 0))
theorem arr_first : Arr (#[.int .u32 3988292384] ++ Array.replicate 31 (.int .u32 0)) (fun i => if i ≤ 0 then seed i else 0) := by
  refine ⟨by simp, fun i hi => ?_⟩
  match i with
  | 0 => exact ⟨rfl, by unfold W32 seed; simp⟩
  | n + 1 => exact ⟨by rw [Array.getElem?_append_right (by simp)]; simp [show n < 31 by omega], by unfold W32; simp⟩
theorem heap_two (w : World) (o1 o2 : Obj) : ((w.alloc o1).alloc o2).heap[w.heap.size + 1]? = some o2 ∧ ((w.alloc o1).alloc o2).heap[w.heap.size]? = some o1 := by
  show ((w.heap.push o1).push o2)[w.heap.size + 1]? = some o2 ∧ ((w.heap.push o1).push o2)[w.heap.size]? = some o1
  constructor
  · rw [Array.getElem?_push, if_pos (by simp)]
  · rw [Array.getElem?_push, if_neg (by simp), Array.getElem?_push, if_pos rfl]
def firstA : Array Value := #[.int .u32 3988292384] ++ Array.replicate 31 (.int .u32 0)
theorem mis_start (w : World) : Mis w (((w.alloc (.cells (Array.replicate 32 (.int .u32 0)) 46)).alloc (.cells (Array.replicate 32 (.int .u32 0)) 46)).setRow (w.heap.size + 1) firstA) 0 := by
  obtain ⟨h2, h1⟩ := heap_two w (.cells (Array.replicate 32 (.int .u32 0)) 46) (.cells (Array.replicate 32 (.int .u32 0)) 46)
  refine ⟨?_, by simp, ?_, ?_⟩
  · exact (((Below.refl _ _).alloc (Nat.le_refl _) _).alloc (by simp) _).trans ⟨rfl, rfl, rfl, by simp, fun k hk => setRow_other _ _ k _ (by omega)⟩
  · refine row_of zeros ?_
    rw [setRow_other _ _ _ _ (by omega)]; exact h1
  · exact row_of arr_first (setRow_heap _ (w.heap.size + 1) _ _ 46 (0, 0) h2)
theorem mis_step {w wr : World} {j : Nat} (hm : Mis w wr j) (hj : j < 31) : Mis w (wr.setCell ⟨w.heap.size + 1, j + 1, none⟩ (.int .u32 (2 ^ j))) (j + 1) := by
  obtain ⟨b1, b2, r0, r1⟩ := hm
  refine ⟨b1.setCell (by show w.heap.size ≤ w.heap.size + 1; omega) _, by simp; omega, r0.setOther (by show w.heap.size ≠ w.heap.size + 1; omega) _, ?_⟩
  refine (r1.set (j + 1) _).congr (fun i hi => ?_)
  by_cases e : i = j + 1
  · subst e; simp [seed]
  · simp only [e, if_false]
    by_cases h : i ≤ j
    · rw [if_pos h, if_pos (by omega)]
    · rw [if_neg h, if_neg (by omega)]
theorem two_b (j : Nat) (hj : j < 32) : (0 : Int) < 2 ^ j ∧ (2 : Int) ^ j < 4294967296 := by
  have h1 : (2 : Int) ^ j ≤ 2 ^ 31 := by exact_mod_cast Nat.pow_le_pow_right (by omega) (by omega)
  have h2 : (0 : Int) < 2 ^ j := by exact_mod_cast Nat.two_pow_pos j
  omega
set_option maxHeartbeats 800000 in
theorem byteShift_any (w : World) :
    Calls Try.prog 17 #[] w fun e w' => ∃ d, e = .returned (.agg d) ∧ Arr d (sq (sq (sq seed))) ∧ Below w.heap.size w w' := by
  go_enter Try.func17, Try.ntmps17
  go_wp2_with (refine wpList_store46 rfl _ _ rfl (w.heap.size + 1) firstA (Array.replicate 32 (.int .u32 0)) rfl rfl rfl rfl (all_one arr_first) (heap_two w _ _).1 ?_)
  go_loopw [4] (fun i wr => ∃ j : Nat, j ≤ 31 ∧ i = .int .i64 j ∧ Mis w wr j) (fun i _ => 31 - (intOf i).toNat)
  case atStart =>
    exact ⟨0, by omega, rfl, mis_start w⟩
  case round =>
    obtain ⟨j, hj, rfl, hm⟩ := hrel
    by_cases hlt : j < 31
    · have HM : Hid (Mis w (wr.setCell ⟨w.heap.size + 1, j + 1, none⟩ (.int .u32 (2 ^ j))) (j + 1)) := mis_step hm hlt
      obtain ⟨v0, hj2⟩ : ∃ v, wr.cell? ⟨w.heap.size + 1, j + 1, none⟩ = some v := ⟨_, hm.2.2.2.cell (show j + 1 < 32 by omega)⟩
      have hj3 := hm.2.2.2.frozen (j + 1)
      have t2 : Hid ((2 : Int) ^ j % 4294967296 = 2 ^ j) := Int.emod_eq_of_lt (Int.le_of_lt (two_b j (by omega)).1) (two_b j (by omega)).2
      clear hm
      go_wp2
      exact ⟨⟨j + 1, by omega, by go_num, by rw [t2.out]; exact HM.out⟩, by simp [intOf]; omega⟩
    · obtain rfl : j = 31 := by omega
      obtain ⟨b1, b2, r0, r1⟩ := hm
      obtain ⟨z, rz, hz, _⟩ := r0
      obtain ⟨t, rt, ht, htc⟩ := r1
      have hd : Arr t seed := ⟨ht, fun i hi => ⟨by rw [htc i hi]; simp [show i ≤ 31 by omega], seed_b i hi⟩⟩
      have HD : Hid (Arr t seed) := hd
      clear htc hd
      go_wp2_with (refine wpList_load46 rfl _ rfl (w.heap.size + 1) t rfl ht rt ?_)
      refine (squared_any _ seed _ HD.out).mono ?_
      rintro e1 w1 ⟨d1, rfl, a1, c1⟩
      go_wp2_with (fail)
      refine (squared_any _ _ _ a1).mono ?_
      rintro e2 w2 ⟨d2, rfl, a2, c2⟩
      go_wp2_with (fail)
      refine (squared_any _ _ _ a2).mono ?_
      rintro e3 w3 ⟨d3, rfl, a3, c3⟩
      have rz3 : w3.heap[w.heap.size]? = some (.cells z 46 (0, 0)) := by
        rw [c3.block _ (by have := c1.size; have := c2.size; omega), c2.block _ (by have := c1.size; omega), c1.block _ (by omega)]; exact rz
      have hb3 : Below w.heap.size w (w3.setRow w.heap.size d3) := by
        refine (b1.trans ((c1.mono b1.size).trans ((c2.mono (by have := c1.size; have := b1.size; omega)).trans (c3.mono (by have := c1.size; have := c2.size; have := b1.size; omega))))).trans ⟨rfl, rfl, rfl, by simp, fun k hk => setRow_other _ _ k _ (by omega)⟩
      have hall := all_one a3
      have hld : (loadVar 46 ⟨w.heap.size, 0, none⟩).run Try.prog (w3.setRow w.heap.size d3) = .ok (.agg d3) (w3.setRow w.heap.size d3) :=
        run_loadVar_row _ _ 46 46 d3 (0, 0) _ (setRow_heap w3 w.heap.size z d3 46 (0, 0) rz3) Try.underlying46 rfl (by rw [a3.1]; exact size46)
      clear c1 c2 c3 b1 b2 a1 a2 rz rt HD
      go_wp2_with (refine wpList_store46 rfl _ _ rfl w.heap.size d3 z rfl rfl a3.1 hz hall rz3 ?_)
      refine bodyPost_ret (v := .agg d3) ?_ rfl ⟨d3, rfl, a3, hb3⟩
      simp [results, Try.results17, asAddr, Act.put, hld]
end Jn
end Go.Proofs.Ytdphfhpohlodcaa
