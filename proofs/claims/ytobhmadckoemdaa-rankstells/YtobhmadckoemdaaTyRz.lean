import Derived.Test.YtobhmadckoemdaaTyRs
import Derived.Test.YtobhmadckoemdaaTyRm
namespace Go.Proofs.Ytobhmadckoemdaa
namespace Ty
open Go.RowKit
set_option linter.unusedVariables false
/-- How many bits a number has. -/
def IsLen (N : Int) (n : Nat) : Prop := N < 2 ^ n ∧ (0 < n → bit N (n - 1) = 1)
theorem len_less (N : Int) (k : Nat) (h0 : 0 ≤ N) (h : N < 2 ^ (k + 1)) (hb : bit N k = 0) : N < 2 ^ k := by
  have e := low_bit N k
  rw [hb, Int.mul_zero, Int.zero_add, Int.emod_eq_of_lt h0 h] at e
  rw [e]; exact Int.emod_lt_of_pos _ (pw k)
set_option maxHeartbeats 800000 in
theorem rsize_any (N : Int) (a : Option Addr) (L cap : Nat) (w : World) (hL : L < 4611686018427387904) (h0 : 0 ≤ N) (h1 : N < 2 ^ L) (hr : BR w a L N) :
    Calls Try.prog 43 #[.slice a L cap] w fun e w' => (∃ n : Nat, e = .returned (.int .i64 n) ∧ n ≤ L ∧ IsLen N n) ∧ w' = w := by
  have HR : Hid (BR w a L N) := hr
  have HL : Hid (N < 2 ^ L) := h1
  clear hr h1
  go_enter Try.func43, Try.ntmps43
  go_wp2
  go_loop [3] (fun i => ∃ k : Nat, k ≤ L ∧ i = .int .i64 k ∧ N < 2 ^ k) (fun i => (intOf i).toNat)
  case atStart => exact ⟨L, Nat.le_refl _, rfl, HL.out⟩
  case round =>
    obtain ⟨k, hk, rfl, hlt⟩ := hrel
    have HT : Hid (N < 2 ^ k) := hlt
    clear hlt HL
    by_cases hp : 0 < k
    · obtain ⟨m, rfl⟩ : ∃ m, k = m + 1 := ⟨k - 1, by omega⟩
      obtain ⟨g, rfl, hg, hcell⟩ := HR.out (by omega)
      have c1 := hcell m (by omega)
      have hbb := bit_b N m
      have hidx : ((m + 1 : Nat) : Int) - 1 = (m : Int) := by omega
      have hpI : (0 : Int) < ((m + 1 : Nat) : Int) := by omega
      have hmI : (m : Int) < (L : Int) := by omega
      clear hcell
      by_cases hb : bit N m = 0
      · have HN : Hid (N < 2 ^ m) := len_less N m h0 HT.out hb
        rw [hb] at c1
        clear hb hbb HT
        go_wp2
        exact ⟨⟨m, by omega, rfl, HN.out⟩, by simp [intOf]⟩
      · have hb1 : bit N m = 1 := by omega
        have HN : Hid (IsLen N (m + 1)) := ⟨HT.out, fun _ => hb1⟩
        rw [hb1] at c1
        clear hb hbb HT hb1
        go_wp2
        go_ret
        exact ⟨⟨m + 1, rfl, by omega, HN.out⟩, rfl⟩
    · obtain rfl : k = 0 := by omega
      have HN : Hid (IsLen N 0) := ⟨HT.out, fun h => by omega⟩
      go_wp2
      go_ret
      exact ⟨⟨0, rfl, by omega, HN.out⟩, rfl⟩
def ab (A : Int) : Int := if A < 0 then -A else A
theorem ab_b (A : Int) (h : Sg A) : 0 ≤ ab A ∧ ab A ≤ 2 ^ 383 := by
  unfold ab
  obtain ⟨h1, h2⟩ := h
  generalize (2 : Int) ^ 383 = P at *
  split <;> omega
set_option maxHeartbeats 800000 in
set_option maxRecDepth 8000 in
theorem rapart_any (A : Int) (h : Sg A) (w : World) :
    Calls Try.prog 42 #[.agg (sm A)] w fun e w' => ∃ g, e = .returned (.tuple #[.bool (decide (A < 0)), .slice (some ⟨g, 0, none⟩) 384 384]) ∧ w.heap.size ≤ g ∧ Bits w' g (ab A) ∧ Below w.heap.size w w' := by
  obtain ⟨v, hv, hvb, hv0⟩ : ∃ v, w.alloc (.cells (sm A) 40) = v ∧ Below w.heap.size w v ∧ v.heap[w.heap.size]? = some (.cells (sm A) 40 (0, 0)) := ⟨_, rfl, (Below.refl _ _).alloc (Nat.le_refl _) _, heap_alloc_last w _⟩
  have HA : Hid (∀ w, Calls Try.prog 54 #[.agg (sm A)] w fun e w' => ∃ g, e = .returned (.slice (some ⟨g, 0, none⟩) 384 384) ∧ w.heap.size ≤ g ∧ Bits w' g A ∧ Below w.heap.size w w') := rbits_any A
  have hsa : (sm A).size = 6 := rfl
  have ht := bit_top A h
  have hvs := hvb.size
  generalize sm A = ca at *
  go_enter Try.func42, Try.ntmps42
  go_wp2_with (refine wpList_load6 40 _ Try.underlying40 sizeRSum rfl _ rfl w.heap.size ca rfl hsa hv0 ?_)
  clear hv
  refine (HA.out _).mono ?_
  rintro e1 w1 ⟨g1, rfl, hg1, hb1, hw1⟩
  have b1 := below_chain hvb hw1 (Nat.le_refl _)
  have c1 := World.rowIs.cell hb1 (show 383 < 384 by omega)
  have HB1 : Hid (Bits w1 g1 A) := hb1
  clear hv0 hvb hw1 HA hb1
  by_cases hneg : A < 0
  · have HAB : Hid (ab A = -A) := by show _ = _; unfold ab; rw [if_pos hneg]
    rw [if_pos hneg] at ht
    rw [ht] at c1
    have HD : Hid (decide (A < 0) = true) := decide_eq_true hneg
    clear ht h hneg
    go_wp2_with (fail)
    refine (rminus_any A _ _ HB1.out).mono ?_
    rintro e2 w2 ⟨g2, rfl, hg2, hb2, hw2⟩
    have b2 := below_chain b1 hw2 (Nat.le_refl _)
    have s1 := b1.size
    have HB2 : Hid (Bits w2 g2 (-A)) := hb2
    clear hb2 hw2 b1 c1
    go_wp2
    go_ret2
    exact ⟨g2, by rw [HD.out]; rfl, by omega, by rw [HAB.out]; exact HB2.out, b2⟩
  · have HAB : Hid (ab A = A) := by show _ = _; unfold ab; rw [if_neg hneg]
    rw [if_neg hneg] at ht
    rw [ht] at c1
    have HD : Hid (decide (A < 0) = false) := decide_eq_false hneg
    clear ht h hneg
    go_wp2
    go_ret2
    exact ⟨g1, by rw [HD.out]; rfl, by omega, by rw [HAB.out]; exact HB1.out, b1⟩
end Ty
end Go.Proofs.Ytobhmadckoemdaa
