import Derived.Test.YtipnlcnikpngcaaDoorPeC
namespace Go.Proofs.YtipnlcnikpngcaaDoor
namespace Wp
open Go.RowKit
set_option linter.unusedVariables false
set_option maxRecDepth 8000
set_option maxHeartbeats 2000000 in
theorem prio_no (N A C v : Nat) (h : N ≤ v) (w : World) : Calls Tryd.prog 79 #[.agg (rk N A C), .int .u32 (v : Int)] w fun e w' => e = .returned (.tuple #[.int .u64 0, .int .i64 2]) ∧ Below w.heap.size w w' := by
  go_enter Tryd.func79, Tryd.ntmps79
  go_wp2
  all_goals go_ret2
  all_goals exact ⟨rfl, by repeat first | exact Below.refl _ _ | refine belowD ?_ | refine belowN ?_ _ | refine bA ?_ (by first | exact Nat.le_refl _ | (simp only [World.size_alloc]; omega)) _⟩
set_option maxHeartbeats 2000000 in
theorem prio_ok (N A C v : Nat) (h : v < N) (hN : N ≤ 2147483647) (hA : A < N) (hC : C < N) (w : World) : Calls Tryd.prog 79 #[.agg (rk N A C), .int .u32 (v : Int)] w fun e w' => e = .returned (.tuple #[.int .u64 (((A * v + C) % N : Nat) : Int), .int .i64 0]) ∧ Below w.heap.size w w' := by
  have h1 : ¬ (N : Int) = 0 := by omega
  have h2 : ((N : Int) == 0) = false := by simp; omega
  obtain ⟨q, hq⟩ : ∃ q : Nat, A * v = q := ⟨_, rfl⟩
  have hq2 : q ≤ 2147483647 * 2147483647 := by rw [← hq]; exact Nat.mul_le_mul (by omega) (by omega)
  have hq3 : (A : Int) * (v : Int) = (q : Int) := by rw [← hq]; push_cast; rfl
  rw [hq]
  clear hq
  go_enter Tryd.func79, Tryd.ntmps79
  go_wp2
  all_goals go_ret2
  all_goals exact ⟨rfl, by repeat first | exact Below.refl _ _ | refine belowD ?_ | refine belowN ?_ _ | refine bA ?_ (by first | exact Nat.le_refl _ | (simp only [World.size_alloc]; omega)) _⟩
/-- The answers of Place. -/
def pl (N A C v : Nat) : Nat := if Ord N A C ∧ v < N then (A * v + C) % N else 0
def pe (N A C v : Nat) : Int := if Ord N A C then (if v < N then 0 else 2) else 140
theorem Ord.nums {N A C : Nat} (h : Ord N A C) : 1 ≤ N ∧ N ≤ 2147483647 ∧ A < N ∧ C < N := ⟨h.1.1, h.1.2, h.2.1, h.2.2.1⟩
set_option maxHeartbeats 2000000 in
theorem rplace_any (N A C v : Nat) (hN : N < 4294967296) (hA : A < 4294967296) (w : World) : Calls Tryd.prog 46 #[.agg (rk N A C), .int .u32 (v : Int)] w fun e w' => e = .returned (.tuple #[.int .u32 ((pl N A C v : Nat) : Int), .int .i64 (pe N A C v)]) ∧ Below w.heap.size w w' := by
  have HC := hide (rcheck_any N A C hN hA)
  have HB0 : Hid (Below w.heap.size w (w.alloc (.cells (rk N A C) 26))) := by repeat first | exact Below.refl _ _ | refine bA ?_ (by first | exact Nat.le_refl _ | (simp only [World.size_alloc]; omega)) _
  have hk := k3 (t := 26) (at0 w (.cells (rk N A C) 26))
  by_cases ho : Ord N A C
  · obtain ⟨n1, n2, n3, n4⟩ := ho.nums
    have e1 : ck N A C = 0 := if_pos ho
    rw [e1] at HC
    by_cases hv : v < N
    · have e2 : pe N A C v = 0 := by unfold pe; rw [if_pos ho, if_pos hv]
      have e3 : pl N A C v = (A * v + C) % N := if_pos ⟨ho, hv⟩
      have h1 : ¬ (N : Int) = 0 := by omega
      have h2 : ((N : Int) == 0) = false := by simp; omega
      obtain ⟨q, hq⟩ : ∃ q : Nat, A * v = q := ⟨_, rfl⟩
      have hq2 : q ≤ 2147483647 * 2147483647 := by rw [← hq]; exact Nat.mul_le_mul (by omega) (by omega)
      have hq3 : (A : Int) * (v : Int) = (q : Int) := by rw [← hq]; push_cast; rfl
      obtain ⟨z, hz⟩ : ∃ z : Nat, (q + C) % N = z := ⟨_, rfl⟩
      have hz2 : z < N := by rw [← hz]; exact Nat.mod_lt _ (by omega)
      have hz3 : ((q : Int) + (C : Int)) % (N : Int) = (z : Int) := by rw [← hz]; rfl
      rw [e2, e3, hq, hz]
      clear hz
      clear e1 e2 e3 ho hq
      go_enter Tryd.func46, Tryd.ntmps46
      go_wp2_with (fail)
      refine (HC.out _).mono ?_
      rintro e9 w1 ⟨rfl, hw1⟩
      have hk1 := hk.on hw1 (by simp [World.size_alloc])
      have HB1 : Hid (Below w.heap.size w w1) := HB0.out.trans (hw1.mono (by simp only [World.size_alloc]; omega))
      clear hk hw1
      go_wp2
      all_goals go_ret2
      all_goals exact ⟨rfl, HB1.out⟩
    · have e2 : pe N A C v = 2 := by unfold pe; rw [if_pos ho, if_neg hv]
      have e3 : pl N A C v = 0 := if_neg (fun h => hv h.2)
      rw [e2, e3]
      clear e1 e2 e3 ho
      go_enter Tryd.func46, Tryd.ntmps46
      go_wp2_with (fail)
      refine (HC.out _).mono ?_
      rintro e9 w1 ⟨rfl, hw1⟩
      have hk1 := hk.on hw1 (by simp [World.size_alloc])
      have HB1 : Hid (Below w.heap.size w w1) := HB0.out.trans (hw1.mono (by simp only [World.size_alloc]; omega))
      clear hk hw1
      go_wp2
      all_goals go_ret2
      all_goals exact ⟨rfl, HB1.out⟩
  · have e1 : ck N A C = 140 := if_neg ho
    have e2 : pe N A C v = 140 := if_neg ho
    have e3 : pl N A C v = 0 := if_neg (fun h => ho h.1)
    rw [e1] at HC
    rw [e2, e3]
    clear e1 e2 e3 ho
    go_enter Tryd.func46, Tryd.ntmps46
    go_wp2_with (fail)
    refine (HC.out _).mono ?_
    rintro e9 w1 ⟨rfl, hw1⟩
    have hk1 := hk.on hw1 (by simp [World.size_alloc])
    have HB1 : Hid (Below w.heap.size w w1) := HB0.out.trans (hw1.mono (by simp only [World.size_alloc]; omega))
    clear hk hw1
    go_wp2
    all_goals go_ret2
    all_goals exact ⟨rfl, HB1.out⟩
end Wp
end Go.Proofs.YtipnlcnikpngcaaDoor
