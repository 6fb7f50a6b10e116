import Derived.Test.YtdfgknmajcehiaaPeC
namespace Go.Proofs.Ytdfgknmajcehiaa
namespace Pe
open Go.RowKit
set_option linter.unusedVariables false
set_option maxRecDepth 8000
set_option maxHeartbeats 2000000 in
theorem prio_no (N A C v : Nat) (h : N ≤ v) (w : World) : Calls Try.prog 25 #[.agg (rk N A C), .int .u32 (v : Int)] w fun e w' => e = .returned (.tuple #[.int .u64 0, .int .i64 2]) ∧ Below w.heap.size w w' := by
  go_enter Try.func25, Try.ntmps25
  go_wp2
  all_goals go_ret2
  all_goals exact ⟨rfl, by repeat first | exact Below.refl _ _ | refine belowD ?_ | refine belowN ?_ _ | refine bA ?_ (by first | exact Nat.le_refl _ | (simp only [World.size_alloc]; omega)) _⟩
set_option maxHeartbeats 2000000 in
theorem prio_ok (N A C v : Nat) (h : v < N) (hN : N ≤ 2147483647) (hA : A < N) (hC : C < N) (w : World) : Calls Try.prog 25 #[.agg (rk N A C), .int .u32 (v : Int)] w fun e w' => e = .returned (.tuple #[.int .u64 (((A * v + C) % N : Nat) : Int), .int .i64 0]) ∧ Below w.heap.size w w' := by
  have h1 : ¬ (N : Int) = 0 := by omega
  have h2 : ((N : Int) == 0) = false := by simp; omega
  obtain ⟨q, hq⟩ : ∃ q : Nat, A * v = q := ⟨_, rfl⟩
  have hq2 : q ≤ 2147483647 * 2147483647 := by rw [← hq]; exact Nat.mul_le_mul (by omega) (by omega)
  have hq3 : (A : Int) * (v : Int) = (q : Int) := by rw [← hq]; push_cast; rfl
  rw [hq]
  clear hq
  go_enter Try.func25, Try.ntmps25
  go_wp2
  all_goals go_ret2
  all_goals exact ⟨rfl, by repeat first | exact Below.refl _ _ | refine belowD ?_ | refine belowN ?_ _ | refine bA ?_ (by first | exact Nat.le_refl _ | (simp only [World.size_alloc]; omega)) _⟩
abbrev K3 (b : Nat) (x y z : Int) (w : World) : Prop := w.cell? ⟨b, 0, none⟩ = some (.int .u32 x) ∧ w.cell? ⟨b, 1, none⟩ = some (.int .u32 y) ∧ w.cell? ⟨b, 2, none⟩ = some (.int .u32 z)
theorem k3 {w : World} {b : Nat} {x y z : Int} {t : TypeId} (h : w.heap[b]? = some (.cells (rk x y z) t (0, 0))) : K3 b x y z w := by
  refine ⟨?_, ?_, ?_⟩ <;> exact (cell_of_row w b _ _ t (0, 0) h).trans rfl
theorem K3.on {b n : Nat} {x y z : Int} {w w' : World} (h : K3 b x y z w) (hB : Below n w w') (hb : b < n) : K3 b x y z w' :=
  ⟨(hB.cell hb).trans h.1, (hB.cell hb).trans h.2.1, (hB.cell hb).trans h.2.2⟩
/-- The answers of Place. -/
def pl (N A C v : Nat) : Nat := if Ord N A C ∧ v < N then (A * v + C) % N else 0
def pe (N A C v : Nat) : Int := if Ord N A C then (if v < N then 0 else 2) else 140
theorem Ord.nums {N A C : Nat} (h : Ord N A C) : 1 ≤ N ∧ N ≤ 2147483647 ∧ A < N ∧ C < N := ⟨h.1.1, h.1.2, h.2.1, h.2.2.1⟩
set_option maxHeartbeats 2000000 in
theorem place_any (N A C v : Nat) (hN : N < 4294967296) (hA : A < 4294967296) (w : World) : Calls Try.prog 18 #[.agg (rk N A C), .int .u32 (v : Int)] w fun e w' => e = .returned (.tuple #[.int .u32 ((pl N A C v : Nat) : Int), .int .i64 (pe N A C v)]) ∧ Below w.heap.size w w' := by
  have HC := hide (check_any N A C hN hA)
  have HB0 : Hid (Below w.heap.size w (w.alloc (.cells (rk N A C) 54))) := by repeat first | exact Below.refl _ _ | refine bA ?_ (by first | exact Nat.le_refl _ | (simp only [World.size_alloc]; omega)) _
  have hk := k3 (t := 54) (at0 w (.cells (rk N A C) 54))
  by_cases ho : Ord N A C
  · obtain ⟨n1, n2, n3, n4⟩ := ho.nums
    have e1 : ck N A C = 0 := if_pos ho
    rw [e1] at HC
    by_cases hv : v < N
    · have HP := hide (prio_ok N A C v hv n2 n3 n4)
      have e2 : pe N A C v = 0 := by unfold pe; rw [if_pos ho, if_pos hv]
      have e3 : pl N A C v = (A * v + C) % N := if_pos ⟨ho, hv⟩
      obtain ⟨q, hq⟩ : ∃ q, (A * v + C) % N = q := ⟨_, rfl⟩
      have hq2 : q < N := by rw [← hq]; exact Nat.mod_lt _ (by omega)
      rw [e2, e3, hq]
      rw [hq] at HP
      clear e1 e2 e3 ho hq
      go_enter Try.func18, Try.ntmps18
      go_wp2_with (fail)
      refine (HC.out _).mono ?_
      rintro e9 w1 ⟨rfl, hw1⟩
      have hk1 := hk.on hw1 (by simp [World.size_alloc])
      have HB1 : Hid (Below w.heap.size w w1) := HB0.out.trans (hw1.mono (by simp only [World.size_alloc]; omega))
      clear hk hw1
      go_wp2_with (fail)
      refine (HP.out _).mono ?_
      rintro e9 w2 ⟨rfl, hw2⟩
      have HB2 : Hid (Below w.heap.size w w2) := HB1.out.trans (hw2.mono HB1.out.size)
      clear hw2
      go_wp2
      all_goals go_ret2
      all_goals exact ⟨rfl, HB2.out⟩
    · have HP := hide (prio_no N A C v (by omega))
      have e2 : pe N A C v = 2 := by unfold pe; rw [if_pos ho, if_neg hv]
      have e3 : pl N A C v = 0 := if_neg (fun h => hv h.2)
      rw [e2, e3]
      clear e1 e2 e3 ho
      go_enter Try.func18, Try.ntmps18
      go_wp2_with (fail)
      refine (HC.out _).mono ?_
      rintro e9 w1 ⟨rfl, hw1⟩
      have hk1 := hk.on hw1 (by simp [World.size_alloc])
      have HB1 : Hid (Below w.heap.size w w1) := HB0.out.trans (hw1.mono (by simp only [World.size_alloc]; omega))
      clear hk hw1
      go_wp2_with (fail)
      refine (HP.out _).mono ?_
      rintro e9 w2 ⟨rfl, hw2⟩
      have HB2 : Hid (Below w.heap.size w w2) := HB1.out.trans (hw2.mono HB1.out.size)
      clear hw2
      go_wp2
      all_goals go_ret2
      all_goals exact ⟨rfl, HB2.out⟩
  · have e1 : ck N A C = 140 := if_neg ho
    have e2 : pe N A C v = 140 := if_neg ho
    have e3 : pl N A C v = 0 := if_neg (fun h => ho h.1)
    rw [e1] at HC
    rw [e2, e3]
    clear e1 e2 e3 ho
    go_enter Try.func18, Try.ntmps18
    go_wp2_with (fail)
    refine (HC.out _).mono ?_
    rintro e9 w1 ⟨rfl, hw1⟩
    have hk1 := hk.on hw1 (by simp [World.size_alloc])
    have HB1 : Hid (Below w.heap.size w w1) := HB0.out.trans (hw1.mono (by simp only [World.size_alloc]; omega))
    clear hk hw1
    go_wp2
    all_goals go_ret2
    all_goals exact ⟨rfl, HB1.out⟩
set_option maxHeartbeats 2000000 in
theorem rplace_any (N A C v : Nat) (hN : N < 4294967296) (hA : A < 4294967296) (w : World) : Calls Try.prog 19 #[.agg (rk N A C), .int .u32 (v : Int)] w fun e w' => e = .returned (.tuple #[.int .u32 ((pl N A C v : Nat) : Int), .int .i64 (pe N A C v)]) ∧ Below w.heap.size w w' := by
  have HC := hide (rcheck_any N A C hN hA)
  have HB0 : Hid (Below w.heap.size w (w.alloc (.cells (rk N A C) 54))) := by repeat first | exact Below.refl _ _ | refine bA ?_ (by first | exact Nat.le_refl _ | (simp only [World.size_alloc]; omega)) _
  have hk := k3 (t := 54) (at0 w (.cells (rk N A C) 54))
  by_cases ho : Ord N A C
  · obtain ⟨n1, n2, n3, n4⟩ := ho.nums
    have e1 : ck N A C = 0 := if_pos ho
    rw [e1] at HC
    by_cases hv : v < N
    · have e2 : pe N A C v = 0 := by unfold pe; rw [if_pos ho, if_pos hv]
      have e3 : pl N A C v = (A * v + C) % N := if_pos ⟨ho, hv⟩
      have h1 : ¬ (N : Int) = 0 := by omega
      have h2 : ((N : Int) == 0) = false := by simp; omega
      obtain ⟨q, hq⟩ : ∃ q : Nat, A * v = q := ⟨_, rfl⟩
      have hq2 : q ≤ 2147483647 * 2147483647 := by rw [← hq]; exact Nat.mul_le_mul (by omega) (by omega)
      have hq3 : (A : Int) * (v : Int) = (q : Int) := by rw [← hq]; push_cast; rfl
      obtain ⟨z, hz⟩ : ∃ z : Nat, (q + C) % N = z := ⟨_, rfl⟩
      have hz2 : z < N := by rw [← hz]; exact Nat.mod_lt _ (by omega)
      have hz3 : ((q : Int) + (C : Int)) % (N : Int) = (z : Int) := by rw [← hz]; rfl
      rw [e2, e3, hq, hz]
      clear hz
      clear e1 e2 e3 ho hq
      go_enter Try.func19, Try.ntmps19
      go_wp2_with (fail)
      refine (HC.out _).mono ?_
      rintro e9 w1 ⟨rfl, hw1⟩
      have hk1 := hk.on hw1 (by simp [World.size_alloc])
      have HB1 : Hid (Below w.heap.size w w1) := HB0.out.trans (hw1.mono (by simp only [World.size_alloc]; omega))
      clear hk hw1
      go_wp2
      all_goals go_ret2
      all_goals exact ⟨rfl, HB1.out⟩
    · have e2 : pe N A C v = 2 := by unfold pe; rw [if_pos ho, if_neg hv]
      have e3 : pl N A C v = 0 := if_neg (fun h => hv h.2)
      rw [e2, e3]
      clear e1 e2 e3 ho
      go_enter Try.func19, Try.ntmps19
      go_wp2_with (fail)
      refine (HC.out _).mono ?_
      rintro e9 w1 ⟨rfl, hw1⟩
      have hk1 := hk.on hw1 (by simp [World.size_alloc])
      have HB1 : Hid (Below w.heap.size w w1) := HB0.out.trans (hw1.mono (by simp only [World.size_alloc]; omega))
      clear hk hw1
      go_wp2
      all_goals go_ret2
      all_goals exact ⟨rfl, HB1.out⟩
  · have e1 : ck N A C = 140 := if_neg ho
    have e2 : pe N A C v = 140 := if_neg ho
    have e3 : pl N A C v = 0 := if_neg (fun h => ho h.1)
    rw [e1] at HC
    rw [e2, e3]
    clear e1 e2 e3 ho
    go_enter Try.func19, Try.ntmps19
    go_wp2_with (fail)
    refine (HC.out _).mono ?_
    rintro e9 w1 ⟨rfl, hw1⟩
    have hk1 := hk.on hw1 (by simp [World.size_alloc])
    have HB1 : Hid (Below w.heap.size w w1) := HB0.out.trans (hw1.mono (by simp only [World.size_alloc]; omega))
    clear hk hw1
    go_wp2
    all_goals go_ret2
    all_goals exact ⟨rfl, HB1.out⟩
end Pe
end Go.Proofs.Ytdfgknmajcehiaa
