import Derived.Test.YtcepfmeoeepjdaaAuY
import Derived.WalkMore
namespace Go.Proofs.Ytcepfmeoeepjdaa
namespace Au
open Go.RowKit
set_option linter.unusedVariables false
set_option maxRecDepth 8000
set_option maxHeartbeats 2000000 in
theorem div_any (x y g : Nat) (hx : x < 4294967296) (hy : y < 4294967296) (hg : Nat.gcd x y = g) (w : World) : Calls Try.prog 119 #[.int .u32 (x : Int), .int .u32 (y : Int)] w fun e w' => e = .returned (.int .u32 (g : Int)) ∧ ∃ m, w' = w.drewN m := by
  have HG : Hid (Nat.gcd x y = g) := hg
  clear hg
  go_enter Try.func119, Try.ntmps119
  go_wp2
  go_step3
  go_wp2
  go_step3
  go_wp2
  go_loopw [0, 1] (fun u v wr => ∃ a b : Nat, a < 4294967296 ∧ b < 4294967296 ∧ u = .int .u32 (a : Int) ∧ v = .int .u32 (b : Int) ∧ Hid (Nat.gcd a b = g) ∧ ∃ m, wr = w.drewN m) (fun _ v _ => (intOf v).toNat)
  case atStart => exact ⟨x, y, hx, hy, rfl, rfl, HG, 0, rfl⟩
  case round =>
    obtain ⟨a, b, ha, hb, rfl, rfl, hg, m, rfl⟩ := hrel
    by_cases h0 : b = 0
    · subst h0
      go_wp2
      simp only [Exit.noGoto]
      go_ret
      have h := hg.out
      rw [Nat.gcd_zero_right] at h
      exact ⟨by subst h; rfl, _, rfl⟩
    · have h1 : 0 < (b : Int) := by omega
      have h2 : ¬ (b : Int) = 0 := by omega
      have h3 : (((b : Nat) : Int) == 0) = false := by simp [h0]
      clear h0
      go_wp2
      go_region
      all_goals go_wp2
      refine ⟨⟨b, a % b, hb, ?_, rfl, ?_, ?_, m + 1, rfl⟩, ?_⟩
      · have := Nat.mod_lt a (show 0 < b by omega); omega
      · rfl
      · show Nat.gcd b (a % b) = g
        rw [Nat.gcd_comm, ← Nat.gcd_rec, Nat.gcd_comm]; exact hg.out
      · have := Nat.mod_lt a (show 0 < b by omega)
        simp only [intOf]
        omega
abbrev rk (N A C : Int) : Array Value := #[.int .u32 N, .int .u32 A, .int .u32 C]
abbrev Sz (N : Nat) : Prop := 1 ≤ N ∧ N ≤ 2147483647
def Ord (N A C : Nat) : Prop := Sz N ∧ A < N ∧ C < N ∧ Nat.gcd N A = 1
instance (N A C : Nat) : Decidable (Ord N A C) := by unfold Ord; infer_instance
theorem psize_any (n : Nat) (k : Bool) (hk : (decide (1 ≤ n ∧ n ≤ 2147483647)) = k) (w : World) : Calls Try.prog 118 #[.int .u32 (n : Int)] w fun e w' => e = .returned (.bool k) ∧ w' = w := by
  by_cases h : 1 ≤ n ∧ n ≤ 2147483647
  · obtain rfl : k = true := by rw [← hk]; simp [h]
    obtain ⟨h1, h2⟩ := h
    clear hk
    go_enter Try.func118, Try.ntmps118
    go_wp2
    all_goals go_ret
    all_goals exact ⟨ret_bool (decide_eq_true (by omega)), rfl⟩
  · obtain rfl : k = false := by rw [← hk]; simp [h]
    clear hk
    by_cases h1 : 1 ≤ n
    · have h2 : 2147483647 < n := by omega
      clear h
      go_enter Try.func118, Try.ntmps118
      go_wp2
      all_goals go_ret
      all_goals exact ⟨ret_bool (decide_eq_false (by omega)), rfl⟩
    · obtain rfl : n = 0 := by omega
      clear h
      go_enter Try.func118, Try.ntmps118
      go_wp2
      all_goals go_ret
      all_goals exact ⟨rfl, rfl⟩
set_option maxHeartbeats 2000000 in
theorem check_no1 (N A C : Nat) (hN : N < 4294967296) (hA : A < 4294967296) (h : ¬ Sz N) (w : World) : Calls Try.prog 97 #[.agg (rk N A C)] w fun e w' => e = .returned (.int .i64 140) ∧ Below w.heap.size w w' := by
  have HS := hide (psize_any N false (by simp [h]))
  have HD := hide (div_any N A _ hN hA rfl)
  clear h
  go_enter Try.func97, Try.ntmps97
  go_wp2_with (first | (go_at_call 118; refine (HS.out _).mono ?_; rintro e9 w9 ⟨rfl, hw9⟩; subst w9) | (go_at_call 119; refine (HD.out _).mono ?_; rintro e9 w9 ⟨rfl, m9, hw9⟩; subst w9))
  all_goals go_ret
  all_goals exact ⟨rfl, by repeat first | exact Below.refl _ _ | refine belowD ?_ | refine belowN ?_ _ | refine bA ?_ (by first | exact Nat.le_refl _ | (simp only [World.size_alloc]; omega)) _⟩
set_option maxHeartbeats 2000000 in
theorem check_no2 (N A C : Nat) (hN : N < 4294967296) (hA : A < 4294967296) (h : Sz N) (h3 : N ≤ A) (w : World) : Calls Try.prog 97 #[.agg (rk N A C)] w fun e w' => e = .returned (.int .i64 140) ∧ Below w.heap.size w w' := by
  have HS := hide (psize_any N true (by simp [h.1, h.2]))
  have HD := hide (div_any N A _ hN hA rfl)
  obtain ⟨h1, h2⟩ := h
  go_enter Try.func97, Try.ntmps97
  go_wp2_with (first | (go_at_call 118; refine (HS.out _).mono ?_; rintro e9 w9 ⟨rfl, hw9⟩; subst w9) | (go_at_call 119; refine (HD.out _).mono ?_; rintro e9 w9 ⟨rfl, m9, hw9⟩; subst w9))
  all_goals go_ret
  all_goals exact ⟨rfl, by repeat first | exact Below.refl _ _ | refine belowD ?_ | refine belowN ?_ _ | refine bA ?_ (by first | exact Nat.le_refl _ | (simp only [World.size_alloc]; omega)) _⟩
set_option maxHeartbeats 2000000 in
theorem check_no3 (N A C : Nat) (hN : N < 4294967296) (hA : A < 4294967296) (h : Sz N) (h3 : A < N) (h4 : N ≤ C) (w : World) : Calls Try.prog 97 #[.agg (rk N A C)] w fun e w' => e = .returned (.int .i64 140) ∧ Below w.heap.size w w' := by
  have HS := hide (psize_any N true (by simp [h.1, h.2]))
  have HD := hide (div_any N A _ hN hA rfl)
  obtain ⟨h1, h2⟩ := h
  go_enter Try.func97, Try.ntmps97
  go_wp2_with (first | (go_at_call 118; refine (HS.out _).mono ?_; rintro e9 w9 ⟨rfl, hw9⟩; subst w9) | (go_at_call 119; refine (HD.out _).mono ?_; rintro e9 w9 ⟨rfl, m9, hw9⟩; subst w9))
  all_goals go_ret
  all_goals exact ⟨rfl, by repeat first | exact Below.refl _ _ | refine belowD ?_ | refine belowN ?_ _ | refine bA ?_ (by first | exact Nat.le_refl _ | (simp only [World.size_alloc]; omega)) _⟩
set_option maxHeartbeats 2000000 in
theorem check_no4 (N A C : Nat) (hN : N < 4294967296) (hA : A < 4294967296) (h : Sz N) (h3 : A < N) (h4 : C < N) (h5 : ¬ Nat.gcd N A = 1) (w : World) : Calls Try.prog 97 #[.agg (rk N A C)] w fun e w' => e = .returned (.int .i64 140) ∧ Below w.heap.size w w' := by
  have HS := hide (psize_any N true (by simp [h.1, h.2]))
  obtain ⟨g, hg⟩ : ∃ g, Nat.gcd N A = g := ⟨_, rfl⟩
  have HD := hide (div_any N A g hN hA hg)
  have hb : ((g : Int) == 1) = false := by rw [hg] at h5; simp; omega
  have hb2 : ((g : Int) != 1) = true := by simp [bne, hb]
  clear hg h5
  obtain ⟨h1, h2⟩ := h
  go_enter Try.func97, Try.ntmps97
  go_wp2_with (first | (go_at_call 118; refine (HS.out _).mono ?_; rintro e9 w9 ⟨rfl, hw9⟩; subst w9) | (go_at_call 119; refine (HD.out _).mono ?_; rintro e9 w9 ⟨rfl, m9, hw9⟩; subst w9))
  all_goals go_ret
  all_goals exact ⟨rfl, by repeat first | exact Below.refl _ _ | refine belowD ?_ | refine belowN ?_ _ | refine bA ?_ (by first | exact Nat.le_refl _ | (simp only [World.size_alloc]; omega)) _⟩
set_option maxHeartbeats 2000000 in
theorem check_ok (N A C : Nat) (hN : N < 4294967296) (hA : A < 4294967296) (h : Sz N) (h3 : A < N) (h4 : C < N) (h5 : Nat.gcd N A = 1) (w : World) : Calls Try.prog 97 #[.agg (rk N A C)] w fun e w' => e = .returned (.int .i64 0) ∧ Below w.heap.size w w' := by
  have HS := hide (psize_any N true (by simp [h.1, h.2]))
  have HD := hide (div_any N A 1 hN hA h5)
  clear h5
  obtain ⟨h1, h2⟩ := h
  go_enter Try.func97, Try.ntmps97
  go_wp2_with (first | (go_at_call 118; refine (HS.out _).mono ?_; rintro e9 w9 ⟨rfl, hw9⟩; subst w9) | (go_at_call 119; refine (HD.out _).mono ?_; rintro e9 w9 ⟨rfl, m9, hw9⟩; subst w9))
  all_goals go_ret
  all_goals exact ⟨rfl, by repeat first | exact Below.refl _ _ | refine belowD ?_ | refine belowN ?_ _ | refine bA ?_ (by first | exact Nat.le_refl _ | (simp only [World.size_alloc]; omega)) _⟩
/-- The answer of Check. -/
def ck (N A C : Nat) : Int := if Ord N A C then 0 else 140
theorem check_any (N A C : Nat) (hN : N < 4294967296) (hA : A < 4294967296) (w : World) : Calls Try.prog 97 #[.agg (rk N A C)] w fun e w' => e = .returned (.int .i64 (ck N A C)) ∧ Below w.heap.size w w' := by
  unfold ck
  by_cases h1 : Sz N
  · by_cases h2 : A < N
    · by_cases h3 : C < N
      · by_cases h4 : Nat.gcd N A = 1
        · rw [if_pos ⟨h1, h2, h3, h4⟩]; exact check_ok N A C hN hA h1 h2 h3 h4 w
        · rw [if_neg (fun h => h4 h.2.2.2)]; exact check_no4 N A C hN hA h1 h2 h3 h4 w
      · rw [if_neg (fun h => h3 h.2.2.1)]; exact check_no3 N A C hN hA h1 h2 (by omega) w
    · rw [if_neg (fun h => h2 h.2.1)]; exact check_no2 N A C hN hA h1 (by omega) w
  · rw [if_neg (fun h => h1 h.1)]; exact check_no1 N A C hN hA h1 w
set_option maxHeartbeats 2000000 in
theorem prio_no (N A C v : Nat) (h : N ≤ v) (w : World) : Calls Try.prog 120 #[.agg (rk N A C), .int .u32 (v : Int)] w fun e w' => e = .returned (.tuple #[.int .u64 0, .int .i64 2]) ∧ Below w.heap.size w w' := by
  go_enter Try.func120, Try.ntmps120
  go_wp2
  all_goals go_ret2
  all_goals exact ⟨rfl, by repeat first | exact Below.refl _ _ | refine belowD ?_ | refine belowN ?_ _ | refine bA ?_ (by first | exact Nat.le_refl _ | (simp only [World.size_alloc]; omega)) _⟩
set_option maxHeartbeats 2000000 in
theorem prio_ok (N A C v : Nat) (h : v < N) (hN : N ≤ 2147483647) (hA : A < N) (hC : C < N) (w : World) : Calls Try.prog 120 #[.agg (rk N A C), .int .u32 (v : Int)] w fun e w' => e = .returned (.tuple #[.int .u64 (((A * v + C) % N : Nat) : Int), .int .i64 0]) ∧ Below w.heap.size w w' := by
  have h1 : ¬ (N : Int) = 0 := by omega
  have h2 : ((N : Int) == 0) = false := by simp; omega
  obtain ⟨q, hq⟩ : ∃ q : Nat, A * v = q := ⟨_, rfl⟩
  have hq2 : q ≤ 2147483647 * 2147483647 := by rw [← hq]; exact Nat.mul_le_mul (by omega) (by omega)
  have hq3 : (A : Int) * (v : Int) = (q : Int) := by rw [← hq]; push_cast; rfl
  rw [hq]
  clear hq
  go_enter Try.func120, Try.ntmps120
  go_wp2
  all_goals go_ret2
  all_goals exact ⟨rfl, by repeat first | exact Below.refl _ _ | refine belowD ?_ | refine belowN ?_ _ | refine bA ?_ (by first | exact Nat.le_refl _ | (simp only [World.size_alloc]; omega)) _⟩
abbrev K3 (b : Nat) (x y z : Int) (w : World) : Prop := w.cell? ⟨b, 0, none⟩ = some (.int .u32 x) ∧ w.cell? ⟨b, 1, none⟩ = some (.int .u32 y) ∧ w.cell? ⟨b, 2, none⟩ = some (.int .u32 z)
theorem k3 {w : World} {b : Nat} {x y z : Int} {t : TypeId} (h : w.heap[b]? = some (.cells (rk x y z) t (0, 0))) : K3 b x y z w := by
  refine ⟨?_, ?_, ?_⟩ <;> exact (cell_of_row w b _ _ t (0, 0) h).trans rfl
theorem K3.on {b n : Nat} {x y z : Int} {w w' : World} (h : K3 b x y z w) (hB : Below n w w') (hb : b < n) : K3 b x y z w' :=
  ⟨(hB.cell hb).trans h.1, (hB.cell hb).trans h.2.1, (hB.cell hb).trans h.2.2⟩
/-- The answers of Place. -/
def pl (N A C v : Nat) : Nat := if Ord N A C ∧ v < N then (A * v + C) % N else 0
def pe (N A C v : Nat) : Int := if Ord N A C then (if v < N then 0 else 2) else 140
theorem Ord.nums {N A C : Nat} (h : Ord N A C) : 1 ≤ N ∧ N ≤ 2147483647 ∧ A < N ∧ C < N := ⟨h.1.1, h.1.2, h.2.1, h.2.2.1⟩
set_option maxHeartbeats 2000000 in
theorem place_any (N A C v : Nat) (hN : N < 4294967296) (hA : A < 4294967296) (w : World) : Calls Try.prog 99 #[.agg (rk N A C), .int .u32 (v : Int)] w fun e w' => e = .returned (.tuple #[.int .u32 ((pl N A C v : Nat) : Int), .int .i64 (pe N A C v)]) ∧ Below w.heap.size w w' := by
  have HC := hide (check_any N A C hN hA)
  have HB0 : Hid (Below w.heap.size w (w.alloc (.cells (rk N A C) 27))) := by repeat first | exact Below.refl _ _ | refine bA ?_ (by first | exact Nat.le_refl _ | (simp only [World.size_alloc]; omega)) _
  have hk := k3 (t := 27) (at0 w (.cells (rk N A C) 27))
  by_cases ho : Ord N A C
  · obtain ⟨n1, n2, n3, n4⟩ := ho.nums
    have e1 : ck N A C = 0 := if_pos ho
    rw [e1] at HC
    by_cases hv : v < N
    · have HP := hide (prio_ok N A C v hv n2 n3 n4)
      have e2 : pe N A C v = 0 := by unfold pe; rw [if_pos ho, if_pos hv]
      have e3 : pl N A C v = (A * v + C) % N := if_pos ⟨ho, hv⟩
      obtain ⟨q, hq⟩ : ∃ q, (A * v + C) % N = q := ⟨_, rfl⟩
      have hq2 : q < N := by rw [← hq]; exact Nat.mod_lt _ (by omega)
      rw [e2, e3, hq]
      rw [hq] at HP
      clear e1 e2 e3 ho hq
      go_enter Try.func99, Try.ntmps99
      go_wp2_with (fail)
      refine (HC.out _).mono ?_
      rintro e9 w1 ⟨rfl, hw1⟩
      have hk1 := hk.on hw1 (by simp [World.size_alloc])
      have HB1 : Hid (Below w.heap.size w w1) := HB0.out.trans (hw1.mono (by simp only [World.size_alloc]; omega))
      clear hk hw1
      go_wp2_with (fail)
      refine (HP.out _).mono ?_
      rintro e9 w2 ⟨rfl, hw2⟩
      have HB2 : Hid (Below w.heap.size w w2) := HB1.out.trans (hw2.mono HB1.out.size)
      clear hw2
      go_wp2
      all_goals go_ret2
      all_goals exact ⟨rfl, HB2.out⟩
    · have HP := hide (prio_no N A C v (by omega))
      have e2 : pe N A C v = 2 := by unfold pe; rw [if_pos ho, if_neg hv]
      have e3 : pl N A C v = 0 := if_neg (fun h => hv h.2)
      rw [e2, e3]
      clear e1 e2 e3 ho
      go_enter Try.func99, Try.ntmps99
      go_wp2_with (fail)
      refine (HC.out _).mono ?_
      rintro e9 w1 ⟨rfl, hw1⟩
      have hk1 := hk.on hw1 (by simp [World.size_alloc])
      have HB1 : Hid (Below w.heap.size w w1) := HB0.out.trans (hw1.mono (by simp only [World.size_alloc]; omega))
      clear hk hw1
      go_wp2_with (fail)
      refine (HP.out _).mono ?_
      rintro e9 w2 ⟨rfl, hw2⟩
      have HB2 : Hid (Below w.heap.size w w2) := HB1.out.trans (hw2.mono HB1.out.size)
      clear hw2
      go_wp2
      all_goals go_ret2
      all_goals exact ⟨rfl, HB2.out⟩
  · have e1 : ck N A C = 140 := if_neg ho
    have e2 : pe N A C v = 140 := if_neg ho
    have e3 : pl N A C v = 0 := if_neg (fun h => ho h.1)
    rw [e1] at HC
    rw [e2, e3]
    clear e1 e2 e3 ho
    go_enter Try.func99, Try.ntmps99
    go_wp2_with (fail)
    refine (HC.out _).mono ?_
    rintro e9 w1 ⟨rfl, hw1⟩
    have hk1 := hk.on hw1 (by simp [World.size_alloc])
    have HB1 : Hid (Below w.heap.size w w1) := HB0.out.trans (hw1.mono (by simp only [World.size_alloc]; omega))
    clear hk hw1
    go_wp2
    all_goals go_ret2
    all_goals exact ⟨rfl, HB1.out⟩
end Au
end Go.Proofs.Ytcepfmeoeepjdaa
