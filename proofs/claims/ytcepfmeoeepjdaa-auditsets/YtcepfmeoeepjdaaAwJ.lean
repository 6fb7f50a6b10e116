import Derived.Test.YtcepfmeoeepjdaaAwA
namespace Go.Proofs.Ytcepfmeoeepjdaa
namespace Au
open Go.RowKit
set_option linter.unusedVariables false
set_option maxRecDepth 8000
set_option maxHeartbeats 4000000 in
theorem rplace_any (N A C v : Nat) (hv : v < N) (hN : N ≤ 2147483647) (hA : A < N) (hC : C < N) (w : World) : Calls Try.prog 66 #[.agg (rk N A C), .int .u32 (v : Int)] w fun e w' => e = .returned (.int .u64 (((A * v + C) % N : Nat) : Int)) ∧ w' = w.alloc (.cells (rk N A C) 27) := by
  have h1 : ¬ (N : Int) = 0 := by omega
  have h2 : ((N : Int) == 0) = false := by simp; omega
  obtain ⟨q, hq⟩ : ∃ q : Nat, A * v = q := ⟨_, rfl⟩
  have hq2 : q ≤ 2147483647 * 2147483647 := by rw [← hq]; exact Nat.mul_le_mul (by omega) (by omega)
  have hq3 : (A : Int) * (v : Int) = (q : Int) := by rw [← hq]; push_cast; rfl
  rw [hq]
  clear hq
  go_enter Try.func66, Try.ntmps66
  go_wp2
  all_goals go_ret
  all_goals exact ⟨rfl, rfl⟩
set_option maxHeartbeats 4000000 in
theorem rordered_any (N A C : Nat) (hN : N < 4294967296) (hA : A < 4294967296) (w : World) : Calls Try.prog 24 #[.agg (rk N A C)] w fun e w' => e = .returned (.int .i64 (ck N A C)) ∧ Below w.heap.size w w' := by
  have HB : Hid (Below w.heap.size w (w.alloc (.cells (rk N A C) 27))) := b1 _ _ _
  unfold ck
  by_cases hs1 : N = 0
  · rw [if_neg (fun h => by have := h.1.1; omega)]
    subst hs1
    go_enter Try.func24, Try.ntmps24
    go_wp2
    all_goals go_ret
    all_goals exact ⟨rfl, HB.out⟩
  · have h1 : 1 ≤ N := by omega
    clear hs1
    by_cases hs2 : 2147483647 < N
    · rw [if_neg (fun h => by have := h.1.2; omega)]
      go_enter Try.func24, Try.ntmps24
      go_wp2
      all_goals go_ret
      all_goals exact ⟨rfl, HB.out⟩
    · have h2 : N ≤ 2147483647 := by omega
      clear hs2
      by_cases ha : N ≤ A
      · rw [if_neg (fun h => by have := h.2.1; omega)]
        go_enter Try.func24, Try.ntmps24
        go_wp2
        all_goals go_ret
        all_goals exact ⟨rfl, HB.out⟩
      · have h3 : A < N := by omega
        clear ha
        by_cases hc : N ≤ C
        · rw [if_neg (fun h => by have := h.2.2.1; omega)]
          go_enter Try.func24, Try.ntmps24
          go_wp2
          all_goals go_ret
          all_goals exact ⟨rfl, HB.out⟩
        · have h4 : C < N := by omega
          clear hc
          obtain ⟨g, hg⟩ : ∃ g, Nat.gcd N A = g := ⟨_, rfl⟩
          have HG := hide hg
          have HO : Hid ((if Ord N A C then (0 : Int) else 140) = if g = 1 then 0 else 140) := by
            show _ = _
            by_cases h1' : g = 1
            · rw [if_pos h1', if_pos ⟨⟨h1, h2⟩, h3, h4, by rw [HG.out]; exact h1'⟩]
            · rw [if_neg h1', if_neg (fun h => h1' (HG.out.symm.trans h.2.2.2))]
          rw [HO.out]
          clear hg
          go_enter Try.func24, Try.ntmps24
          go_wp2_with (fail)
          go_loop [3, 4] (fun u v => ∃ a b : Nat, a < 4294967296 ∧ b < 4294967296 ∧ u = .int .u32 (a : Int) ∧ v = .int .u32 (b : Int) ∧ Hid (Nat.gcd b a = g)) (fun u _ => (intOf u).toNat)
          case atStart => exact ⟨A, N, hA, hN, rfl, rfl, HG⟩
          case round =>
            obtain ⟨a, b, ha, hb, rfl, rfl, hg⟩ := hrel
            by_cases h0 : a = 0
            · subst h0
              have hbg : b = g := by have h := hg.out; rw [Nat.gcd_zero_right] at h; exact h
              subst hbg
              by_cases hb1 : b = 1
              · subst hb1
                go_wp2
                all_goals go_ret
                all_goals exact ⟨rfl, HB.out⟩
              · have hbb : ((b : Int) != 1) = true := by simp; omega
                have HB1 := hide hb1
                clear hb1
                go_wp2
                all_goals go_ret
                all_goals first | exact ⟨rfl, HB.out⟩ | exact ⟨ret_int (if_neg HB1.out).symm, HB.out⟩
            · have h1 : 0 < (a : Int) := by omega
              have h2 : ¬ (a : Int) = 0 := by omega
              have h3 : (((a : Nat) : Int) != 0) = true := by simp; omega
              have h4 : (((a : Nat) : Int) == 0) = false := by simp; omega
              have hmod : (b : Int) % (a : Int) = ((b % a : Nat) : Int) := by omega
              have hlt := Nat.mod_lt b (show 0 < a by omega)
              clear h0
              go_wp2
              refine ⟨⟨b % a, a, by omega, ha, by first | rfl | (simp only [hmod]) | skip, rfl, ?_⟩, ?_⟩
              · show Nat.gcd a (b % a) = g
                rw [Nat.gcd_comm, ← Nat.gcd_rec, Nat.gcd_comm]; exact hg.out
              · simp only [intOf]
                omega
/-- No two vertices have one priority. -/
theorem pl_inj {N A C x y : Nat} (h : Ord N A C) (hx : x < N) (hy : y < N) (e : pl N A C x = pl N A C y) : x = y := by
  have key : ∀ a b : Nat, a ≤ b → b < N → (A * a + C) % N = (A * b + C) % N → a = b := by
    intro a b hab hb e
    have h1 : N ∣ A * (b - a) := by
      have h2 := Nat.sub_mod_eq_zero_of_mod_eq e.symm
      have h5 : A * b + C - (A * a + C) = A * (b - a) := by rw [Nat.mul_sub]; omega
      rw [h5] at h2
      exact Nat.dvd_of_mod_eq_zero h2
    have h3 : N ∣ (b - a) := (show Nat.Coprime N A from h.2.2.2).dvd_of_dvd_mul_left h1
    have h4 := Nat.eq_zero_of_dvd_of_lt h3 (by omega)
    omega
  unfold pl at e
  rw [if_pos ⟨h, hx⟩, if_pos ⟨h, hy⟩] at e
  by_cases hxy : x ≤ y
  · exact key x y hxy hy e
  · exact (key y x (by omega) hx e.symm).symm
end Au
end Go.Proofs.Ytcepfmeoeepjdaa
