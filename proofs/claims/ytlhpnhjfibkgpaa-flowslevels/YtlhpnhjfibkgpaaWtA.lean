import Derived.Test.YtlhpnhjfibkgpaaWpC
namespace Go.Proofs.Ytlhpnhjfibkgpaa
namespace Wp
open Go.RowKit
set_option linter.unusedVariables false
set_option maxRecDepth 8000
/-- Levels from one source: its value. -/
abbrev bv (n : Int) (qb c : Nat) : Array Value := #[.int .u32 n, .slice (some ⟨qb, 0, none⟩) 1 c]
set_option maxHeartbeats 1000000 in
theorem words_br (n : Int) (qb c : Nat) (w : World) : Calls Try.prog 105 #[.agg (bv n qb c)] w fun e w' => e = .returned (.int .i64 3) ∧ w' = w.alloc (.cells (bv n qb c) 91) := by
  go_enter Try.func105, Try.ntmps105
  go_wp2
  all_goals go_ret
  all_goals exact ⟨rfl, rfl⟩
set_option maxHeartbeats 1000000 in
theorem both_br (n : Int) (qb c : Nat) (w : World) : Calls Try.prog 101 #[.agg (bv n qb c)] w fun e w' => e = .returned (.bool false) ∧ w' = w.alloc (.cells (bv n qb c) 91) := by
  go_enter Try.func101, Try.ntmps101
  go_wp2
  all_goals go_ret
  all_goals exact ⟨rfl, rfl⟩
set_option maxHeartbeats 1000000 in
theorem sink_br (n : Int) (qb c : Nat) (w : World) : Calls Try.prog 103 #[.agg (bv n qb c)] w fun e w' => e = .returned (.agg (kv 2 1)) ∧ Below w.heap.size w w' := by
  go_enter Try.func103, Try.ntmps103
  go_wp2
  refine bodyPost_ret (v := .agg (kv 2 1)) ?_ rfl ⟨rfl, by repeat first | exact Below.refl _ _ | refine belowD ?_ | refine belowN ?_ _ | refine bA ?_ (by first | exact Nat.le_refl _ | (simp only [World.size_alloc]; omega)) _⟩
  simp only [results, Try.results103, asAddr]
  go_simp
set_option maxHeartbeats 2000000 in
theorem index_one (qb c : Nat) (s v : Int) (w : World) (hc : w.cell? ⟨qb, 0, none⟩ = some (.int .u32 s)) : Calls Try.prog 107 #[.slice (some ⟨qb, 0, none⟩) 1 c, .int .u32 v] w fun e w' => e = .returned (.int .i64 (if v = s then 0 else -1)) ∧ w' = w := by
  by_cases e : v = s
  · have hb : (v == s) = true := by rw [e]; simp
    rw [if_pos e]
    clear e
    go_enter Try.func107, Try.ntmps107
    go_wp2
    go_loop [8] (fun t => t = .int .i64 0) (fun t => 1)
    case atStart => rfl
    case round =>
      subst hrel
      go_wp2
      all_goals go_ret
      all_goals exact ⟨rfl, rfl⟩
  · have hb : (v == s) = false := by simp [e]
    rw [if_neg e]
    clear e
    go_enter Try.func107, Try.ntmps107
    go_wp2
    go_loop [8] (fun t => t = .int .i64 0 ∨ t = .int .i64 1) (fun t => (1 - intOf t).toNat)
    case atStart => exact Or.inl rfl
    case round =>
      rcases hrel with rfl | rfl
      · go_wp2
        all_goals exact ⟨Or.inr rfl, by simp [intOf]⟩
      · go_wp2
        all_goals go_ret
        all_goals exact ⟨rfl, rfl⟩
set_option maxHeartbeats 1000000 in
theorem contains_one (qb c : Nat) (s v : Int) (w : World) (hc : w.cell? ⟨qb, 0, none⟩ = some (.int .u32 s)) : Calls Try.prog 106 #[.slice (some ⟨qb, 0, none⟩) 1 c, .int .u32 v] w fun e w' => e = .returned (.bool (v == s)) ∧ w' = w := by
  have HI := hide (index_one qb c s v w hc)
  by_cases e : v = s
  · rw [if_pos e] at HI
    have hb : (v == s) = true := by rw [e]; simp
    rw [hb]
    clear e
    go_enter Try.func106, Try.ntmps106
    go_wp2_with (fail)
    refine HI.out.mono ?_
    rintro e1 w1 ⟨rfl, rfl⟩
    go_wp2
    all_goals go_ret
    all_goals exact ⟨rfl, rfl⟩
  · rw [if_neg e] at HI
    have hb : (v == s) = false := by simp [e]
    rw [hb]
    clear e
    go_enter Try.func106, Try.ntmps106
    go_wp2_with (fail)
    refine HI.out.mono ?_
    rintro e1 w1 ⟨rfl, rfl⟩
    go_wp2
    all_goals go_ret
    all_goals exact ⟨rfl, rfl⟩
def brStart (s v : Int) : Nat → Int := if v = s then up (up (fun _ => 0) 1 v) 2 18446744073709551615 else up (up (up (fun _ => 0) 0 18446744073709551615) 1 18446744073709551615) 2 18446744073709551615
set_option maxHeartbeats 2000000 in
theorem start_br (n : Int) (qb c : Nat) (s v a b : Int) (h0 : 0 ≤ v) (h1 : v < 4294967296) (w : World) (hc : w.cell? ⟨qb, 0, none⟩ = some (.int .u32 s)) (hq : qb < w.heap.size) : Calls Try.prog 104 #[.agg (bv n qb c), .int .u32 v, .agg #[.int .u64 a, .int .u64 b]] w fun e w' => e = .returned (.tuple #[.agg (sv (brStart s v)), .int .i64 0]) ∧ Below w.heap.size w w' := by
  have hv : IntKind.u64.wrap v = v := wu v h0 (by omega)
  have HX : Hid (Below w.heap.size w (((w.alloc (.cells (bv n qb c) 91)).alloc (.cells #[.int .u64 a, .int .u64 b] 108)).alloc (.cells z8 35))) := by repeat first | exact Below.refl _ _ | refine bA ?_ (by first | exact Nat.le_refl _ | (simp only [World.size_alloc]; omega)) _
  have HC := hide (contains_one qb c s v (((w.alloc (.cells (bv n qb c) 91)).alloc (.cells #[.int .u64 a, .int .u64 b] 108)).alloc (.cells z8 35)) ((HX.out.cell hq).trans hc))
  clear hc hq
  by_cases e : v = s
  · have hb : (v == s) = true := by rw [e]; simp
    have hE2 : Hid (sv (brStart s v) = #[.int .u64 0, .int .u64 v, .int .u64 18446744073709551615, .int .u64 0, .int .u64 0, .int .u64 0, .int .u64 0, .int .u64 0]) := by show _ = _; simp [brStart, e, up]
    rw [hb] at HC
    clear e hb
    go_enter Try.func104, Try.ntmps104
    go_wp2_with (fail)
    refine HC.out.mono ?_
    rintro e1 w1 ⟨rfl, hw1⟩
    subst w1
    go_wp2
    all_goals (refine bodyPost_ret (v := .tuple #[.agg (sv (brStart s v)), .int .i64 0]) ?_ rfl ⟨rfl, by repeat first | exact Below.refl _ _ | refine bA ?_ (by first | exact Nat.le_refl _ | (simp only [World.size_alloc]; omega)) _⟩)
    all_goals simp only [results, Try.results104, asAddr, hE2.out]
    all_goals go_simp
  · have hb : (v == s) = false := by simp [e]
    have hE2 : Hid (sv (brStart s v) = #[.int .u64 18446744073709551615, .int .u64 18446744073709551615, .int .u64 18446744073709551615, .int .u64 0, .int .u64 0, .int .u64 0, .int .u64 0, .int .u64 0]) := by show _ = _; simp [brStart, e, up]
    rw [hb] at HC
    clear e hb
    go_enter Try.func104, Try.ntmps104
    go_wp2_with (fail)
    refine HC.out.mono ?_
    rintro e1 w1 ⟨rfl, hw1⟩
    subst w1
    go_wp2
    all_goals (refine bodyPost_ret (v := .tuple #[.agg (sv (brStart s v)), .int .i64 0]) ?_ rfl ⟨rfl, by repeat first | exact Below.refl _ _ | refine bA ?_ (by first | exact Nat.le_refl _ | (simp only [World.size_alloc]; omega)) _⟩)
    all_goals simp only [results, Try.results104, asAddr, hE2.out]
    all_goals go_simp
end Wp
end Go.Proofs.Ytlhpnhjfibkgpaa
