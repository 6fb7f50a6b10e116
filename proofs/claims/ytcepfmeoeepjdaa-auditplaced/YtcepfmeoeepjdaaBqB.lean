import Derived.Test.YtcepfmeoeepjdaaAuT
import Derived.Test.YtcepfmeoeepjdaaAuU
namespace Go.Proofs.Ytcepfmeoeepjdaa
namespace Au
open Go.RowKit
set_option linter.unusedVariables false
set_option maxRecDepth 8000
/-- How many vertices. -/
def zn (N : Nat) : Nat := if N < 1 then 1 else if 60 < N then 60 else N
theorem zn_b (N : Nat) : 1 ≤ zn N ∧ zn N ≤ 60 := by unfold zn; split; omega; split <;> omega
theorem ret_u32 {x y : Int} (h : x = y) : Ending.returned (.int .u32 x) = .returned (.int .u32 y) := by rw [h]
set_option maxHeartbeats 4000000 in
theorem size_any (c : Cs) (hN : c.N < 4294967296) (w : World) : Calls Try.prog 33 #[.agg (cb c)] w fun e w' => e = .returned (.int .u32 (zn c.N : Int)) ∧ w' = w.alloc (.cells (cb c) 30) := by
  obtain ⟨N, hNe⟩ : ∃ N, c.N = N := ⟨_, rfl⟩
  have hw1 : IntKind.i64.wrap (N : Int) = N := i64w _ (by omega)
  have hw2 : wrap64 (N : Int) = N := by unfold wrap64; omega
  have hw3 : IntKind.u32.wrap (N : Int) = N := by rw [hNe] at hN; simp only [IntKind.wrap, IntKind.signed, IntKind.bits]; simp; omega
  have hc : cb c = cb c := rfl
  rw [hNe]
  unfold zn
  by_cases h1 : N < 1
  · rw [if_pos h1]
    have h0 : N = 0 := by omega
    subst h0
    go_enter Try.func33, Try.ntmps33
    go_wp2
    all_goals go_ret
    all_goals first | exact ⟨rfl, rfl⟩ | (refine ⟨ret_u32 ?_, rfl⟩; first | rfl | omega) | (exfalso; omega)
  · rw [if_neg h1]
    by_cases h2 : 60 < N
    · rw [if_pos h2]
      go_enter Try.func33, Try.ntmps33
      go_wp2
      all_goals go_ret
      all_goals first | exact ⟨rfl, rfl⟩ | (refine ⟨ret_u32 ?_, rfl⟩; first | rfl | omega) | (exfalso; omega)
    · rw [if_neg h2]
      go_enter Try.func33, Try.ntmps33
      go_wp2
      all_goals go_ret
      all_goals first | exact ⟨rfl, rfl⟩ | (refine ⟨ret_u32 ?_, rfl⟩; first | rfl | omega) | (exfalso; omega)
/-- The edges of a graph. -/
def gr (n : Nat) (L : List T3) : List T3 := L.map fun e => (e.1 % n, e.2.1 % n, 0)
theorem gr_in {n : Nat} {L : List T3} (h : 0 < n) : ∀ e ∈ gr n L, e.1 < n ∧ e.2.1 < n := fun e he => by
  obtain ⟨x, _, rfl⟩ := List.mem_map.1 he
  exact ⟨Nat.mod_lt _ h, Nat.mod_lt _ h⟩
theorem gr_app (n : Nat) (L : List T3) (e : T3) : gr n (L ++ [e]) = gr n L ++ [(e.1 % n, e.2.1 % n, 0)] := by simp [gr]
theorem gr_len (n : Nat) (L : List T3) : (gr n L).length = L.length := by simp [gr]
end Au
end Go.Proofs.Ytcepfmeoeepjdaa
