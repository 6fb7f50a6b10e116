import Derived.Test.YtbnmjmlcedkoaaaDoorTyMe
namespace Go.Proofs.YtbnmjmlcedkoaaaDoor
namespace Ty
open Go.RowKit
set_option linter.unusedVariables false
/-- How many words a monoid takes. -/
def wds (n : Nat) : Int := if n = 9 then 6 else 1
theorem tabW (n : Nat) (h : n < 10) : tabM[n * 2]? = some (.int .i64 (wds n)) := by
  match n, h with
  | 0, _ => rfl
  | 1, _ => rfl
  | 2, _ => rfl
  | 3, _ => rfl
  | 4, _ => rfl
  | 5, _ => rfl
  | 6, _ => rfl
  | 7, _ => rfl
  | 8, _ => rfl
  | 9, _ => rfl
set_option maxHeartbeats 1600000 in
theorem pmon_out (f : Nat → Int) (m k y : Int) (hk : m < 0 ∨ 10 ≤ m ∨ k < 0 ∨ ∃ n : Nat, n < 10 ∧ m = n ∧ 8 - wds n < k) (m0 : -9223372036854775808 ≤ m) (m1 : m ≤ 9223372036854775807) (k0 : -9223372036854775808 ≤ k) (k1 : k ≤ 9223372036854775807) (w : World) :
    Calls Tryd.prog 8 #[.int .i64 m, .agg (st f), .int .i64 k, .int .u64 y] w fun e w' => e = .returned (.agg (st f)) ∧ Below w.heap.size w w' := by
  obtain ⟨v, v2, hv, hal, hv2, hs, hb2, hs2, q0, q1, q2⟩ := mon_tab w f
  have hone := st_one f
  have hsz : (st f).size = 8 := rfl
  have hbel := below_setRow (w.heap.size + 1) (st f) hb2 (by omega)
  have hld : (loadVar 33 ⟨w.heap.size + 1, 0, none⟩).run Tryd.prog (v2.setRow (w.heap.size + 1) (st f)) = .ok (.agg (st f)) (v2.setRow (w.heap.size + 1) (st f)) :=
    run_loadVar_row _ _ 33 33 _ (0, 0) _ (setRow_heap v2 (w.heap.size + 1) _ _ 33 (0, 0) q1) Tryd.underlying33 rfl sizeState
  have HT : Hid (∀ n, n < 10 → v2.cell? ⟨w.heap.size + 1 + 1, n * 2, none⟩ = some (.int .i64 (wds n))) := fun n hn => tab_cell q2 _ _ (tabW n hn)
  clear q2
  generalize hsa : st f = ca at *
  by_cases c1 : m < 0
  · clear hk
    go_enter Tryd.func8, Tryd.ntmps8
    go_wp2_with (first
      | (refine wpList_store20 67 sizeTab rfl _ _ rfl (w.heap.size + 1 + 1) _ _ rfl rfl rfl rfl tab_all hal ?_; rw [hv2])
      | (refine wpList_load8 33 _ Tryd.underlying33 sizeState rfl _ rfl w.heap.size _ rfl hsz q0 ?_)
      | (refine wpList_store8 33 sizeState rfl _ _ rfl (w.heap.size + 1) _ _ rfl rfl hsz rfl hone q1 ?_))
    refine bodyPost_ret (v := .agg ca) ?_ rfl ⟨rfl, hbel⟩
    simp [results, Tryd.results8, asAddr, Act.put, hld]
  by_cases c2 : 10 ≤ m
  · clear hk
    go_enter Tryd.func8, Tryd.ntmps8
    go_wp2_with (first
      | (refine wpList_store20 67 sizeTab rfl _ _ rfl (w.heap.size + 1 + 1) _ _ rfl rfl rfl rfl tab_all hal ?_; rw [hv2])
      | (refine wpList_load8 33 _ Tryd.underlying33 sizeState rfl _ rfl w.heap.size _ rfl hsz q0 ?_)
      | (refine wpList_store8 33 sizeState rfl _ _ rfl (w.heap.size + 1) _ _ rfl rfl hsz rfl hone q1 ?_))
    refine bodyPost_ret (v := .agg ca) ?_ rfl ⟨rfl, hbel⟩
    simp [results, Tryd.results8, asAddr, hld]
  by_cases c3 : k < 0
  · clear hk
    go_enter Tryd.func8, Tryd.ntmps8
    go_wp2_with (first
      | (refine wpList_store20 67 sizeTab rfl _ _ rfl (w.heap.size + 1 + 1) _ _ rfl rfl rfl rfl tab_all hal ?_; rw [hv2])
      | (refine wpList_load8 33 _ Tryd.underlying33 sizeState rfl _ rfl w.heap.size _ rfl hsz q0 ?_)
      | (refine wpList_store8 33 sizeState rfl _ _ rfl (w.heap.size + 1) _ _ rfl rfl hsz rfl hone q1 ?_))
    refine bodyPost_ret (v := .agg ca) ?_ rfl ⟨rfl, hbel⟩
    simp [results, Tryd.results8, asAddr, hld]
  obtain ⟨n, hn, rfl, hlt⟩ : ∃ n : Nat, n < 10 ∧ m = n ∧ 8 - wds n < k := by
    rcases hk with h | h | h | h
    · exact absurd h c1
    · exact absurd h c2
    · exact absurd h c3
    · exact h
  have t0 := HT.out n hn
  have hw : wds n = 1 ∨ wds n = 6 := by unfold wds; split <;> simp
  generalize wds n = u at *
  clear HT hk
  rcases hw with rfl | rfl
  all_goals
    go_enter Tryd.func8, Tryd.ntmps8
    go_wp2_with (first
      | (refine wpList_store20 67 sizeTab rfl _ _ rfl (w.heap.size + 1 + 1) _ _ rfl rfl rfl rfl tab_all hal ?_; rw [hv2])
      | (refine wpList_load8 33 _ Tryd.underlying33 sizeState rfl _ rfl w.heap.size _ rfl hsz q0 ?_)
      | (refine wpList_store8 33 sizeState rfl _ _ rfl (w.heap.size + 1) _ _ rfl rfl hsz rfl hone q1 ?_))
    refine bodyPost_ret (v := .agg ca) ?_ rfl ⟨rfl, hbel⟩
    simp [results, Tryd.results8, asAddr, hld]
end Ty
end Go.Proofs.YtbnmjmlcedkoaaaDoor
