import Derived.Test.YtbnmjmlcedkoaabGreatDoorTyAdP
namespace Go.Proofs.YtbnmjmlcedkoaabGreatDoor
namespace Ty
open Go.RowKit
set_option linter.unusedVariables false
set_option maxHeartbeats 800000 in
theorem of_any (a : Option Addr) (len cap : Nat) (zs : List Int) (w : World) (ht : Cl.TabAt w) (hr : FRow w a len zs) :
    Calls Tryz.prog 17 #[.slice a len cap] w fun e w' => e = .returned (.tuple #[.agg (sm (addV 0 zs len)), .int .i64 (addE zs len)]) ∧ Below w.heap.size w w' := by
  obtain ⟨v, hv, hvb, hvs, hv0⟩ : ∃ v, w.alloc (.cells #[.int .u64 0, .int .u64 0, .int .u64 0, .int .u64 0, .int .u64 0, .int .u64 0] 25) = v ∧ Below w.heap.size w v ∧ v.heap.size = w.heap.size + 1 ∧ v.heap[w.heap.size]? = some (.cells (sm 0) 25 (0, 0)) := by
    refine ⟨_, rfl, (Below.refl _ _).alloc (Nat.le_refl _) _, by simp, ?_⟩
    rw [zeros_sm]; exact heap_alloc_last w _
  have HR : Hid (FRow v a len zs) := by
    obtain ⟨h1, h2, h3⟩ := hr
    refine ⟨h1, fun h0 => ?_, h3⟩
    obtain ⟨x, rfl, hx, hc⟩ := h2 h0
    exact ⟨x, rfl, by omega, fun i hi => (hvb.cell (p := x.add i) (by unfold Addr.add; split <;> exact hx)).trans (hc i hi)⟩
  have HT : Hid (Cl.TabAt v) := tab_on ht hvb
  clear hr ht
  go_enter Tryz.func17, Tryz.ntmps17
  go_wp2_with (fail)
  clear hv
  rw [zeros_sm]
  refine (add_any 0 a len cap zs _ HT.out HR.out).mono ?_
  rintro e1 w1 ⟨rfl, hw1⟩
  have b1 := below_chain hvb hw1 (Nat.le_refl _)
  have q0 := (hw1.block _ (by omega)).trans hv0
  have hone := sm_one (addV 0 zs len)
  have hbel := below_setRow w.heap.size (sm (addV 0 zs len)) b1 (Nat.le_refl _)
  have hld : (loadVar 25 ⟨w.heap.size, 0, none⟩).run Tryz.prog (w1.setRow w.heap.size (sm (addV 0 zs len))) = .ok (.agg (sm (addV 0 zs len))) (w1.setRow w.heap.size (sm (addV 0 zs len))) :=
    run_loadVar_row _ _ 25 25 _ (0, 0) _ (setRow_heap w1 w.heap.size _ _ 25 (0, 0) q0) Tryz.underlying25 rfl sizeSum
  clear hv0 hw1 b1 hvb HR HT
  go_wp2_with (refine wpList_store6 25 sizeSum rfl _ _ rfl w.heap.size (sm (addV 0 zs len)) _ rfl rfl rfl rfl hone q0 ?_)
  refine bodyPost_ret (v := .tuple #[.agg (sm (addV 0 zs len)), .int .i64 (addE zs len)]) ?_ rfl ⟨rfl, hbel⟩
  simp [results, Tryz.results17, asAddr, hld]
end Ty
end Go.Proofs.YtbnmjmlcedkoaabGreatDoor
