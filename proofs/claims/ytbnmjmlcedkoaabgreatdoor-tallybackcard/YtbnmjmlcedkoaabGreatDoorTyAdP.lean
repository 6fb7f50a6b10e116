import Derived.Test.YtbnmjmlcedkoaabGreatDoorTyPutP
import Derived.Test.YtbnmjmlcedkoaabGreatDoorTyFl
namespace Go.Proofs.YtbnmjmlcedkoaabGreatDoor
namespace Ty
open Go.RowKit
set_option linter.unusedVariables false
/-- A list of float32, by their bits, that lies in memory. -/
def FRow (w : World) (a : Option Addr) (len : Nat) (zs : List Int) : Prop :=
  (len ≤ zs.length ∧ len ≤ 9223372036854775807) ∧ (0 < len → ∃ x : Addr, a = some x ∧ x.block < w.heap.size ∧ ∀ i, i < len → w.cell? (x.add i) = some (.float .f32 (zs.getD i 0).toNat)) ∧ ∀ i, i < len → 0 ≤ zs.getD i 0 ∧ zs.getD i 0 < 4294967296
def Fin (u : Int) : Prop := u % 2147483648 < 2139095040
/-- What adding n numbers gives. -/
noncomputable def addV (A : Int) (zs : List Int) (n : Nat) : Int := open Classical in if ∀ i, i < n → Fin (zs.getD i 0) then pts A zs n else 0
noncomputable def addE (zs : List Int) (n : Nat) : Int := open Classical in if ∀ i, i < n → Fin (zs.getD i 0) then 0 else 16
theorem add_all {A : Int} {zs : List Int} {n : Nat} (h : ∀ i, i < n → Fin (zs.getD i 0)) : addV A zs n = pts A zs n ∧ addE zs n = 0 := by
  unfold addV addE; exact ⟨if_pos h, if_pos h⟩
theorem add_bad {A : Int} {zs : List Int} {n k : Nat} (hk : k < n) (h : ¬ Fin (zs.getD k 0)) : addV A zs n = 0 ∧ addE zs n = 16 := by
  have h' : ¬ ∀ i, i < n → Fin (zs.getD i 0) := fun h2 => h (h2 k hk)
  unfold addV addE; exact ⟨if_neg h', if_neg h'⟩
def AMid (w wr : World) (N : Int) : Prop := Below w.heap.size w wr ∧ wr.heap[w.heap.size]? = some (.cells (sm N) 25 (0, 0)) ∧ wr.heap[w.heap.size + 1]? = some (.cells (sm 0) 25 (0, 0))
set_option maxHeartbeats 800000 in
theorem add_any (A : Int) (a : Option Addr) (len cap : Nat) (zs : List Int) (w : World) (ht : Cl.TabAt w) (hr : FRow w a len zs) :
    Calls Tryz.prog 42 #[.agg (sm A), .slice a len cap] w fun e w' => e = .returned (.tuple #[.agg (sm (addV A zs len)), .int .i64 (addE zs len)]) ∧ Below w.heap.size w w' := by
  obtain ⟨v, hv, hvb, hvs, hv0, hv1⟩ := two_sums w 25 A
  have HM : Hid (AMid w v A) := ⟨hvb, hv0, hv1⟩
  have HR : Hid (FRow w a len zs) := hr
  clear hr hvb hv0 hv1 hvs
  generalize sm A = ca at *
  go_enter Tryz.func42, Tryz.ntmps42
  go_wp2_with (fail)
  clear hv
  go_loopw [11] (fun i wr => ∃ k : Nat, k ≤ len ∧ i = .int .i64 k ∧ AMid w wr (pts A zs k) ∧ ∀ j, j < k → Fin (zs.getD j 0)) (fun i _ => len - (intOf i).toNat)
  case atStart => exact ⟨0, by omega, rfl, HM.out, fun j hj => by omega⟩
  case round =>
    clear HM
    obtain ⟨k, hk, rfl, ⟨b1, q0, q1⟩, hfin⟩ := hrel
    have HF : Hid (∀ j, j < k → Fin (zs.getD j 0)) := hfin
    clear hfin
    have hl := HR.out.1.2
    by_cases hlt : k < len
    · have HP : Hid (pts A zs (k + 1) = pt (pts A zs k) (zs.getD k 0)) := rfl
      obtain ⟨x, rfl, hx, hcell⟩ := HR.out.2.1 (by omega)
      have hub := HR.out.2.2 k hlt
      have hcx : wr.cell? (x.add k) = some (.float .f32 (zs.getD k 0).toNat) := (b1.cell (p := x.add k) (by unfold Addr.add; split <;> exact hx)).trans (hcell k hlt)
      have HB : Hid (¬ Fin (zs.getD k 0) → addV A zs len = 0 ∧ addE zs len = 16) := fun h => add_bad hlt h
      have HFS : Hid (Fin (zs.getD k 0) → ∀ j, j < k + 1 → Fin (zs.getD j 0)) := fun h j hj => by
        by_cases e : j = k
        · rw [e]; exact h
        · exact HF.out j (by omega)
      generalize zs.getD k 0 = u at *
      generalize pts A zs k = N at *
      have hn : ((u.toNat : Nat) : Int) = u := Int.toNat_of_nonneg hub.1
      have HN : Hid (((u.toNat : Nat) : Int) = u) := hn
      have htr := tab_on ht b1
      have bs := b1.size
      have l1 : w.heap.size + 1 < wr.heap.size := (Array.getElem?_eq_some_iff.1 q1).1
      clear hcell hn
      go_wp2_with (fail)
      refine (Cl.bits_any u.toNat _).mono ?_
      rintro e9 w9 ⟨rfl, hw9⟩
      subst w9
      rw [HN.out]
      go_wp2_with (fail)
      refine (Cl.class_any u hub.1 hub.2 _).mono ?_
      rintro e9 w9 ⟨rfl, hw9⟩
      subst w9
      by_cases hf : u % 2147483648 < 2139095040
      · have hc3 : Cl.cls u < 3 := by
          unfold Cl.cls; repeat' split
          all_goals omega
        go_wp2_with (refine wpList_load6 25 _ Tryz.underlying25 sizeSum rfl _ rfl w.heap.size (sm N) rfl rfl q0 ?_)
        refine (put_any N u hub.1 hub.2 _ htr).mono ?_
        rintro e8 w8 ⟨rfl, hw8⟩
        have y0 := (hw8.block _ (by omega)).trans q0
        have y1 := (hw8.block _ (by omega)).trans q1
        have HM : Hid (AMid w (w8.setRow w.heap.size (sm (pt N u))) (pt N u)) := by
          refine ⟨below_setRow _ _ (below_chain b1 hw8 (Nat.le_refl _)) (Nat.le_refl _), setRow_heap _ w.heap.size _ _ 25 (0, 0) y0, ?_⟩
          rw [setRow_other _ _ _ _ (by omega)]; exact y1
        have hone := sm_one (pt N u)
        clear hw8 q0 q1 b1 y1 htr
        go_wp2_with (refine wpList_store6 25 sizeSum rfl _ _ rfl w.heap.size (sm (pt N u)) _ rfl rfl rfl rfl hone y0 ?_)
        exact ⟨⟨k + 1, by omega, by go_num, by rw [HP.out]; exact HM.out, HFS.out hf⟩, by simp [intOf]; omega⟩
      · have hc3 : 3 ≤ Cl.cls u := by
          unfold Cl.cls; repeat' split
          all_goals omega
        obtain ⟨g1, g2⟩ := HB.out hf
        have HG : Hid (addV A zs len = 0 ∧ addE zs len = 16) := ⟨g1, g2⟩
        clear g1 g2
        have hone := sm_one 0
        have hbel := below_setRow (w.heap.size + 1) (sm 0) b1 (by omega)
        have hld : (loadVar 25 ⟨w.heap.size + 1, 0, none⟩).run Tryz.prog (wr.setRow (w.heap.size + 1) (sm 0)) = .ok (.agg (sm 0)) (wr.setRow (w.heap.size + 1) (sm 0)) :=
          run_loadVar_row _ _ 25 25 _ (0, 0) _ (setRow_heap wr (w.heap.size + 1) _ _ 25 (0, 0) q1) Tryz.underlying25 rfl sizeSum
        go_wp2_with (refine wpList_store6 25 sizeSum rfl _ _ rfl (w.heap.size + 1) (sm 0) _ rfl (by rw [← zeros_sm]; rfl) rfl rfl hone q1 ?_)
        refine bodyPost_ret (v := .tuple #[.agg (sm 0), .int .i64 16]) ?_ rfl ⟨by rw [HG.out.1, HG.out.2], hbel⟩
        simp [results, Tryz.results42, asAddr, hld]
    · obtain rfl : k = len := by omega
      obtain ⟨g1, g2⟩ := add_all (A := A) HF.out
      have HG : Hid (addV A zs k = pts A zs k ∧ addE zs k = 0) := ⟨g1, g2⟩
      clear g1 g2
      generalize pts A zs k = N at *
      have hone := sm_one N
      have hbel := below_setRow (w.heap.size + 1) (sm N) b1 (by omega)
      have hld : (loadVar 25 ⟨w.heap.size + 1, 0, none⟩).run Tryz.prog (wr.setRow (w.heap.size + 1) (sm N)) = .ok (.agg (sm N)) (wr.setRow (w.heap.size + 1) (sm N)) :=
        run_loadVar_row _ _ 25 25 _ (0, 0) _ (setRow_heap wr (w.heap.size + 1) _ _ 25 (0, 0) q1) Tryz.underlying25 rfl sizeSum
      have hkl : ¬ (k : Int) < (k : Int) := by omega
      go_wp2_with (first
        | (refine wpList_load6 25 _ Tryz.underlying25 sizeSum rfl _ rfl w.heap.size (sm N) rfl rfl q0 ?_)
        | (refine wpList_store6 25 sizeSum rfl _ _ rfl (w.heap.size + 1) (sm N) _ rfl rfl rfl rfl hone q1 ?_))
      refine bodyPost_ret (v := .tuple #[.agg (sm N), .int .i64 0]) ?_ rfl ⟨by rw [HG.out.1, HG.out.2], hbel⟩
      simp [results, Tryz.results42, asAddr, hld]
end Ty
end Go.Proofs.YtbnmjmlcedkoaabGreatDoor
