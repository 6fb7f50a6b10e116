import Derived.Test.YtiljdiagabepbaaGreatDoorNlM
namespace Go.Proofs.YtiljdiagabepbaaGreatDoor
namespace Nl
open Go.RowKit
set_option linter.unusedVariables false
/-- The list of faults that the call itself made. -/
def Mine (w : World) (B : Nat) (a : Option Addr) (l : Nat) : Prop := 0 < l → ∃ (g cap : Nat) (f : Nat → Value), a = some ⟨g, 0, none⟩ ∧ B ≤ g ∧ l ≤ cap ∧ w.rowIs g 64 (cap * 3) f
theorem mine_of {w : World} {B l c : Nat} {a : Option Addr} {xs : List Value} (h : w.ownsRow B 64 3 (.slice a l c) l xs) : Mine w B a l := by
  intro h0
  obtain ⟨_, h2⟩ := h
  rcases h2 with ⟨_, hz⟩ | ⟨g, cap, cur, hv, hB, hh, hl, _, hs, _⟩
  · omega
  · simp only [Value.slice.injEq] at hv
    refine ⟨g, cap, fun i => cur.getD i (.int .i64 0), hv.1, hB, hl, cur, hh, hs, fun i hi => ?_⟩
    have hi' : i < cur.size := by omega
    simp [Array.getD, hi']
theorem mine_set {w : World} {B l : Nat} {a : Option Addr} {g cap : Nat} {f : Nat → Value} (ha : a = some ⟨g, 0, none⟩) (hB : B ≤ g) (hl : l ≤ cap) (hr : w.rowIs g 64 (cap * 3) f) (k : Nat) (x y z : Value) :
    Mine (((w.setCell ⟨g, k, none⟩ x).setCell ⟨g, k + 1, none⟩ y).setCell ⟨g, k + 2, none⟩ z) B a l :=
  fun _ => ⟨g, cap, _, ha, hB, hl, ((hr.set k x).set (k + 1) y).set (k + 2) z⟩
set_option maxHeartbeats 1600000 in
set_option maxRecDepth 8000 in
theorem bes_10 (p : Option Addr) (s t : ByteArray) (da : Option Addr) (dl dc : Nat) (at' n : Int) (ka : Option Addr) (kl kc : Nat) (pa : Option Addr) (pl pc : Nat) (w : World) (h : ND w p) (hr : FRow w pa pl) :
    Calls Tryz.prog 37 #[.pointer p, .agg (opC 10 s t da dl dc at' n ka kl kc pa pl pc)] w fun e w' => ∃ v, e = .returned (.tuple #[v, .pointer p]) ∧ AnsQ w w' 1 [] v ∧ Below w.heap.size w w' := by
  obtain ⟨v0, hv0, hb0, hs0, qo, qr, qx⟩ := three w (opC 10 s t da dl dc at' n ka kl kc pa pl pc)
  have HT : Hid (Tri w v0 (opC 10 s t da dl dc at' n ka kl kc pa pl pc)) := ⟨hb0, by omega, qo, qr, qx⟩
  have HR : Hid (FRow v0 pa pl) := hr.on hb0
  have hl := hr.1
  have o0 := (cell_of qo 0 _ rfl).1
  have o7 := (cell_of qo 7 _ rfl).1
  have hN := h.on hb0
  clear hr hb0 qo qr qx
  go_enter Tryz.func37, Tryz.ntmps37
  go_wp2_with (first
    | (go_at_call 58; refine (plan_any _ _ _ _ HR.out).mono ?_; rintro e8 w8 ⟨v, xs, rfl, hown, hw8⟩; obtain ⟨av, cv, rfl⟩ := own_slice hown; have hN8 := hN.on hw8)
    | (go_at_call 15; refine (plan_nd p _ _ _ _ hN8).mono ?_; rintro e9 w9 ⟨rfl, hw9⟩; subst w9))
  have hM8 := mine_of hown
  clear hown hv0 o0 o7 hN
  go_loopw [9] (fun i wr => ∃ j : Nat, j ≤ pl ∧ i = .int .i64 j ∧ Below v0.heap.size v0 wr ∧ Mine wr v0.heap.size av pl) (fun i _ => pl - (intOf i).toNat)
  case atStart => exact ⟨0, Nat.zero_le _, rfl, hw8, hM8⟩
  case round =>
    clear hM8 hN8 hw8
    obtain ⟨j, hj, rfl, hnx, hM⟩ := hrel
    have hT := HT.out.on (by omega) hnx
    by_cases hlt : j < pl
    · obtain ⟨g, cap, f, rfl, hg, hcp, hrw⟩ := hM (by omega)
      have d0 := hrw.cell (show j * 3 < cap * 3 by omega)
      have d1 := hrw.cell (show j * 3 + 1 < cap * 3 by omega)
      have d2 := hrw.cell (show j * 3 + 2 < cap * 3 by omega)
      have f0 := hrw.frozen (j * 3)
      have f1 := hrw.frozen (j * 3 + 1)
      have f2 := hrw.frozen (j * 3 + 2)
      have HM2 : Hid (∀ x y z, Mine (((wr.setCell ⟨g, j * 3, none⟩ x).setCell ⟨g, j * 3 + 1, none⟩ y).setCell ⟨g, j * 3 + 2, none⟩ z) v0.heap.size (some ⟨g, 0, none⟩) pl) := mine_set rfl hg hcp hrw (j * 3)
      have HB2 : Hid (∀ x y z, Below v0.heap.size v0 (((wr.setCell ⟨g, j * 3, none⟩ x).setCell ⟨g, j * 3 + 1, none⟩ y).setCell ⟨g, j * 3 + 2, none⟩ z)) := fun x y z => ((hnx.setCell (p := ⟨g, j * 3, none⟩) hg x).setCell (p := ⟨g, j * 3 + 1, none⟩) hg y).setCell (p := ⟨g, j * 3 + 2, none⟩) hg z
      generalize f (j * 3) = x0 at *
      generalize f (j * 3 + 1) = x1 at *
      generalize f (j * 3 + 2) = x2 at *
      clear hM hrw hnx hT
      go_wp2
      exact ⟨⟨j + 1, by omega, by go_num, HB2.out _ _ _, HM2.out _ _ _⟩, by simp [intOf]; omega⟩
    · obtain rfl : j = pl := by omega
      have HE : Hid (End5 w wr 1) := end5 hT 1
      have ec0 := HE.out.c0
      have ef0 := HE.out.f0
      clear hM hnx hT
      go_wp2_with (first
        | (go_at_call 7; refine (num_any _ _).mono ?_; rintro e20 w20 ⟨rfl, hw20⟩; subst w20)
        | (refine wpList_load5 rfl _ rfl (w.heap.size + 1 + 1) _ rfl rfl HE.out.q2 ?_)
        | (refine wpList_store5 45 sizeAns rfl _ _ rfl (w.heap.size + 1) _ _ rfl rfl rfl rfl (ans_one _ _ _ _) HE.out.q1 ?_))
      have hld := HE.out.ld
      refine bodyPost_ret (v := .tuple #[.agg (a5 1), .pointer p]) ?_ rfl ⟨_, rfl, ⟨_, rfl, .inl ⟨rfl, rfl⟩, fun g l c h => by cases h⟩, HE.out.bel⟩
      simp [results, Tryz.results37, asAddr, hld]
end Nl
end Go.Proofs.YtiljdiagabepbaaGreatDoor
