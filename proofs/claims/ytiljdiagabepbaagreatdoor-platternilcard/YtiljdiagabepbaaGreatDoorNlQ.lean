import Derived.Test.YtiljdiagabepbaaGreatDoorNlP
import Derived.Test.YtiljdiagabepbaaGreatDoorNlO
namespace Go.Proofs.YtiljdiagabepbaaGreatDoor
namespace Nl
open Go.RowKit
set_option linter.unusedVariables false
/-- The fields of a call that lies in memory. -/
structure OpF where
  k : Int
  s : ByteArray
  t : ByteArray
  da : Option Addr
  dl : Nat
  dc : Nat
  at' : Int
  n : Int
  ka : Option Addr
  kl : Nat
  kc : Nat
  pa : Option Addr
  pl : Nat
  pc : Nat
/-- A list of calls that came in. -/
def ORow (w : World) (a : Option Addr) (l : Nat) (F : Nat → OpF) : Prop := l ≤ 9223372036854775807 ∧ (0 < l → ∃ x : Addr, a = some x ∧ x.block < w.heap.size ∧ ∀ i, i < l →
  (w.cell? (x.add (i * 8)) = some (.int .i64 (F i).k) ∧ w.cell? (x.add (i * 8 + 1)) = some (.string (F i).s) ∧ w.cell? (x.add (i * 8 + 2)) = some (.string (F i).t) ∧ w.cell? (x.add (i * 8 + 3)) = some (.slice (F i).da (F i).dl (F i).dc) ∧ w.cell? (x.add (i * 8 + 4)) = some (.int .i64 (F i).at') ∧ w.cell? (x.add (i * 8 + 5)) = some (.int .i64 (F i).n) ∧ w.cell? (x.add (i * 8 + 6)) = some (.slice (F i).ka (F i).kl (F i).kc) ∧ w.cell? (x.add (i * 8 + 7)) = some (.slice (F i).pa (F i).pl (F i).pc)) ∧ KRow w (F i).ka (F i).kl ∧ FRow w (F i).pa (F i).pl)
theorem wp_cut {P : Program} {c : Code} {Q : Exit → Act → World → Prop} {a : Act} {w : World} (T : World → Prop) (A1 : Act)
    (h : c.wp P (fun e a' w' => match e with | .normal => a' = A1 ∧ T w' | _ => False) a w) (hq : ∀ w', T w' → Q .normal A1 w') : c.wp P Q a w := by
  refine Code.wp_mono ?_ h
  intro e a' w' hh
  cases e with
  | normal => obtain ⟨rfl, ht⟩ := hh; exact hq w' ht
  | _ => exact hh.elim
theorem fresh5 {W : World} (e : Int) (a : Option Addr) (l c : Nat) : ∃ V, (W.alloc (.cells z5 45)).setRow W.heap.size #[.int .i64 e, .slice a l c, .slice none 0 0, .slice none 0 0, .slice none 0 0] = V ∧ Below W.heap.size W V ∧ V.heap.size = W.heap.size + 1 ∧ V.heap[W.heap.size]? = some (.cells #[.int .i64 e, .slice a l c, .slice none 0 0, .slice none 0 0, .slice none 0 0] 45 (0, 0)) ∧ (W.alloc (.cells z5 45)).heap[W.heap.size]? = some (.cells z5 45 (0, 0)) := by
  have h := heap_alloc_last W (.cells z5 45)
  refine ⟨_, rfl, (b1 W _).trans ⟨rfl, rfl, rfl, by simp, fun k hk => setRow_other _ _ k _ (by omega)⟩, by simp, setRow_heap _ W.heap.size _ _ 45 (0, 0) h, h⟩
set_option maxHeartbeats 3200000 in
set_option maxRecDepth 8000 in
theorem nil_walk (a : Option Addr) (l c : Nat) (F : Nat → OpF) (w : World) (hr : ORow w a l F) :
    Calls Tryz.prog 3 #[.slice a l c] w fun e w' => e = .returned (.bool true) ∧ Below w.heap.size w w' := by
  have HR : Hid (ORow w a l F) := hr
  have hl := hr.1
  clear hr
  go_enter Tryz.func3, Tryz.ntmps3
  go_wp2_with (first
    | (go_at_call 6; refine (new_any _).mono ?_; rintro e1 w1 ⟨⟨g, rfl⟩, hw1⟩)
    | (go_at_call 7; refine (num_any _ _).mono ?_; rintro e20 w20 ⟨rfl, hw20⟩; subst w20))
  obtain ⟨V, hV, hbV, hsV, hzV⟩ : ∃ V, w1.alloc (.cells #[.pointer none, .int .i64 0, .int .i64 0, .bool false, .bool false, .map none, .int .i64 0, .map none, .map none, .slice none 0 0, .int .i64 0] 33) = V ∧ Below w.heap.size w V ∧ V.heap.size = w1.heap.size + 1 ∧ V.cell? ⟨w1.heap.size, 0, none⟩ = some (.pointer none) :=
    ⟨_, rfl, hw1.trans ((b1 w1 _).mono hw1.size), by simp, cell_new _ _ _ _ _ _ rfl rfl⟩
  have HZ : Hid (ND V (some ⟨w1.heap.size, 0, none⟩)) := .inr ⟨_, rfl, hzV⟩
  have HB : Hid (Below w.heap.size w V) := hbV
  rw [hV]
  clear hbV hzV hw1
  go_loopw [7] (fun i wr => ∃ j : Nat, j ≤ l ∧ i = .int .i64 j ∧ Below V.heap.size V wr) (fun i _ => l - (intOf i).toNat)
  case atStart => exact ⟨0, Nat.zero_le _, rfl, Below.refl _ _⟩
  case round =>
    obtain ⟨j, hj, rfl, hnx⟩ := hrel
    have hB : Below w.heap.size w wr := HB.out.trans (hnx.mono HB.out.size)
    have hZ : ND wr (some ⟨w1.heap.size, 0, none⟩) := HZ.out.on hnx
    have hN : ND wr none := .inl rfl
    by_cases hlt : j < l
    · obtain ⟨x, rfl, hx, hc⟩ := HR.out.2 (by omega)
      obtain ⟨⟨c0, c1, c2, c3, c4, c5, c6, c7⟩, hK, hF⟩ := hc j hlt
      have hK' := hK.on hB
      have hF' := hF.on hB
      have HC : Hid (∀ v, Below w.heap.size w v → v.cell? (x.add (j * 8)) = some (.int .i64 (F j).k) ∧ v.cell? ⟨(x.add (j * 8)).block, (x.add (j * 8)).off + 1, none⟩ = some (.string (F j).s) ∧ v.cell? ⟨(x.add (j * 8)).block, (x.add (j * 8)).off + 2, none⟩ = some (.string (F j).t) ∧ v.cell? ⟨(x.add (j * 8)).block, (x.add (j * 8)).off + 3, none⟩ = some (.slice (F j).da (F j).dl (F j).dc) ∧ v.cell? ⟨(x.add (j * 8)).block, (x.add (j * 8)).off + 4, none⟩ = some (.int .i64 (F j).at') ∧ v.cell? ⟨(x.add (j * 8)).block, (x.add (j * 8)).off + 5, none⟩ = some (.int .i64 (F j).n) ∧ v.cell? ⟨(x.add (j * 8)).block, (x.add (j * 8)).off + 6, none⟩ = some (.slice (F j).ka (F j).kl (F j).kc) ∧ v.cell? ⟨(x.add (j * 8)).block, (x.add (j * 8)).off + 7, none⟩ = some (.slice (F j).pa (F j).pl (F j).pc)) := by
        intro v hb
        rw [← Addr.add_add] at c1 c2 c3 c4 c5 c6 c7
        have lt : (x.add (j * 8)).block < w.heap.size := by rw [add_block]; exact hx
        exact ⟨(hb.cell (p := x.add (j * 8)) lt).trans c0, (hb.cell (p := ⟨(x.add (j * 8)).block, (x.add (j * 8)).off + 1, none⟩) lt).trans c1, (hb.cell (p := ⟨(x.add (j * 8)).block, (x.add (j * 8)).off + 2, none⟩) lt).trans c2, (hb.cell (p := ⟨(x.add (j * 8)).block, (x.add (j * 8)).off + 3, none⟩) lt).trans c3, (hb.cell (p := ⟨(x.add (j * 8)).block, (x.add (j * 8)).off + 4, none⟩) lt).trans c4, (hb.cell (p := ⟨(x.add (j * 8)).block, (x.add (j * 8)).off + 5, none⟩) lt).trans c5, (hb.cell (p := ⟨(x.add (j * 8)).block, (x.add (j * 8)).off + 6, none⟩) lt).trans c6, (hb.cell (p := ⟨(x.add (j * 8)).block, (x.add (j * 8)).off + 7, none⟩) lt).trans c7⟩
      clear hc c0 c1 c2 c3 c4 c5 c6 c7 hK hF
      generalize F j = fj at *
      obtain ⟨k, s, t, da, dl, dc, at', n, ka, kl, kc, pa, pl, pc⟩ := fj
      dsimp only at *
      obtain ⟨c0, c1, c2, c3, c4, c5, c6, c7⟩ := HC.out wr hB
      by_cases h23 : k = 3 ∨ k = 2
      · rcases h23 with rfl | rfl
        all_goals
          go_wp2_with (fail)
          apply wp_cut (fun w' => Below wr.heap.size wr w')
          case h =>
            go_region_with (go_at_call 8; refine (read_nd none s at' none 0 0 _ (.inl rfl)).mono ?_; rintro e1 w2 ⟨rfl, hw2⟩; subst w2)
            all_goals exact ⟨rfl, (Below.refl wr.heap.size wr).drew.trans (b5 wr.drew _ _ _ _ _)⟩
          case hq =>
            intro w2 hb2
            have hB2 : Below w.heap.size w w2 := hB.trans (hb2.mono hB.size)
            have hnx2 : Below V.heap.size V w2 := hnx.trans (hb2.mono hnx.size)
            have HZ2 : Hid (ND w2.drew (some ⟨w1.heap.size, 0, none⟩)) := (HZ.out.on hnx2).on ((Below.refl _ _).drew)
            clear c0 c1 c2 c3 c4 c5 c6 c7 hZ hN hb2
            obtain ⟨c0, c1, c2, c3, c4, c5, c6, c7⟩ := HC.out w2 hB2
            go_wp2_with (fail)
            apply wp_cut (fun w' => Below w2.heap.size w2 w')
            case h =>
              go_region_with (go_at_call 8; refine (read_nd _ s at' none 0 0 _ HZ2.out).mono ?_; rintro e1 w4 ⟨rfl, hw4⟩; subst w4)
              all_goals exact ⟨rfl, (Below.refl w2.heap.size w2).drew.trans (b5 w2.drew _ _ _ _ _)⟩
            case hq =>
              intro w3 hb3
              have hnx3 : Below V.heap.size V w3 := hnx2.trans (hb3.mono hnx2.size)
              have HZ3 : Hid (ND w3 (some ⟨w1.heap.size, 0, none⟩)) := HZ.out.on hnx3
              clear c0 c1 c2 c3 c4 c5 c6 c7 hb3
              go_wp2_with (first
                | (go_at_call_of 9 w1; refine (append_nd _ _ none 0 0 _ (HZ3.out.on (b3 w3 _ _ _))).mono ?_; rintro e1 w4 ⟨rfl, hw4⟩; subst w4)
                | (go_at_call 9; refine (append_nd none _ none 0 0 _ (.inl rfl)).mono ?_; rintro e1 w5 ⟨rfl, hw5⟩; subst w5)
                | (go_at_call 7; refine (num_any _ _).mono ?_; rintro e20 w20 ⟨rfl, hw20⟩; subst w20))
              exact ⟨⟨j + 1, by omega, by go_num, hnx3.trans ((b6 w3 _ _ _ _ _ _).mono hnx3.size)⟩, by simp [intOf]; omega⟩
      · have h3 : k ≠ 3 := fun h => h23 (.inl h)
        have h2 : k ≠ 2 := fun h => h23 (.inr h)
        obtain ⟨e, ns, hns, hDo, hDoc⟩ := both k s t da dl dc at' n ka kl kc pa pl pc h2 h3
        have HD : Hid (DoIs k s t da dl dc at' n ka kl kc pa pl pc e ns) := hDo
        have HE : Hid (DocIs k s t da dl dc at' n ka kl kc pa pl pc e ns) := hDoc
        have b3' : (k == 3) = false := by simpa using h3
        have b2' : (k == 2) = false := by simpa using h2
        clear h23 hDo hDoc h2 h3
        go_wp2_with (fail)
        refine (HD.out none wr hN hK' hF').mono ?_
        rintro e1 w2 ⟨v1, rfl, ⟨sl1, rfl, hs1, hn1⟩, hb2⟩
        obtain ⟨a1, l1, k1, rfl⟩ := ans_slice hs1
        obtain ⟨w3, hv3, hb3, hz3, q3, g3⟩ := fresh5 (W := w2) e a1 l1 k1
        have hB3 : Below w.heap.size w w3 := (hB.trans (hb2.mono hB.size)).trans (hb3.mono (Nat.le_trans hB.size hb2.size))
        have hnx3 : Below V.heap.size V w3 := (hnx.trans (hb2.mono hnx.size)).trans (hb3.mono (Nat.le_trans hnx.size hb2.size))
        clear c0 c1 c2 c3 c4 c5 c6 c7
        obtain ⟨c0, c1, c2, c3, c4, c5, c6, c7⟩ := HC.out w3 hB3
        go_wp2_with (refine wpList_store5 45 sizeAns rfl _ _ rfl w2.heap.size _ _ rfl rfl rfl rfl (ans_one _ _ _ _) g3 ?_; rw [hv3])
        have hb23 : Below wr.heap.size wr w3 := hb2.trans (hb3.mono hb2.size)
        refine (HD.out _ w3 (HZ.out.on hnx3) (hK'.on hb23) (hF'.on hb23)).mono ?_
        rintro e1 w4 ⟨v2, rfl, ⟨sl2, rfl, hs2, hn2⟩, hb4⟩
        obtain ⟨a2, l2, k2, rfl⟩ := ans_slice hs2
        obtain ⟨w5, hv5, hb5, hz5, q5, g5⟩ := fresh5 (W := w4) e a2 l2 k2
        have hB5 : Below w.heap.size w w5 := (hB3.trans (hb4.mono hB3.size)).trans (hb5.mono (Nat.le_trans hB3.size hb4.size))
        have hnx5 : Below V.heap.size V w5 := (hnx3.trans (hb4.mono hnx3.size)).trans (hb5.mono (Nat.le_trans hnx3.size hb4.size))
        have hb35 : Below w3.heap.size w3 w5 := hb4.trans (hb5.mono hb4.size)
        clear c0 c1 c2 c3 c4 c5 c6 c7
        obtain ⟨c0, c1, c2, c3, c4, c5, c6, c7⟩ := HC.out w5 hB5
        go_wp2_with (refine wpList_store5 45 sizeAns rfl _ _ rfl w4.heap.size _ _ rfl rfl rfl rfl (ans_one _ _ _ _) g5 ?_; rw [hv5])
        refine (HE.out w5).mono ?_
        rintro e1 w6 ⟨v3, rfl, ⟨sl3, rfl, hs3, hn3⟩, hb6⟩
        obtain ⟨a3, l3, k3, rfl⟩ := ans_slice hs3
        obtain ⟨w7, hv7, hb7, hz7, q7, g7⟩ := fresh5 (W := w6) e a3 l3 k3
        have hnx7 : Below V.heap.size V w7 := (hnx5.trans (hb6.mono hnx5.size)).trans (hb7.mono (Nat.le_trans hnx5.size hb6.size))
        have hb57 : Below w5.heap.size w5 w7 := hb6.trans (hb7.mono hb6.size)
        clear c0 c1 c2 c3 c4 c5 c6 c7
        have s3 := hb3.size
        have s5 := hb5.size
        have s35 := hb35.size
        have s57 := hb57.size
        have X3 : AnsQ wr w7 e ns (.agg #[.int .i64 e, .slice a1 l1 k1, .slice none 0 0, .slice none 0 0, .slice none 0 0]) := ⟨_, rfl, ((hs1.on hb3).on hb35).on hb57, hn1⟩
        have X5 : AnsQ w3 w7 e ns (.agg #[.int .i64 e, .slice a2 l2 k2, .slice none 0 0, .slice none 0 0, .slice none 0 0]) := ⟨_, rfl, (hs2.on hb5).on hb57, hn2⟩
        have X7 : AnsQ w5 w7 e ns (.agg #[.int .i64 e, .slice a3 l3 k3, .slice none 0 0, .slice none 0 0, .slice none 0 0]) := ⟨_, rfl, hs3.on hb7, hn3⟩
        have p3 := (hb57.block _ (by omega)).trans ((hb35.block _ (by omega)).trans q3)
        have p5 := (hb57.block _ (by omega)).trans q5
        have HX : Hid (AnsQ wr w7 e ns (.agg #[.int .i64 e, .slice a1 l1 k1, .slice none 0 0, .slice none 0 0, .slice none 0 0]) ∧ AnsQ w3 w7 e ns (.agg #[.int .i64 e, .slice a2 l2 k2, .slice none 0 0, .slice none 0 0, .slice none 0 0]) ∧ AnsQ w5 w7 e ns (.agg #[.int .i64 e, .slice a3 l3 k3, .slice none 0 0, .slice none 0 0, .slice none 0 0])) := ⟨X3, X5, X7⟩
        clear X3 X5 X7 hs1 hs2 hs3 hn1 hn2 hn3 q3 q5 hb2 hb3 hb4 hb5 hb6 hb23 hnx3 hnx5 hB3 hB5 hv3 hv5
        go_wp2_with (first
          | (refine wpList_store5 45 sizeAns rfl _ _ rfl w6.heap.size _ _ rfl rfl rfl rfl (ans_one _ _ _ _) g7 ?_; rw [hv7])
          | (refine wpList_load5 rfl _ rfl w2.heap.size _ rfl rfl p3 ?_)
          | (refine wpList_load5 rfl _ rfl w4.heap.size _ rfl rfl p5 ?_)
          | (refine wpList_load5 rfl _ rfl w6.heap.size _ rfl rfl q7 ?_))
        refine (same_ans e ns _ _ w7 wr w5 HX.out.1 HX.out.2.2 (by omega)).mono ?_
        rintro e1 w8 ⟨rfl, hb8⟩
        have p5' := (hb8.block _ (by omega)).trans p5
        have p7' := (hb8.block _ (by omega)).trans q7
        have Y5 := HX.out.2.1.on hb8
        have Y7 := HX.out.2.2.on hb8
        have hnx8 : Below V.heap.size V w8 := hnx7.trans (hb8.mono hnx7.size)
        have HY : Hid (AnsQ w3 w8 e ns (.agg #[.int .i64 e, .slice a2 l2 k2, .slice none 0 0, .slice none 0 0, .slice none 0 0]) ∧ AnsQ w5 w8 e ns (.agg #[.int .i64 e, .slice a3 l3 k3, .slice none 0 0, .slice none 0 0, .slice none 0 0])) := ⟨Y5, Y7⟩
        clear Y5 Y7 HX p3 p5 q7 hb8 hnx7
        go_wp2_with (first
          | (refine wpList_load5 rfl _ rfl w4.heap.size _ rfl rfl p5' ?_)
          | (refine wpList_load5 rfl _ rfl w6.heap.size _ rfl rfl p7' ?_))
        refine (same_ans e ns _ _ w8 w3 w5 HY.out.1 HY.out.2 (by omega)).mono ?_
        rintro e1 w9 ⟨rfl, hb9⟩
        have hnx9 : Below V.heap.size V w9 := hnx8.trans (hb9.mono hnx8.size)
        clear HY p5' p7' hb9 hnx8
        go_wp2
        exact ⟨⟨j + 1, by omega, by go_num, hnx9⟩, by simp [intOf]; omega⟩
    · obtain rfl : j = l := by omega
      go_wp2
      go_ret
      exact ⟨rfl, hB⟩
end Nl
end Go.Proofs.YtiljdiagabepbaaGreatDoor
