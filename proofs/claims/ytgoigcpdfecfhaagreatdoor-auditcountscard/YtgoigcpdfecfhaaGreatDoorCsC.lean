import Derived.Test.YtgoigcpdfecfhaaGreatDoorCsB
import Derived.Test.YtgoigcpdfecfhaaGreatDoorCrC
namespace Go.Proofs.YtgoigcpdfecfhaaGreatDoor
namespace Au
open Go.RowKit
set_option linter.unusedVariables false
set_option maxRecDepth 8000
abbrev S16d (g x : Nat) (p : Addr) (px : Int) (w : World) : Prop := w.cell? p = some (.int .u32 x) ∧ w.cell? ⟨g, x, none⟩ = some (.int .u64 px)
abbrev S17d (h g y : Nat) (q p : Int) (w : World) : Prop := w.cell? ⟨h, y, none⟩ = some (.int .u64 q) ∧ w.cell? ⟨g, y, none⟩ = some (.int .u64 p)
theorem Hs.gr {w : World} {n u : Nat} {P : Nat → Int} {W : World} (h : Hs w n u P W) : u < W.heap.size := h.g.lt
theorem c6 {w : World} {b : Nat} {t : TypeId} {c0 c1 c2 c3 c4 c5 : Value} (h : w.heap[b]? = some (.cells #[c0, c1, c2, c3, c4, c5] t (0, 0))) : w.cell? ⟨b, 0, none⟩ = some c0 ∧ w.cell? ⟨b, 1, none⟩ = some c1 ∧ w.cell? ⟨b, 2, none⟩ = some c2 ∧ w.cell? ⟨b, 3, none⟩ = some c3 ∧ w.cell? ⟨b, 4, none⟩ = some c4 ∧ w.cell? ⟨b, 5, none⟩ = some c5 :=
  ⟨(cell_of_row _ _ _ _ _ _ h).trans rfl, (cell_of_row _ _ _ _ _ _ h).trans rfl, (cell_of_row _ _ _ _ _ _ h).trans rfl, (cell_of_row _ _ _ _ _ _ h).trans rfl, (cell_of_row _ _ _ _ _ _ h).trans rfl, (cell_of_row _ _ _ _ _ _ h).trans rfl⟩
theorem f6 {w : World} {b : Nat} {t : TypeId} {C : Array Value} (h : w.heap[b]? = some (.cells C t (0, 0))) : w.frozen? ⟨b, 0, none⟩ = false ∧ w.frozen? ⟨b, 1, none⟩ = false ∧ w.frozen? ⟨b, 2, none⟩ = false ∧ w.frozen? ⟨b, 3, none⟩ = false ∧ w.frozen? ⟨b, 4, none⟩ = false ∧ w.frozen? ⟨b, 5, none⟩ = false :=
  ⟨frozen_of_row _ _ _ _ _ h, frozen_of_row _ _ _ _ _ h, frozen_of_row _ _ _ _ _ h, frozen_of_row _ _ _ _ _ h, frozen_of_row _ _ _ _ _ h, frozen_of_row _ _ _ _ _ h⟩
theorem sets6_row {w : World} {g : Nat} {t : TypeId} {o0 o1 o2 o3 o4 o5 v0 v1 v2 v3 v4 v5 : Value} (hg : w.heap[g]? = some (.cells #[o0, o1, o2, o3, o4, o5] t (0, 0))) :
    ((((((w.setCell ⟨g, 0, none⟩ v0).setCell ⟨g, 1, none⟩ v1).setCell ⟨g, 2, none⟩ v2).setCell ⟨g, 3, none⟩ v3).setCell ⟨g, 4, none⟩ v4).setCell ⟨g, 5, none⟩ v5) = w.setRow g #[v0, v1, v2, v3, v4, v5] := by
  have step : ∀ (c : Array Value) (j : Nat) (v : Value), (w.setRow g c).setCell ⟨g, j, none⟩ v = w.setRow g (c.setIfInBounds j v) := fun c j v => by
    rw [setCell_eq_setRow _ g j c t (0, 0) v (setRow_heap w g _ c t (0, 0) hg), setRow_setRow]
  have e0 : (#[o0, o1, o2, o3, o4, o5] : Array Value).setIfInBounds 0 v0 = #[v0, o1, o2, o3, o4, o5] := rfl
  have e1 : (#[v0, o1, o2, o3, o4, o5] : Array Value).setIfInBounds 1 v1 = #[v0, v1, o2, o3, o4, o5] := rfl
  have e2 : (#[v0, v1, o2, o3, o4, o5] : Array Value).setIfInBounds 2 v2 = #[v0, v1, v2, o3, o4, o5] := rfl
  have e3 : (#[v0, v1, v2, o3, o4, o5] : Array Value).setIfInBounds 3 v3 = #[v0, v1, v2, v3, o4, o5] := rfl
  have e4 : (#[v0, v1, v2, v3, o4, o5] : Array Value).setIfInBounds 4 v4 = #[v0, v1, v2, v3, v4, o5] := rfl
  have e5 : (#[v0, v1, v2, v3, v4, o5] : Array Value).setIfInBounds 5 v5 = #[v0, v1, v2, v3, v4, v5] := rfl
  rw [setCell_eq_setRow w g 0 #[o0, o1, o2, o3, o4, o5] t (0, 0) v0 hg, e0, step, e1, step, e2, step, e3, step, e4, step, e5]
theorem sets6_other {w : World} {u v : Nat} (h : v ≠ u) (v0 v1 v2 v3 v4 v5 : Value) : ((((((w.setCell ⟨u, 0, none⟩ v0).setCell ⟨u, 1, none⟩ v1).setCell ⟨u, 2, none⟩ v2).setCell ⟨u, 3, none⟩ v3).setCell ⟨u, 4, none⟩ v4).setCell ⟨u, 5, none⟩ v5).heap[v]? = w.heap[v]? :=
  (Below.heap_setCell _ _ _ _ h).trans ((Below.heap_setCell _ _ _ _ h).trans ((Below.heap_setCell _ _ _ _ h).trans ((Below.heap_setCell _ _ _ _ h).trans ((Below.heap_setCell _ _ _ _ h).trans (Below.heap_setCell _ _ _ _ h)))))
theorem st_get (f : Nat → Int) (i : Nat) (hi : i < 8) : (Ty.st f)[i]? = some (.int .u64 (f i)) := by
  match i, hi with
  | 0, _ => rfl
  | 1, _ => rfl
  | 2, _ => rfl
  | 3, _ => rfl
  | 4, _ => rfl
  | 5, _ => rfl
  | 6, _ => rfl
  | 7, _ => rfl
theorem st_set (f : Nat → Int) (i : Nat) (hi : i < 8) (x : Int) : (Ty.st f).setIfInBounds i (.int .u64 x) = Ty.st (Ty.up1 f i x) := by
  match i, hi with
  | 0, _ => rfl
  | 1, _ => rfl
  | 2, _ => rfl
  | 3, _ => rfl
  | 4, _ => rfl
  | 5, _ => rfl
  | 6, _ => rfl
  | 7, _ => rfl
theorem sm_get (A : Int) (i : Nat) (hi : i < 6) : (Ty.sm A)[i]? = some (.int .u64 (Ty.wd A i)) := by
  match i, hi with
  | 0, _ => rfl
  | 1, _ => rfl
  | 2, _ => rfl
  | 3, _ => rfl
  | 4, _ => rfl
  | 5, _ => rfl
theorem sm_zero : Ty.sm 0 = #[.int .u64 0, .int .u64 0, .int .u64 0, .int .u64 0, .int .u64 0, .int .u64 0] := by
  have h : ∀ i, Ty.wd 0 i = 0 := fun i => by unfold Ty.wd; rw [Int.zero_ediv]; rfl
  unfold Ty.sm
  simp only [h]
theorem sm_open (A : Int) : ∃ x0 x1 x2 x3 x4 x5 : Int, Ty.sm A = #[.int .u64 x0, .int .u64 x1, .int .u64 x2, .int .u64 x3, .int .u64 x4, .int .u64 x5] := ⟨_, _, _, _, _, _, rfl⟩
abbrev R8f (b : Nat) (x0 x1 x2 x3 x4 x5 x6 x7 : Int) (w : World) : Prop := w.cell? ⟨b, 0, none⟩ = some (.int .u64 x0) ∧ w.cell? ⟨b, 1, none⟩ = some (.int .u64 x1) ∧ w.cell? ⟨b, 2, none⟩ = some (.int .u64 x2) ∧ w.cell? ⟨b, 3, none⟩ = some (.int .u64 x3) ∧ w.cell? ⟨b, 4, none⟩ = some (.int .u64 x4) ∧ w.cell? ⟨b, 5, none⟩ = some (.int .u64 x5) ∧ w.cell? ⟨b, 6, none⟩ = some (.int .u64 x6) ∧ w.cell? ⟨b, 7, none⟩ = some (.int .u64 x7)
theorem R8f.dr {X : World} {b : Nat} {x0 x1 x2 x3 x4 x5 x6 x7 : Int} (h : X.heap[b]? = some (.cells #[.int .u64 x0, .int .u64 x1, .int .u64 x2, .int .u64 x3, .int .u64 x4, .int .u64 x5, .int .u64 x6, .int .u64 x7] 59 (0, 0))) : R8f b x0 x1 x2 x3 x4 x5 x6 x7 X.drew := c8 (w := X.drew) h
abbrev S23d (g i : Nat) (z : Int) (w : World) : Prop := w.cell? ⟨g, i, none⟩ = some (.int .u64 z)
set_option maxHeartbeats 16000000 in
theorem rhanf_any (n m c r : Nat) (a : Option Addr) (L : List T3) (s : Int) (s0 : 0 ≤ s) (s1 : s < 18446744073709551616) (hm1 : m = L.length) (hn0 : 0 < n) (hn : n ≤ 5000) (hr1 : 1 ≤ r) (hrr : r ≤ 1000) (hm : m ≤ 140737488351232) (w : World) (hE : Row3 .u32 w a L) (hI : ∀ e ∈ L, e.1 < n ∧ e.2.1 < n) :
    Calls Tryz.prog 54 #[.int .u32 (n : Int), .int .i64 (r : Int), .int .u64 s, .slice a m c] w fun e w' => ∃ (tb tc : Nat) (f : Nat → Int), e = .returned (.tuple #[.slice (some ⟨tb, 0, none⟩) n tc, .agg (Ty.st f)]) ∧ GU w' tb n (itr L (fst s) r) ∧ Below w.heap.size w w' := by
  subst hm1
  have HE := hide hE
  have HI := hide hI
  have hmk := make_u32 (w.alloc (.cells z8 59)) n (by omega)
  simp only [World.size_alloc] at hmk
  have HG0 := hide (GU.new (w.alloc (.cells z8 59)) n)
  simp only [World.size_alloc] at HG0
  obtain ⟨w0, hw0⟩ : ∃ w0, (w.alloc (.cells z8 59)).alloc (.cells (madeCells #[.int .u64 0] n) 28) = w0 := ⟨_, rfl⟩
  have HH0 : Hid (Hs w n (w.heap.size + 1) (fun v => if v < 0 then fst s v else 0) w0) := by
    refine ⟨?_, ?_, by omega, ?_⟩
    · rw [← hw0]; exact keep _ (at0 _ _)
    · rw [← hw0]; exact HG0.out.ext (fun v hv => by rw [if_neg (by omega)])
    · rw [← hw0]; exact bA2 (b1 _ _ _) _
  generalize madeCells #[.int .u64 0] n = mc at *
  have HW := hide hw0
  clear hE hI HG0 hw0
  go_enter Tryz.func54, Tryz.ntmps54
  go_wp2_with (fail)
  clear hmk
  rw [HW.out]
  go_loopw [11] (fun v wr => ∃ j : Nat, j ≤ n ∧ v = .int .i64 j ∧ Hid (Hs w n (w.heap.size + 1) (fun v => if v < j then fst s v else 0) wr)) (fun v _ => n - (intOf v).toNat)
  case atStart => exact ⟨0, Nat.zero_le _, rfl, HH0⟩
  case round =>
    clear HH0 HW
    obtain ⟨j, hj, rfl, HH⟩ := hrel
    by_cases cc : j < n
    · have HF := hide (rosn_any s (j : Int) s0 s1 (by omega) (by omega) wr)
      have hf := HH.out.g.fz j
      have hc := HH.out.g.cell j cc
      have hwj : IntKind.u32.wrap (j : Int) = j := by rw [IntKind.wrap_u32]; omega
      have HH2 : Hid (Hs w n (w.heap.size + 1) (fun v => if v < j + 1 then fst s v else 0) (wr.setCell ⟨w.heap.size + 1, j, none⟩ (.int .u64 (osn (Rx.mix s (j : Int)))))) := by
        have h := HH.out.set j (osn (Rx.mix s (j : Int)))
        refine ⟨h.r, h.g.ext (fun v hv => ?_), h.o, h.b⟩
        by_cases e : v = j
        · subst e; rw [up_eq, if_pos (by omega)]; rfl
        · rw [up_ne _ _ _ _ e]
          by_cases e2 : v < j
          · rw [if_pos e2, if_pos (by omega)]
          · rw [if_neg e2, if_neg (by omega)]
      clear HH
      generalize osn (Rx.mix s (j : Int)) = y at *
      go_wp2_with (fail)
      refine HF.out.mono ?_
      rintro e1 w1 ⟨rfl, hw1⟩
      subst w1
      clear HF
      go_wp2
      exact ⟨⟨j + 1, cc, by go_num, HH2⟩, by simp [intOf]; omega⟩
    · have HH1 : Hid (Hs w n (w.heap.size + 1) (itr L (fst s) 0) wr) := ⟨HH.out.r, HH.out.g.ext (fun v hv => by rw [if_pos (by omega)]; rfl), HH.out.o, HH.out.b⟩
      clear HH
      go_wp2_with (fail)
      go_loopw [10, 12, 13] (fun v x t wr => ∃ (k g cp : Nat) (b : Bool), k ≤ r ∧ t = .int .i64 k ∧ x = .bool b ∧ v = .slice (some ⟨g, 0, none⟩) n cp ∧ Hid (Hs w n g (itr L (fst s) k) wr) ∧ Hid (b = false → pas (itr L (fst s) k) L = itr L (fst s) k)) (fun _ _ t _ => r - (intOf t).toNat)
      case atStart => exact ⟨0, w.heap.size + 1, n, true, Nat.zero_le _, rfl, rfl, rfl, HH1, fun h => by cases h⟩
      case round =>
        clear HH1
        obtain ⟨k, g, cp, b, hk, rfl, rfl, rfl, HH, HB⟩ := hrel
        by_cases cc2 : k < r
        · cases b with
          | false =>
            have HHe : Hid (Hs w n g (itr L (fst s) r) wr) := by show Hs _ _ _ _ _; rw [itr_fix L (fst s) k r (HB.out rfl) hk]; exact HH.out
            clear HH HB
            generalize hW3 : wr = W3 at *
            clear hW3
            have HWi := hide (itr_b L (fst_b s) r)
            have hgl := HHe.out.gr
            have hbl := HHe.out.b.size
            have HS0 : Hid ((W3.alloc (.cells #[.int .u64 0, .int .u64 0, .int .u64 0, .int .u64 0, .int .u64 0, .int .u64 0] 159)).heap[W3.heap.size]? = some (.cells (Ty.sm 0) 159 (0, 0))) := by
              show _ = _
              rw [sm_zero]; exact at0 _ _
            have HT0 : Hid (Hs w n g (itr L (fst s) r) (W3.alloc (.cells #[.int .u64 0, .int .u64 0, .int .u64 0, .int .u64 0, .int .u64 0, .int .u64 0] 159))) := HHe.out.on (X := fun _ => False) (Ch.of (b1 _ _ _)) (fun _ _ h => h)
            have hsW : w.heap.size < W3.heap.size := lt_of_some HHe.out.r
            clear HHe
            go_wp2_with (fail)
            go_loopw [18] (fun v wr => ∃ (i : Nat) (A : Int), i ≤ n ∧ v = .int .i64 i ∧ Hid (Hs w n g (itr L (fst s) r) wr) ∧ Hid (wr.heap[W3.heap.size]? = some (.cells (Ty.sm A) 159 (0, 0)))) (fun v _ => n - (intOf v).toNat)
            case atStart => exact ⟨0, 0, Nat.zero_le _, rfl, HT0, HS0⟩
            case round =>
              clear HT0 HS0
              obtain ⟨i, A, hi, rfl, HH, HM⟩ := hrel
              by_cases cc9 : i < n
              · obtain ⟨z, hz⟩ : ∃ z, itr L (fst s) r i = z := ⟨_, rfl⟩
                have hzb := HWi.out i
                rw [hz] at hzb
                have HSz := hide (Kt.rsize_any z hzb.1 hzb.2)
                have hsb := siz_b z
                have HPt := hide (Ty.rput_any A (Kt.siz z) hsb.1 hsb.2)
                obtain ⟨x0, x1, x2, x3, x4, x5, hx⟩ := sm_open A
                obtain ⟨y0, y1, y2, y3, y4, y5, hy⟩ := sm_open (Ty.pt A (Kt.siz z))
                have HS : Hid (S23d g i z wr.drew) := by
                  show wr.drew.cell? _ = _
                  rw [← hz]; exact HH.out.g.cell i cc9
                have HKp : Hid (∀ W, Below wr.drew.heap.size wr.drew W → S23d g i z W) := fun W hW => by
                  rw [S23d, ← hz]; exact (HH.out.g.of (w' := W) (hW.block _ HH.out.g.lt)).cell i cc9
                have HRow : Hid (∀ W, Below wr.drew.heap.size wr.drew W → W.heap[W3.heap.size]? = some (.cells #[.int .u64 x0, .int .u64 x1, .int .u64 x2, .int .u64 x3, .int .u64 x4, .int .u64 x5] 159 (0, 0))) := fun W hW => by
                  rw [← hx]; exact (hW.block _ (lt_of_some HM.out)).trans HM.out
                have HKs : Hid (∀ w2, Below wr.drew.heap.size wr.drew w2 → S23d g i z ((((((w2.setCell ⟨W3.heap.size, 0, none⟩ (.int .u64 y0)).setCell ⟨W3.heap.size, 1, none⟩ (.int .u64 y1)).setCell ⟨W3.heap.size, 2, none⟩ (.int .u64 y2)).setCell ⟨W3.heap.size, 3, none⟩ (.int .u64 y3)).setCell ⟨W3.heap.size, 4, none⟩ (.int .u64 y4)).setCell ⟨W3.heap.size, 5, none⟩ (.int .u64 y5))) := fun w2 hW => by
                  rw [S23d, ← hz]; exact (HH.out.g.of (w' := ((((((w2.setCell ⟨W3.heap.size, 0, none⟩ (.int .u64 y0)).setCell ⟨W3.heap.size, 1, none⟩ (.int .u64 y1)).setCell ⟨W3.heap.size, 2, none⟩ (.int .u64 y2)).setCell ⟨W3.heap.size, 3, none⟩ (.int .u64 y3)).setCell ⟨W3.heap.size, 4, none⟩ (.int .u64 y4)).setCell ⟨W3.heap.size, 5, none⟩ (.int .u64 y5))) ((sets6_other (Nat.ne_of_lt hgl) _ _ _ _ _ _).trans (hW.block _ HH.out.g.lt))).cell i cc9
                have HEnd : Hid (∀ w2, Below wr.drew.heap.size wr.drew w2 → Hid (Hs w n g (itr L (fst s) r) (w2.setRow W3.heap.size #[.int .u64 y0, .int .u64 y1, .int .u64 y2, .int .u64 y3, .int .u64 y4, .int .u64 y5])) ∧ Hid ((w2.setRow W3.heap.size #[.int .u64 y0, .int .u64 y1, .int .u64 y2, .int .u64 y3, .int .u64 y4, .int .u64 y5]).heap[W3.heap.size]? = some (.cells (Ty.sm (Ty.pt A (Kt.siz z))) 159 (0, 0)))) := fun w2 hW => by
                  have hr := (hW.block _ (lt_of_some HM.out)).trans HM.out
                  refine ⟨HH.out.on (X := fun k => k = W3.heap.size) (((Ch.refl _ wr).drew.trans (Ch.of hW)).row _ (Or.inl rfl)) (fun k h9 => by omega), ?_⟩
                  show _ = _
                  rw [hy]
                  exact setRow_heap _ _ _ _ _ _ hr
                obtain ⟨z0, z1, z2, z3', z4, z5⟩ := c6 (w := wr) (HRow.out wr.drew (Below.refl _ _))
                rw [hx, hy] at HPt
                clear HH HM hx hy hz hsb
                go_wp2_with (fail)
                refine wp_region_noPanic ?_
                refine wp_region_held_drew (S := S23d g i z) (by kernel_rfl) (HS.out) (fun hHeld => ?_)
                refine wpAnyH_take (i := 1) (oi := _) (v := ?_) rfl (by kernel_rfl) (by kernel_rfl) (by kernel_rfl) (fun _ _ _ h => h) (Or.inl ⟨by rfl, ?_⟩) (by assumption) ?_
                rotate_left
                · (intro w9 hSw; (try dsimp only at hSw); go_simp; try with_reducible rfl)
                try simp only [Act.put, List.setIfInBounds_toArray]
                refine wpAnyH_take (i := 2) (oi := _) (v := ?_) rfl (by kernel_rfl) (by kernel_rfl) (by kernel_rfl) (fun _ _ _ h => h) (Or.inl ⟨by rfl, ?_⟩) (by assumption) ?_
                rotate_left
                · (intro w9 hSw; (try dsimp only at hSw); go_simp; try with_reducible rfl)
                try simp only [Act.put]
                refine wpAnyH_take (i := 3) (oi := _) (v := ?_) rfl (by kernel_rfl) (by kernel_rfl) (by kernel_rfl) (fun _ _ _ h => h) (Or.inl ⟨by rfl, ?_⟩) (by assumption) ?_
                rotate_left
                · (intro w9 hSw; (try dsimp only at hSw); go_simp; try with_reducible rfl)
                try simp only [Act.put]
                refine wpAnyH_take (i := 4) (oi := _) (v := ?_) rfl (by kernel_rfl) (by kernel_rfl) (by kernel_rfl) (fun _ _ _ h => h) (Or.inl ⟨by rfl, ?_⟩) (by assumption) ?_
                rotate_left
                · (intro w9 hSw; (try dsimp only at hSw); go_simp; try with_reducible rfl)
                try simp only [Act.put]
                refine wpAnyH_ready (rs := [0, 5]) (by kernel_rfl) (by simp) ?_
                refine AllReadyH.cons (o := _) rfl (fun K hK => ?_) ?_
                next =>
                  go_simp
                  refine hK.out _ _ (HS.out) (fun hHeld => ?_)
                  clear hK K
                  try simp only [Act.put, List.setIfInBounds_toArray, List.set_cons_zero, List.set_cons_succ]
                  refine wpAnyH_ready (rs := [5]) (by kernel_rfl) (by simp) ?_
                  refine AllReadyH.cons (o := _) rfl (fun K hK => ?_) ?_
                  rotate_left
                  · exact AllReadyH.nil
                  go_simp
                  (go_at_call 107; refine (HSz.out _).mono ?_; rintro e1 w1 ⟨rfl, hB1⟩; obtain ⟨k0, k1, k2, k3, k4, k5⟩ := c6 (HRow.out w1 hB1); have HB1 := hide hB1; clear hB1; go_wp2_with fail)
                  refine hK.out _ _ (HKp.out w1 HB1.out) (fun hHeld => ?_)
                  clear hK K
                  try simp only [Act.put, List.setIfInBounds_toArray, List.set_cons_zero, List.set_cons_succ]
                  refine wpAnyH_ready (rs := [6]) (by kernel_rfl) (by simp) ?_
                  refine AllReadyH.cons (o := _) rfl (fun K hK => ?_) ?_
                  rotate_left
                  · exact AllReadyH.nil
                  go_simp
                  (go_at_call 106; refine (HPt.out _).mono ?_; rintro e2 w2 ⟨rfl, hB2⟩; have HB2 : Hid (Below wr.drew.heap.size wr.drew w2) := HB1.out.trans (hB2.mono HB1.out.size); obtain ⟨m0, m1, m2, m3, m4, m5⟩ := c6 (HRow.out w2 HB2.out); obtain ⟨n0, n1, n2, n3, n4, n5⟩ := f6 (HRow.out w2 HB2.out); clear hB2; go_wp2_with fail)
                  refine hK.out _ _ (HKp.out w2 HB2.out) (fun hHeld => ?_)
                  clear hK K
                  try simp only [Act.put, List.setIfInBounds_toArray, List.set_cons_zero, List.set_cons_succ]
                  refine wpAnyH_ready (rs := [7]) (by kernel_rfl) (by simp) ?_
                  refine AllReadyH.cons (o := _) rfl (fun K hK => ?_) ?_
                  rotate_left
                  · exact AllReadyH.nil
                  go_simp
                  refine hK.out _ _ (HKs.out w2 HB2.out) (fun hHeld => ?_)
                  clear hK K
                  try simp only [Act.put, List.setIfInBounds_toArray, List.set_cons_zero, List.set_cons_succ]
                  refine wpAnyH_done (by kernel_rfl) ?_ _
                  refine NoPanic.normal ?_
                  clear k0 k1 k2 k3 k4 k5 m0 m1 m2 m3 m4 m5 n0 n1 n2 n3 n4 n5 z0 z1 z2 z3' z4 z5
                  rw [sets6_row (HRow.out w2 HB2.out)]
                  have HZ := hide (HEnd.out w2 HB2.out)
                  clear HEnd HRow HB1 HB2 HS HSz HPt hHeld HKp HKs
                  go_wp2
                  exact ⟨⟨i + 1, Ty.pt A (Kt.siz z), by omega, by go_num, HZ.out.1, HZ.out.2⟩, by simp [intOf]; omega⟩
                next =>
                  refine AllReadyH.cons (o := _) rfl (fun K hK => ?_) ?_
                  rotate_left
                  · exact AllReadyH.nil
                  go_simp
                  (go_at_call 107; refine (HSz.out _).mono ?_; rintro e1 w1 ⟨rfl, hB1⟩; obtain ⟨k0, k1, k2, k3, k4, k5⟩ := c6 (HRow.out w1 hB1); have HB1 := hide hB1; clear hB1; go_wp2_with fail)
                  refine hK.out _ _ (HKp.out w1 HB1.out) (fun hHeld => ?_)
                  clear hK K
                  try simp only [Act.put, List.setIfInBounds_toArray, List.set_cons_zero, List.set_cons_succ]
                  refine wpAnyH_ready (rs := [0]) (by kernel_rfl) (by simp) ?_
                  refine AllReadyH.cons (o := _) rfl (fun K hK => ?_) ?_
                  rotate_left
                  · exact AllReadyH.nil
                  go_simp
                  refine hK.out _ _ (HKp.out w1 HB1.out) (fun hHeld => ?_)
                  clear hK K
                  try simp only [Act.put, List.setIfInBounds_toArray, List.set_cons_zero, List.set_cons_succ]
                  refine wpAnyH_ready (rs := [6]) (by kernel_rfl) (by simp) ?_
                  refine AllReadyH.cons (o := _) rfl (fun K hK => ?_) ?_
                  rotate_left
                  · exact AllReadyH.nil
                  go_simp
                  (go_at_call 106; refine (HPt.out _).mono ?_; rintro e2 w2 ⟨rfl, hB2⟩; have HB2 : Hid (Below wr.drew.heap.size wr.drew w2) := HB1.out.trans (hB2.mono HB1.out.size); obtain ⟨m0, m1, m2, m3, m4, m5⟩ := c6 (HRow.out w2 HB2.out); obtain ⟨n0, n1, n2, n3, n4, n5⟩ := f6 (HRow.out w2 HB2.out); clear hB2; go_wp2_with fail)
                  refine hK.out _ _ (HKp.out w2 HB2.out) (fun hHeld => ?_)
                  clear hK K
                  try simp only [Act.put, List.setIfInBounds_toArray, List.set_cons_zero, List.set_cons_succ]
                  refine wpAnyH_ready (rs := [7]) (by kernel_rfl) (by simp) ?_
                  refine AllReadyH.cons (o := _) rfl (fun K hK => ?_) ?_
                  rotate_left
                  · exact AllReadyH.nil
                  go_simp
                  refine hK.out _ _ (HKs.out w2 HB2.out) (fun hHeld => ?_)
                  clear hK K
                  try simp only [Act.put, List.setIfInBounds_toArray, List.set_cons_zero, List.set_cons_succ]
                  refine wpAnyH_done (by kernel_rfl) ?_ _
                  refine NoPanic.normal ?_
                  clear k0 k1 k2 k3 k4 k5 m0 m1 m2 m3 m4 m5 n0 n1 n2 n3 n4 n5 z0 z1 z2 z3' z4 z5
                  rw [sets6_row (HRow.out w2 HB2.out)]
                  have HZ := hide (HEnd.out w2 HB2.out)
                  clear HEnd HRow HB1 HB2 HS HSz HPt hHeld HKp HKs
                  go_wp2
                  exact ⟨⟨i + 1, Ty.pt A (Kt.siz z), by omega, by go_num, HZ.out.1, HZ.out.2⟩, by simp [intOf]; omega⟩
              · have HA0 := at0 wr (.cells (Ty.st (fun _ => 0)) 59)
                have HQ0 := hide HA0
                have HT0 : Hid (Hs w n g (itr L (fst s) r) (wr.alloc (.cells (Ty.st (fun _ => 0)) 59))) := HH.out.on (X := fun _ => False) (Ch.of (b1 _ _ _)) (fun _ _ h => h)
                have HM0 : Hid ((wr.alloc (.cells (Ty.st (fun _ => 0)) 59)).heap[W3.heap.size]? = some (.cells (Ty.sm A) 159 (0, 0))) := keep _ HM.out
                have hml := lt_of_some HM.out
                have hgw := HH.out.gr
                have hbw := HH.out.b.size
                clear HH HM HA0
                generalize hW4 : wr = W4 at *
                clear hW4
                go_wp2_with (fail)
                go_loopw [20] (fun v wr => ∃ (i : Nat) (f : Nat → Int), i ≤ 6 ∧ v = .int .i64 i ∧ Hid (Hs w n g (itr L (fst s) r) wr) ∧ Hid (wr.heap[W3.heap.size]? = some (.cells (Ty.sm A) 159 (0, 0))) ∧ Hid (wr.heap[W4.heap.size]? = some (.cells (Ty.st f) 59 (0, 0)))) (fun v _ => 6 - (intOf v).toNat)
                case atStart => exact ⟨0, _, by omega, rfl, HT0, HM0, HQ0⟩
                case round =>
                  clear HT0 HM0 HQ0
                  obtain ⟨i, f, hi6, rfl, HH, HM, HQ⟩ := hrel
                  by_cases cc8 : i < 6
                  · have q0 := (cell_of_row _ _ i _ _ _ HM.out).trans (sm_get A i cc8)
                    have q1 := (cell_of_row _ _ i _ _ _ HQ.out).trans (st_get f i (by omega))
                    have q2 : wr.frozen? ⟨W4.heap.size, i, none⟩ = false := frozen_of_row _ _ _ _ _ HQ.out
                    have HE8 : Hid (Hs w n g (itr L (fst s) r) (wr.setCell ⟨W4.heap.size, i, none⟩ (.int .u64 (Ty.wd A i))) ∧ Hid ((wr.setCell ⟨W4.heap.size, i, none⟩ (.int .u64 (Ty.wd A i))).heap[W3.heap.size]? = some (.cells (Ty.sm A) 159 (0, 0))) ∧ Hid ((wr.setCell ⟨W4.heap.size, i, none⟩ (.int .u64 (Ty.wd A i))).heap[W4.heap.size]? = some (.cells (Ty.st (Ty.up1 f i (Ty.wd A i))) 59 (0, 0)))) := by
                      refine ⟨HH.out.on (X := fun k => k = W4.heap.size) ((Ch.refl _ _).set _ _ (Or.inl rfl)) (fun k h9 => by omega), (Below.heap_setCell _ _ _ _ (by show W3.heap.size ≠ W4.heap.size; omega)).trans HM.out, ?_⟩
                      show _ = _
                      rw [setCell_eq_setRow wr W4.heap.size i _ 59 (0, 0) _ HQ.out, st_set f i (by omega)]
                      exact setRow_heap _ _ _ _ _ _ HQ.out
                    clear HH HM HQ
                    generalize Ty.wd A i = wv at *
                    go_wp2
                    exact ⟨⟨i + 1, _, by omega, by go_num, HE8.out.1, HE8.out.2.1, HE8.out.2.2⟩, by simp [intOf]; omega⟩
                  · obtain ⟨x0, x1, x2, x3, x4, x5, x6, x7, hx⟩ := Ty.st_open f
                    have hrow := HH.out.r
                    have harow := HQ.out
                    rw [hx] at harow
                    have HS : Hid (R8f W4.heap.size x0 x1 x2 x3 x4 x5 x6 x7 wr.drew) := R8f.dr harow
                    have HS2 : Hid (∀ y0 y1 y2 y3 y4 y5 y6 y7 : Value, R8f W4.heap.size x0 x1 x2 x3 x4 x5 x6 x7 ((((((((wr.setCell ⟨w.heap.size, 0, none⟩ y0).setCell ⟨w.heap.size, 1, none⟩ y1).setCell ⟨w.heap.size, 2, none⟩ y2).setCell ⟨w.heap.size, 3, none⟩ y3).setCell ⟨w.heap.size, 4, none⟩ y4).setCell ⟨w.heap.size, 5, none⟩ y5).setCell ⟨w.heap.size, 6, none⟩ y6).setCell ⟨w.heap.size, 7, none⟩ y7).drew) := fun y0 y1 y2 y3 y4 y5 y6 y7 => R8f.dr ((sets8_other (w := wr) (by omega) y0 y1 y2 y3 y4 y5 y6 y7).trans harow)
                    obtain ⟨z0, z1, z2, z3', z4, z5, z6, z7⟩ := c8 (w := wr) hrow
                    have fz : ∀ j, wr.frozen? ⟨w.heap.size, j, none⟩ = false := fun j => frozen_of_row _ _ _ _ _ hrow
                    have f0 := fz 0
                    have f1 := fz 1
                    have f2 := fz 2
                    have f3 := fz 3
                    have f4 := fz 4
                    have f5 := fz 5
                    have f6 := fz 6
                    have f7 := fz 7
                    have HR := hide hrow
                    have HG := hide HH.out.g
                    have HB := hide HH.out.b
                    have hgo := HH.out.o
                    have HX := hide hx
                    clear fz hrow harow hx HH HM HQ
                    go_wp2_with (fail)
                    go_region_held3 (R8f W4.heap.size x0 x1 x2 x3 x4 x5 x6 x7) ((first | with_reducible exact HS.out | with_reducible exact HS2.out _ _ _ _ _ _ _ _)) ((fail))
                    rw [sets8_row HR.out]
                    have hq : (wr.setRow w.heap.size (Ty.st f)).drew.heap[w.heap.size]? = some (.cells (Ty.st f) 59 (0, 0)) := setRow_heap _ _ _ _ _ _ HR.out
                    rw [HX.out] at hq
                    have HH : Hid (GU (wr.setRow w.heap.size #[.int .u64 x0, .int .u64 x1, .int .u64 x2, .int .u64 x3, .int .u64 x4, .int .u64 x5, .int .u64 x6, .int .u64 x7]).drew g n (itr L (fst s) r) ∧ Below w.heap.size w (wr.setRow w.heap.size #[.int .u64 x0, .int .u64 x1, .int .u64 x2, .int .u64 x3, .int .u64 x4, .int .u64 x5, .int .u64 x6, .int .u64 x7]).drew) := ⟨(HG.out.of (setRow_other _ _ _ _ (by omega))).of rfl, belowD (below_setRow HB.out (Nat.le_refl _) _)⟩
                    have hld := run_loadVar_row (P := Tryz.prog) _ _ 59 59 _ (0, 0) _ hq Tryz.underlying59 rfl Ty.sizeState
                    generalize (wr.setRow w.heap.size #[.int .u64 x0, .int .u64 x1, .int .u64 x2, .int .u64 x3, .int .u64 x4, .int .u64 x5, .int .u64 x6, .int .u64 x7]).drew = W9 at *
                    clear hq z0 z1 z2 z3' z4 z5 z6 z7 f0 f1 f2 f3 f4 f5 f6 f7 HS HS2 HR HG HB
                    go_wp2
                    refine bodyPost_ret (v := .tuple #[.slice (some ⟨g, 0, none⟩) n cp, .agg #[.int .u64 x0, .int .u64 x1, .int .u64 x2, .int .u64 x3, .int .u64 x4, .int .u64 x5, .int .u64 x6, .int .u64 x7]]) ?_ rfl ⟨g, cp, f, by rw [HX.out], HH.out.1, HH.out.2⟩
                    simp [results, Tryz.results54, asAddr, hld]
          | true =>
            have HNX : Hid (itr L (fst s) (k + 1) = pas (itr L (fst s) k) L) := rfl
            have HWb := hide (itr_b L (fst_b s) k)
            have hHr := HH.out.gr
            have hHb := HH.out.b.size
            have hHo := HH.out.o
            clear HB
            generalize itr L (fst s) k = P at *
            have HDup : Hid (GU (wr.alloc (.cells #[] 28)) g n P ∧ (wr.alloc (.cells #[] 28)).heap[wr.heap.size]? = some (.cells #[] 28 (0, 0))) := ⟨HH.out.g.of (Below.heap_alloc _ _ _ hHr), at0 _ _⟩
            go_wp2_with (refine wpList_dup rfl _ _ rfl wr.heap.size g n cp P rfl (by with_reducible exact HDup.out.2) rfl (by with_reducible exact HDup.out.1) hHr hn0 hn ?_; intro h hc w1 hG1 hge1 hC1; have HG1 := hide hG1; have HHn : Hid (Hs w n g P w1) := HH.out.on ((Ch.of (X := fun k => k = wr.heap.size) ((Below.refl _ wr).alloc (Nat.le_refl _) (.cells #[] 28))).trans hC1) (fun k h9 => by rcases h9 with h9 | h9 <;> omega); clear hG1 hC1)
            have hhg : h ≠ g := by omega
            have hho : w.heap.size < h := by omega
            clear HH HDup hge1 hHr hHb
            go_loopw [12, 15] (fun x t wr => ∃ i : Nat, i ≤ L.length ∧ t = .int .i64 i ∧ x = .bool (chg P (L.take i)) ∧ Hid (Hs w n g P wr) ∧ Hid (GU wr h n (pas P (L.take i)))) (fun _ t _ => L.length - (intOf t).toNat)
            case atStart => exact ⟨0, Nat.zero_le _, rfl, rfl, HHn, HG1⟩
            case round =>
              clear HHn HG1
              obtain ⟨i, hi, rfl, rfl, HH, HG⟩ := hrel
              by_cases cc3 : i < L.length
              · obtain ⟨eb, rfl, heb, hce⟩ := HE.out (by omega)
                obtain ⟨⟨x, y, z⟩, hxyz⟩ : ∃ e, L[i]? = some e := ⟨L[i]'(by omega), List.getElem?_eq_getElem (by omega)⟩
                obtain ⟨hxn, hyn⟩ := HI.out _ (List.mem_of_getElem? hxyz)
                simp only at hxn hyn
                obtain ⟨c1, c2, _⟩ := cells3 (hce i _ hxyz)
                simp only at c1 c2
                have d1 : wr.cell? (eb.add (i * 3)) = some (.int .u32 x) := (HH.out.b.cell (p := eb.add (i * 3)) (by rw [add_block]; exact heb)).trans c1
                have d2 := (HH.out.b.cell (p := ⟨(eb.add (i * 3)).block, (eb.add (i * 3)).off + 1, none⟩) (by rw [show (⟨(eb.add (i * 3)).block, (eb.add (i * 3)).off + 1, none⟩ : Addr).block = eb.block from add_block _ _]; exact heb)).trans c2
                have hHo2 := HH.out.o
                obtain ⟨Gv, hGv⟩ : ∃ Gv, pas P (L.take i) = Gv := ⟨_, rfl⟩
                have hcA := chg_app P (L.take i) (x, y, z)
                rw [← take_succ hxyz] at hcA
                have hpA := pas_app P (L.take i) (x, y, z)
                rw [← take_succ hxyz] at hpA
                rw [hGv] at hpA
                have hst : stp P Gv (x, y, z) = up Gv y (ni (Gv y) (P x)) := rfl
                rw [hst] at hpA
                rw [hpA] at hcA
                simp only [up_eq] at hcA
                have hbG := pas_b (L.take i) HWb.out
                rw [hGv] at hbG HG
                have HJ := hide (rni_any (Gv y) (P x) (hbG y).1 (hbG y).2 (HWb.out x).1 (HWb.out x).2 wr.drew)
                have gy := HG.out.cell y hyn
                have gf := HG.out.fz y
                have gx := HH.out.g.cell x hxn
                have gp := HH.out.g.cell y hyn
                have HG2 : Hid (GU (wr.setCell ⟨h, y, none⟩ (.int .u64 (ni (Gv y) (P x)))).drew h n (pas P (L.take (i + 1)))) := by
                  show GU _ _ _ _
                  rw [hpA]; exact (HG.out.set y _).1.of rfl
                have hCs : Ch (fun k => k = h) wr (wr.setCell ⟨h, y, none⟩ (.int .u64 (ni (Gv y) (P x)))) := (Ch.refl _ _).set _ _ (Or.inl rfl)
                have HH2 : Hid (Hs w n g P (wr.setCell ⟨h, y, none⟩ (.int .u64 (ni (Gv y) (P x)))).drew) := HH.out.on hCs.drew (fun k h9 => by omega)
                have HCA := hide hcA
                have HS : Hid (S16d g x (eb.add (i * 3)) (P x) wr.drew) := ⟨d1, gx⟩
                have HS2 : Hid (S16d g x (eb.add (i * 3)) (P x) (wr.setCell ⟨h, y, none⟩ (.int .u64 (ni (Gv y) (P x)))).drew) := ⟨(World.cell?_of_block (show (wr.setCell ⟨h, y, none⟩ (.int .u64 (ni (Gv y) (P x)))).drew.heap[(eb.add (i * 3)).block]? = wr.heap[(eb.add (i * 3)).block]? from Below.heap_setCell _ _ _ _ (by rw [add_block]; show eb.block ≠ h; omega))).trans d1, (World.cell?_of_block (show (wr.setCell ⟨h, y, none⟩ (.int .u64 (ni (Gv y) (P x)))).drew.heap[g]? = wr.heap[g]? from Below.heap_setCell _ _ _ _ (Ne.symm hhg))).trans gx⟩
                have HS3 : Hid (S17d h g y (ni (Gv y) (P x)) (P y) (wr.setCell ⟨h, y, none⟩ (.int .u64 (ni (Gv y) (P x)))).drew.drew) := ⟨by have h9 := HG2.out.cell y hyn; rw [hpA, up_eq] at h9; exact h9, HH2.out.g.cell y hyn⟩
                have HPA := hide hpA
                clear c1 c2 hce heb hxyz hi hGv hpA hst hcA hbG HG HH gp hCs gx d1
                generalize ni (Gv y) (P x) = q at *
                generalize chg P (L.take i) = ch at *
                go_wp2_with (fail)
                refine wp_region_noPanic ?_
                refine wp_region_held_drew (S := S16d g x (eb.add (i * 3)) (P x)) (by kernel_rfl) (HS.out) (fun hHeld => ?_)
                refine wpAnyH_take (i := 0) (oi := _) (v := ?_) rfl (by kernel_rfl) (by kernel_rfl) (by kernel_rfl) (fun _ _ _ h => h) (Or.inl ⟨by rfl, ?_⟩) (by assumption) ?_
                rotate_left
                · (intro w9 hSw; (try dsimp only at hSw); go_simp; try with_reducible rfl)
                try simp only [Act.put, List.setIfInBounds_toArray]
                refine wpAnyH_take (i := 1) (oi := _) (v := ?_) rfl (by kernel_rfl) (by kernel_rfl) (by kernel_rfl) (fun _ _ _ h => h) (Or.inl ⟨by rfl, ?_⟩) (by assumption) ?_
                rotate_left
                · (intro w9 hSw; (try dsimp only at hSw); go_simp; try with_reducible rfl)
                try simp only [Act.put]
                refine wpAnyH_take (i := 2) (oi := _) (v := ?_) rfl (by kernel_rfl) (by kernel_rfl) (by kernel_rfl) (fun _ _ _ h => h) (Or.inl ⟨by rfl, ?_⟩) (by assumption) ?_
                rotate_left
                · (intro w9 hSw; (try dsimp only at hSw); go_simp; try with_reducible rfl)
                try simp only [Act.put]
                refine wpAnyH_take (i := 3) (oi := _) (v := ?_) rfl (by kernel_rfl) (by kernel_rfl) (by kernel_rfl) (fun _ _ _ h => h) (Or.inl ⟨by rfl, ?_⟩) (by assumption) ?_
                rotate_left
                · (intro w9 hSw; (try dsimp only at hSw); go_simp; try with_reducible rfl)
                try simp only [Act.put]
                refine wpAnyH_take (i := 4) (oi := _) (v := ?_) rfl (by kernel_rfl) (by kernel_rfl) (by kernel_rfl) (fun _ _ _ h => h) (Or.inl ⟨by rfl, ?_⟩) (by assumption) ?_
                rotate_left
                · (intro w9 hSw; (try dsimp only at hSw); go_simp; try with_reducible rfl)
                try simp only [Act.put]
                refine wpAnyH_take (i := 6) (oi := _) (v := ?_) rfl (by kernel_rfl) (by kernel_rfl) (by kernel_rfl) (fun _ _ _ h => h) (Or.inl ⟨by rfl, ?_⟩) (by assumption) ?_
                rotate_left
                · (intro w9 hSw; (try dsimp only at hSw); go_simp; try with_reducible rfl)
                try simp only [Act.put]
                refine wpAnyH_take (i := 7) (oi := _) (v := ?_) rfl (by kernel_rfl) (by kernel_rfl) (by kernel_rfl) (fun _ _ _ h => h) (Or.inl ⟨by rfl, ?_⟩) (by assumption) ?_
                rotate_left
                · (intro w9 hSw; (try dsimp only at hSw); go_simp; try with_reducible rfl)
                try simp only [Act.put]
                refine wpAnyH_take (i := 8) (oi := _) (v := ?_) rfl (by kernel_rfl) (by kernel_rfl) (by kernel_rfl) (fun _ _ _ h => h) (Or.inl ⟨by rfl, ?_⟩) (by assumption) ?_
                rotate_left
                · (intro w9 hSw; (try dsimp only at hSw); go_simp; try with_reducible rfl)
                try simp only [Act.put]
                refine wpAnyH_take (i := 9) (oi := _) (v := ?_) rfl (by kernel_rfl) (by kernel_rfl) (by kernel_rfl) (fun _ _ _ h => h) (Or.inl ⟨by rfl, ?_⟩) (by assumption) ?_
                rotate_left
                · (intro w9 hSw; (try dsimp only at hSw); go_simp; try with_reducible rfl)
                try simp only [Act.put]
                refine wpAnyH_take (i := 10) (oi := _) (v := ?_) rfl (by kernel_rfl) (by kernel_rfl) (by kernel_rfl) (fun _ _ _ h => h) (Or.inl ⟨by rfl, ?_⟩) (by assumption) ?_
                rotate_left
                · (intro w9 hSw; (try dsimp only at hSw); go_simp; try with_reducible rfl)
                try simp only [Act.put]
                refine wpAnyH_take (i := 11) (oi := _) (v := ?_) rfl (by kernel_rfl) (by kernel_rfl) (by kernel_rfl) (fun _ _ _ h => h) (Or.inl ⟨by rfl, ?_⟩) (by assumption) ?_
                rotate_left
                · (intro w9 hSw; (try dsimp only at hSw); go_simp; try with_reducible rfl)
                try simp only [Act.put]
                refine wpAnyH_take (i := 12) (oi := _) (v := ?_) rfl (by kernel_rfl) (by kernel_rfl) (by kernel_rfl) (fun _ _ _ h => h) (Or.inl ⟨by rfl, ?_⟩) (by assumption) ?_
                rotate_left
                · (intro w9 hSw; (try dsimp only at hSw); go_simp; try with_reducible rfl)
                try simp only [Act.put]
                refine wpAnyH_take (i := 13) (oi := _) (v := ?_) rfl (by kernel_rfl) (by kernel_rfl) (by kernel_rfl) (fun _ _ _ h => h) (Or.inl ⟨by rfl, ?_⟩) (by assumption) ?_
                rotate_left
                · (intro w9 hSw; (try dsimp only at hSw); go_simp; try with_reducible rfl)
                try simp only [Act.put]
                refine wpAnyH_ready (rs := [5]) (by kernel_rfl) (by simp) ?_
                refine AllReadyH.cons (o := _) rfl (fun K hK => ?_) ?_
                rotate_left
                · exact AllReadyH.nil
                go_simp
                refine hK.out _ _ (HS.out) (fun hHeld => ?_)
                clear hK K
                try simp only [Act.put, List.setIfInBounds_toArray, List.set_cons_zero, List.set_cons_succ]
                refine wpAnyH_ready (rs := [14]) (by kernel_rfl) (by simp) ?_
                refine AllReadyH.cons (o := _) rfl (fun K hK => ?_) ?_
                rotate_left
                · exact AllReadyH.nil
                go_simp
                (go_at_call 105; refine HJ.out.mono ?_; rintro e1 w1 ⟨rfl, rfl⟩; go_wp2_with fail)
                refine hK.out _ _ (HS.out) (fun hHeld => ?_)
                clear hK K
                try simp only [Act.put, List.setIfInBounds_toArray, List.set_cons_zero, List.set_cons_succ]
                refine wpAnyH_take (i := 15) (oi := _) (v := ?_) rfl (by kernel_rfl) (by kernel_rfl) (by kernel_rfl) (fun _ _ _ h => h) (Or.inl ⟨by rfl, ?_⟩) (by assumption) ?_
                rotate_left
                · (intro w9 hSw; (try dsimp only at hSw); go_simp; try with_reducible rfl)
                try simp only [Act.put, List.setIfInBounds_toArray]
                refine wpAnyH_ready (rs := [16]) (by kernel_rfl) (by simp) ?_
                refine AllReadyH.cons (o := _) rfl (fun K hK => ?_) ?_
                rotate_left
                · exact AllReadyH.nil
                go_simp
                refine hK.out _ _ (HS2.out) (fun hHeld => ?_)
                clear hK K
                try simp only [Act.put, List.setIfInBounds_toArray, List.set_cons_zero, List.set_cons_succ]
                refine wpAnyH_done (by kernel_rfl) ?_ _
                refine NoPanic.normal ?_
                clear HS HS2 HJ gy gf
                go_wp2_with (fail)
                cases ch with
                | true =>
                  have hce : chg P (L.take (i + 1)) = true := by rw [HCA.out]; rfl
                  have HCE := hide hce
                  clear hce HCA
                  go_quiet (fail)
                  clear HS3
                  go_wp2
                  all_goals exact ⟨⟨i + 1, cc3, by go_num, by rw [HCE.out], ⟨HH2.out.r, HH2.out.g.of rfl, HH2.out.o, ⟨HH2.out.b.os, HH2.out.b.tape, HH2.out.b.output, HH2.out.b.size, HH2.out.b.block⟩⟩, HG2.out.of rfl⟩, by simp [intOf]; omega⟩
                | false =>
                  have hce : chg P (L.take (i + 1)) = (q != P y) := by rw [HCA.out]; rfl
                  have HCE := hide hce
                  clear hce HCA
                  go_region_held3 (S17d h g y q (P y)) ((with_reducible exact HS3.out)) ((fail))
                  clear HS3
                  go_wp2
                  all_goals exact ⟨⟨i + 1, cc3, by go_num, by rw [HCE.out], ⟨HH2.out.r, HH2.out.g.of rfl, HH2.out.o, ⟨HH2.out.b.os, HH2.out.b.tape, HH2.out.b.output, HH2.out.b.size, HH2.out.b.block⟩⟩, HG2.out.of rfl⟩, by simp [intOf]; omega⟩
              · have hil : L.take i = L := List.take_of_length_le (by omega)
                rw [hil] at HG
                have HHx : Hid (Hs w n h (itr L (fst s) (k + 1)) wr) := by show Hs _ _ _ _ _; rw [HNX.out]; exact ⟨HH.out.r, HG.out, hho, HH.out.b⟩
                have HBx : Hid (chg P L = false → pas (itr L (fst s) (k + 1)) L = itr L (fst s) (k + 1)) := fun h9 => by
                  have h8 := (chg_iff HWb.out L).1 h9
                  rw [HNX.out, h8, h8]
                rw [hil]
                clear HH HG hil hi HNX HWb
                generalize chg P L = ch at *
                go_wp2
                all_goals exact ⟨⟨k + 1, h, hc, ch, by omega, by go_num, rfl, rfl, HHx, HBx⟩, by simp [intOf]; omega⟩
        · have hkr : k = r := by omega
          subst hkr
          have HHe := HH
          clear HH HB
          cases b with
          | false =>
            generalize hW3 : wr = W3 at *
            clear hW3
            have HWi := hide (itr_b L (fst_b s) k)
            have hgl := HHe.out.gr
            have hbl := HHe.out.b.size
            have HS0 : Hid ((W3.alloc (.cells #[.int .u64 0, .int .u64 0, .int .u64 0, .int .u64 0, .int .u64 0, .int .u64 0] 159)).heap[W3.heap.size]? = some (.cells (Ty.sm 0) 159 (0, 0))) := by
              show _ = _
              rw [sm_zero]; exact at0 _ _
            have HT0 : Hid (Hs w n g (itr L (fst s) k) (W3.alloc (.cells #[.int .u64 0, .int .u64 0, .int .u64 0, .int .u64 0, .int .u64 0, .int .u64 0] 159))) := HHe.out.on (X := fun _ => False) (Ch.of (b1 _ _ _)) (fun _ _ h => h)
            have hsW : w.heap.size < W3.heap.size := lt_of_some HHe.out.r
            clear HHe
            go_wp2_with (fail)
            go_loopw [18] (fun v wr => ∃ (i : Nat) (A : Int), i ≤ n ∧ v = .int .i64 i ∧ Hid (Hs w n g (itr L (fst s) k) wr) ∧ Hid (wr.heap[W3.heap.size]? = some (.cells (Ty.sm A) 159 (0, 0)))) (fun v _ => n - (intOf v).toNat)
            case atStart => exact ⟨0, 0, Nat.zero_le _, rfl, HT0, HS0⟩
            case round =>
              clear HT0 HS0
              obtain ⟨i, A, hi, rfl, HH, HM⟩ := hrel
              by_cases cc9 : i < n
              · obtain ⟨z, hz⟩ : ∃ z, itr L (fst s) k i = z := ⟨_, rfl⟩
                have hzb := HWi.out i
                rw [hz] at hzb
                have HSz := hide (Kt.rsize_any z hzb.1 hzb.2)
                have hsb := siz_b z
                have HPt := hide (Ty.rput_any A (Kt.siz z) hsb.1 hsb.2)
                obtain ⟨x0, x1, x2, x3, x4, x5, hx⟩ := sm_open A
                obtain ⟨y0, y1, y2, y3, y4, y5, hy⟩ := sm_open (Ty.pt A (Kt.siz z))
                have HS : Hid (S23d g i z wr.drew) := by
                  show wr.drew.cell? _ = _
                  rw [← hz]; exact HH.out.g.cell i cc9
                have HKp : Hid (∀ W, Below wr.drew.heap.size wr.drew W → S23d g i z W) := fun W hW => by
                  rw [S23d, ← hz]; exact (HH.out.g.of (w' := W) (hW.block _ HH.out.g.lt)).cell i cc9
                have HRow : Hid (∀ W, Below wr.drew.heap.size wr.drew W → W.heap[W3.heap.size]? = some (.cells #[.int .u64 x0, .int .u64 x1, .int .u64 x2, .int .u64 x3, .int .u64 x4, .int .u64 x5] 159 (0, 0))) := fun W hW => by
                  rw [← hx]; exact (hW.block _ (lt_of_some HM.out)).trans HM.out
                have HKs : Hid (∀ w2, Below wr.drew.heap.size wr.drew w2 → S23d g i z ((((((w2.setCell ⟨W3.heap.size, 0, none⟩ (.int .u64 y0)).setCell ⟨W3.heap.size, 1, none⟩ (.int .u64 y1)).setCell ⟨W3.heap.size, 2, none⟩ (.int .u64 y2)).setCell ⟨W3.heap.size, 3, none⟩ (.int .u64 y3)).setCell ⟨W3.heap.size, 4, none⟩ (.int .u64 y4)).setCell ⟨W3.heap.size, 5, none⟩ (.int .u64 y5))) := fun w2 hW => by
                  rw [S23d, ← hz]; exact (HH.out.g.of (w' := ((((((w2.setCell ⟨W3.heap.size, 0, none⟩ (.int .u64 y0)).setCell ⟨W3.heap.size, 1, none⟩ (.int .u64 y1)).setCell ⟨W3.heap.size, 2, none⟩ (.int .u64 y2)).setCell ⟨W3.heap.size, 3, none⟩ (.int .u64 y3)).setCell ⟨W3.heap.size, 4, none⟩ (.int .u64 y4)).setCell ⟨W3.heap.size, 5, none⟩ (.int .u64 y5))) ((sets6_other (Nat.ne_of_lt hgl) _ _ _ _ _ _).trans (hW.block _ HH.out.g.lt))).cell i cc9
                have HEnd : Hid (∀ w2, Below wr.drew.heap.size wr.drew w2 → Hid (Hs w n g (itr L (fst s) k) (w2.setRow W3.heap.size #[.int .u64 y0, .int .u64 y1, .int .u64 y2, .int .u64 y3, .int .u64 y4, .int .u64 y5])) ∧ Hid ((w2.setRow W3.heap.size #[.int .u64 y0, .int .u64 y1, .int .u64 y2, .int .u64 y3, .int .u64 y4, .int .u64 y5]).heap[W3.heap.size]? = some (.cells (Ty.sm (Ty.pt A (Kt.siz z))) 159 (0, 0)))) := fun w2 hW => by
                  have hr := (hW.block _ (lt_of_some HM.out)).trans HM.out
                  refine ⟨HH.out.on (X := fun k => k = W3.heap.size) (((Ch.refl _ wr).drew.trans (Ch.of hW)).row _ (Or.inl rfl)) (fun k h9 => by omega), ?_⟩
                  show _ = _
                  rw [hy]
                  exact setRow_heap _ _ _ _ _ _ hr
                obtain ⟨z0, z1, z2, z3', z4, z5⟩ := c6 (w := wr) (HRow.out wr.drew (Below.refl _ _))
                rw [hx, hy] at HPt
                clear HH HM hx hy hz hsb
                go_wp2_with (fail)
                refine wp_region_noPanic ?_
                refine wp_region_held_drew (S := S23d g i z) (by kernel_rfl) (HS.out) (fun hHeld => ?_)
                refine wpAnyH_take (i := 1) (oi := _) (v := ?_) rfl (by kernel_rfl) (by kernel_rfl) (by kernel_rfl) (fun _ _ _ h => h) (Or.inl ⟨by rfl, ?_⟩) (by assumption) ?_
                rotate_left
                · (intro w9 hSw; (try dsimp only at hSw); go_simp; try with_reducible rfl)
                try simp only [Act.put, List.setIfInBounds_toArray]
                refine wpAnyH_take (i := 2) (oi := _) (v := ?_) rfl (by kernel_rfl) (by kernel_rfl) (by kernel_rfl) (fun _ _ _ h => h) (Or.inl ⟨by rfl, ?_⟩) (by assumption) ?_
                rotate_left
                · (intro w9 hSw; (try dsimp only at hSw); go_simp; try with_reducible rfl)
                try simp only [Act.put]
                refine wpAnyH_take (i := 3) (oi := _) (v := ?_) rfl (by kernel_rfl) (by kernel_rfl) (by kernel_rfl) (fun _ _ _ h => h) (Or.inl ⟨by rfl, ?_⟩) (by assumption) ?_
                rotate_left
                · (intro w9 hSw; (try dsimp only at hSw); go_simp; try with_reducible rfl)
                try simp only [Act.put]
                refine wpAnyH_take (i := 4) (oi := _) (v := ?_) rfl (by kernel_rfl) (by kernel_rfl) (by kernel_rfl) (fun _ _ _ h => h) (Or.inl ⟨by rfl, ?_⟩) (by assumption) ?_
                rotate_left
                · (intro w9 hSw; (try dsimp only at hSw); go_simp; try with_reducible rfl)
                try simp only [Act.put]
                refine wpAnyH_ready (rs := [0, 5]) (by kernel_rfl) (by simp) ?_
                refine AllReadyH.cons (o := _) rfl (fun K hK => ?_) ?_
                next =>
                  go_simp
                  refine hK.out _ _ (HS.out) (fun hHeld => ?_)
                  clear hK K
                  try simp only [Act.put, List.setIfInBounds_toArray, List.set_cons_zero, List.set_cons_succ]
                  refine wpAnyH_ready (rs := [5]) (by kernel_rfl) (by simp) ?_
                  refine AllReadyH.cons (o := _) rfl (fun K hK => ?_) ?_
                  rotate_left
                  · exact AllReadyH.nil
                  go_simp
                  (go_at_call 107; refine (HSz.out _).mono ?_; rintro e1 w1 ⟨rfl, hB1⟩; obtain ⟨k0, k1, k2, k3, k4, k5⟩ := c6 (HRow.out w1 hB1); have HB1 := hide hB1; clear hB1; go_wp2_with fail)
                  refine hK.out _ _ (HKp.out w1 HB1.out) (fun hHeld => ?_)
                  clear hK K
                  try simp only [Act.put, List.setIfInBounds_toArray, List.set_cons_zero, List.set_cons_succ]
                  refine wpAnyH_ready (rs := [6]) (by kernel_rfl) (by simp) ?_
                  refine AllReadyH.cons (o := _) rfl (fun K hK => ?_) ?_
                  rotate_left
                  · exact AllReadyH.nil
                  go_simp
                  (go_at_call 106; refine (HPt.out _).mono ?_; rintro e2 w2 ⟨rfl, hB2⟩; have HB2 : Hid (Below wr.drew.heap.size wr.drew w2) := HB1.out.trans (hB2.mono HB1.out.size); obtain ⟨m0, m1, m2, m3, m4, m5⟩ := c6 (HRow.out w2 HB2.out); obtain ⟨n0, n1, n2, n3, n4, n5⟩ := f6 (HRow.out w2 HB2.out); clear hB2; go_wp2_with fail)
                  refine hK.out _ _ (HKp.out w2 HB2.out) (fun hHeld => ?_)
                  clear hK K
                  try simp only [Act.put, List.setIfInBounds_toArray, List.set_cons_zero, List.set_cons_succ]
                  refine wpAnyH_ready (rs := [7]) (by kernel_rfl) (by simp) ?_
                  refine AllReadyH.cons (o := _) rfl (fun K hK => ?_) ?_
                  rotate_left
                  · exact AllReadyH.nil
                  go_simp
                  refine hK.out _ _ (HKs.out w2 HB2.out) (fun hHeld => ?_)
                  clear hK K
                  try simp only [Act.put, List.setIfInBounds_toArray, List.set_cons_zero, List.set_cons_succ]
                  refine wpAnyH_done (by kernel_rfl) ?_ _
                  refine NoPanic.normal ?_
                  clear k0 k1 k2 k3 k4 k5 m0 m1 m2 m3 m4 m5 n0 n1 n2 n3 n4 n5 z0 z1 z2 z3' z4 z5
                  rw [sets6_row (HRow.out w2 HB2.out)]
                  have HZ := hide (HEnd.out w2 HB2.out)
                  clear HEnd HRow HB1 HB2 HS HSz HPt hHeld HKp HKs
                  go_wp2
                  exact ⟨⟨i + 1, Ty.pt A (Kt.siz z), by omega, by go_num, HZ.out.1, HZ.out.2⟩, by simp [intOf]; omega⟩
                next =>
                  refine AllReadyH.cons (o := _) rfl (fun K hK => ?_) ?_
                  rotate_left
                  · exact AllReadyH.nil
                  go_simp
                  (go_at_call 107; refine (HSz.out _).mono ?_; rintro e1 w1 ⟨rfl, hB1⟩; obtain ⟨k0, k1, k2, k3, k4, k5⟩ := c6 (HRow.out w1 hB1); have HB1 := hide hB1; clear hB1; go_wp2_with fail)
                  refine hK.out _ _ (HKp.out w1 HB1.out) (fun hHeld => ?_)
                  clear hK K
                  try simp only [Act.put, List.setIfInBounds_toArray, List.set_cons_zero, List.set_cons_succ]
                  refine wpAnyH_ready (rs := [0]) (by kernel_rfl) (by simp) ?_
                  refine AllReadyH.cons (o := _) rfl (fun K hK => ?_) ?_
                  rotate_left
                  · exact AllReadyH.nil
                  go_simp
                  refine hK.out _ _ (HKp.out w1 HB1.out) (fun hHeld => ?_)
                  clear hK K
                  try simp only [Act.put, List.setIfInBounds_toArray, List.set_cons_zero, List.set_cons_succ]
                  refine wpAnyH_ready (rs := [6]) (by kernel_rfl) (by simp) ?_
                  refine AllReadyH.cons (o := _) rfl (fun K hK => ?_) ?_
                  rotate_left
                  · exact AllReadyH.nil
                  go_simp
                  (go_at_call 106; refine (HPt.out _).mono ?_; rintro e2 w2 ⟨rfl, hB2⟩; have HB2 : Hid (Below wr.drew.heap.size wr.drew w2) := HB1.out.trans (hB2.mono HB1.out.size); obtain ⟨m0, m1, m2, m3, m4, m5⟩ := c6 (HRow.out w2 HB2.out); obtain ⟨n0, n1, n2, n3, n4, n5⟩ := f6 (HRow.out w2 HB2.out); clear hB2; go_wp2_with fail)
                  refine hK.out _ _ (HKp.out w2 HB2.out) (fun hHeld => ?_)
                  clear hK K
                  try simp only [Act.put, List.setIfInBounds_toArray, List.set_cons_zero, List.set_cons_succ]
                  refine wpAnyH_ready (rs := [7]) (by kernel_rfl) (by simp) ?_
                  refine AllReadyH.cons (o := _) rfl (fun K hK => ?_) ?_
                  rotate_left
                  · exact AllReadyH.nil
                  go_simp
                  refine hK.out _ _ (HKs.out w2 HB2.out) (fun hHeld => ?_)
                  clear hK K
                  try simp only [Act.put, List.setIfInBounds_toArray, List.set_cons_zero, List.set_cons_succ]
                  refine wpAnyH_done (by kernel_rfl) ?_ _
                  refine NoPanic.normal ?_
                  clear k0 k1 k2 k3 k4 k5 m0 m1 m2 m3 m4 m5 n0 n1 n2 n3 n4 n5 z0 z1 z2 z3' z4 z5
                  rw [sets6_row (HRow.out w2 HB2.out)]
                  have HZ := hide (HEnd.out w2 HB2.out)
                  clear HEnd HRow HB1 HB2 HS HSz HPt hHeld HKp HKs
                  go_wp2
                  exact ⟨⟨i + 1, Ty.pt A (Kt.siz z), by omega, by go_num, HZ.out.1, HZ.out.2⟩, by simp [intOf]; omega⟩
              · have HA0 := at0 wr (.cells (Ty.st (fun _ => 0)) 59)
                have HQ0 := hide HA0
                have HT0 : Hid (Hs w n g (itr L (fst s) k) (wr.alloc (.cells (Ty.st (fun _ => 0)) 59))) := HH.out.on (X := fun _ => False) (Ch.of (b1 _ _ _)) (fun _ _ h => h)
                have HM0 : Hid ((wr.alloc (.cells (Ty.st (fun _ => 0)) 59)).heap[W3.heap.size]? = some (.cells (Ty.sm A) 159 (0, 0))) := keep _ HM.out
                have hml := lt_of_some HM.out
                have hgw := HH.out.gr
                have hbw := HH.out.b.size
                clear HH HM HA0
                generalize hW4 : wr = W4 at *
                clear hW4
                go_wp2_with (fail)
                go_loopw [20] (fun v wr => ∃ (i : Nat) (f : Nat → Int), i ≤ 6 ∧ v = .int .i64 i ∧ Hid (Hs w n g (itr L (fst s) k) wr) ∧ Hid (wr.heap[W3.heap.size]? = some (.cells (Ty.sm A) 159 (0, 0))) ∧ Hid (wr.heap[W4.heap.size]? = some (.cells (Ty.st f) 59 (0, 0)))) (fun v _ => 6 - (intOf v).toNat)
                case atStart => exact ⟨0, _, by omega, rfl, HT0, HM0, HQ0⟩
                case round =>
                  clear HT0 HM0 HQ0
                  obtain ⟨i, f, hi6, rfl, HH, HM, HQ⟩ := hrel
                  by_cases cc8 : i < 6
                  · have q0 := (cell_of_row _ _ i _ _ _ HM.out).trans (sm_get A i cc8)
                    have q1 := (cell_of_row _ _ i _ _ _ HQ.out).trans (st_get f i (by omega))
                    have q2 : wr.frozen? ⟨W4.heap.size, i, none⟩ = false := frozen_of_row _ _ _ _ _ HQ.out
                    have HE8 : Hid (Hs w n g (itr L (fst s) k) (wr.setCell ⟨W4.heap.size, i, none⟩ (.int .u64 (Ty.wd A i))) ∧ Hid ((wr.setCell ⟨W4.heap.size, i, none⟩ (.int .u64 (Ty.wd A i))).heap[W3.heap.size]? = some (.cells (Ty.sm A) 159 (0, 0))) ∧ Hid ((wr.setCell ⟨W4.heap.size, i, none⟩ (.int .u64 (Ty.wd A i))).heap[W4.heap.size]? = some (.cells (Ty.st (Ty.up1 f i (Ty.wd A i))) 59 (0, 0)))) := by
                      refine ⟨HH.out.on (X := fun k => k = W4.heap.size) ((Ch.refl _ _).set _ _ (Or.inl rfl)) (fun k h9 => by omega), (Below.heap_setCell _ _ _ _ (by show W3.heap.size ≠ W4.heap.size; omega)).trans HM.out, ?_⟩
                      show _ = _
                      rw [setCell_eq_setRow wr W4.heap.size i _ 59 (0, 0) _ HQ.out, st_set f i (by omega)]
                      exact setRow_heap _ _ _ _ _ _ HQ.out
                    clear HH HM HQ
                    generalize Ty.wd A i = wv at *
                    go_wp2
                    exact ⟨⟨i + 1, _, by omega, by go_num, HE8.out.1, HE8.out.2.1, HE8.out.2.2⟩, by simp [intOf]; omega⟩
                  · obtain ⟨x0, x1, x2, x3, x4, x5, x6, x7, hx⟩ := Ty.st_open f
                    have hrow := HH.out.r
                    have harow := HQ.out
                    rw [hx] at harow
                    have HS : Hid (R8f W4.heap.size x0 x1 x2 x3 x4 x5 x6 x7 wr.drew) := R8f.dr harow
                    have HS2 : Hid (∀ y0 y1 y2 y3 y4 y5 y6 y7 : Value, R8f W4.heap.size x0 x1 x2 x3 x4 x5 x6 x7 ((((((((wr.setCell ⟨w.heap.size, 0, none⟩ y0).setCell ⟨w.heap.size, 1, none⟩ y1).setCell ⟨w.heap.size, 2, none⟩ y2).setCell ⟨w.heap.size, 3, none⟩ y3).setCell ⟨w.heap.size, 4, none⟩ y4).setCell ⟨w.heap.size, 5, none⟩ y5).setCell ⟨w.heap.size, 6, none⟩ y6).setCell ⟨w.heap.size, 7, none⟩ y7).drew) := fun y0 y1 y2 y3 y4 y5 y6 y7 => R8f.dr ((sets8_other (w := wr) (by omega) y0 y1 y2 y3 y4 y5 y6 y7).trans harow)
                    obtain ⟨z0, z1, z2, z3', z4, z5, z6, z7⟩ := c8 (w := wr) hrow
                    have fz : ∀ j, wr.frozen? ⟨w.heap.size, j, none⟩ = false := fun j => frozen_of_row _ _ _ _ _ hrow
                    have f0 := fz 0
                    have f1 := fz 1
                    have f2 := fz 2
                    have f3 := fz 3
                    have f4 := fz 4
                    have f5 := fz 5
                    have f6 := fz 6
                    have f7 := fz 7
                    have HR := hide hrow
                    have HG := hide HH.out.g
                    have HB := hide HH.out.b
                    have hgo := HH.out.o
                    have HX := hide hx
                    clear fz hrow harow hx HH HM HQ
                    go_wp2_with (fail)
                    go_region_held3 (R8f W4.heap.size x0 x1 x2 x3 x4 x5 x6 x7) ((first | with_reducible exact HS.out | with_reducible exact HS2.out _ _ _ _ _ _ _ _)) ((fail))
                    rw [sets8_row HR.out]
                    have hq : (wr.setRow w.heap.size (Ty.st f)).drew.heap[w.heap.size]? = some (.cells (Ty.st f) 59 (0, 0)) := setRow_heap _ _ _ _ _ _ HR.out
                    rw [HX.out] at hq
                    have HH : Hid (GU (wr.setRow w.heap.size #[.int .u64 x0, .int .u64 x1, .int .u64 x2, .int .u64 x3, .int .u64 x4, .int .u64 x5, .int .u64 x6, .int .u64 x7]).drew g n (itr L (fst s) k) ∧ Below w.heap.size w (wr.setRow w.heap.size #[.int .u64 x0, .int .u64 x1, .int .u64 x2, .int .u64 x3, .int .u64 x4, .int .u64 x5, .int .u64 x6, .int .u64 x7]).drew) := ⟨(HG.out.of (setRow_other _ _ _ _ (by omega))).of rfl, belowD (below_setRow HB.out (Nat.le_refl _) _)⟩
                    have hld := run_loadVar_row (P := Tryz.prog) _ _ 59 59 _ (0, 0) _ hq Tryz.underlying59 rfl Ty.sizeState
                    generalize (wr.setRow w.heap.size #[.int .u64 x0, .int .u64 x1, .int .u64 x2, .int .u64 x3, .int .u64 x4, .int .u64 x5, .int .u64 x6, .int .u64 x7]).drew = W9 at *
                    clear hq z0 z1 z2 z3' z4 z5 z6 z7 f0 f1 f2 f3 f4 f5 f6 f7 HS HS2 HR HG HB
                    go_wp2
                    refine bodyPost_ret (v := .tuple #[.slice (some ⟨g, 0, none⟩) n cp, .agg #[.int .u64 x0, .int .u64 x1, .int .u64 x2, .int .u64 x3, .int .u64 x4, .int .u64 x5, .int .u64 x6, .int .u64 x7]]) ?_ rfl ⟨g, cp, f, by rw [HX.out], HH.out.1, HH.out.2⟩
                    simp [results, Tryz.results54, asAddr, hld]
          | true =>
            generalize hW3 : wr = W3 at *
            clear hW3
            have HWi := hide (itr_b L (fst_b s) k)
            have hgl := HHe.out.gr
            have hbl := HHe.out.b.size
            have HS0 : Hid ((W3.alloc (.cells #[.int .u64 0, .int .u64 0, .int .u64 0, .int .u64 0, .int .u64 0, .int .u64 0] 159)).heap[W3.heap.size]? = some (.cells (Ty.sm 0) 159 (0, 0))) := by
              show _ = _
              rw [sm_zero]; exact at0 _ _
            have HT0 : Hid (Hs w n g (itr L (fst s) k) (W3.alloc (.cells #[.int .u64 0, .int .u64 0, .int .u64 0, .int .u64 0, .int .u64 0, .int .u64 0] 159))) := HHe.out.on (X := fun _ => False) (Ch.of (b1 _ _ _)) (fun _ _ h => h)
            have hsW : w.heap.size < W3.heap.size := lt_of_some HHe.out.r
            clear HHe
            go_wp2_with (fail)
            go_loopw [18] (fun v wr => ∃ (i : Nat) (A : Int), i ≤ n ∧ v = .int .i64 i ∧ Hid (Hs w n g (itr L (fst s) k) wr) ∧ Hid (wr.heap[W3.heap.size]? = some (.cells (Ty.sm A) 159 (0, 0)))) (fun v _ => n - (intOf v).toNat)
            case atStart => exact ⟨0, 0, Nat.zero_le _, rfl, HT0, HS0⟩
            case round =>
              clear HT0 HS0
              obtain ⟨i, A, hi, rfl, HH, HM⟩ := hrel
              by_cases cc9 : i < n
              · obtain ⟨z, hz⟩ : ∃ z, itr L (fst s) k i = z := ⟨_, rfl⟩
                have hzb := HWi.out i
                rw [hz] at hzb
                have HSz := hide (Kt.rsize_any z hzb.1 hzb.2)
                have hsb := siz_b z
                have HPt := hide (Ty.rput_any A (Kt.siz z) hsb.1 hsb.2)
                obtain ⟨x0, x1, x2, x3, x4, x5, hx⟩ := sm_open A
                obtain ⟨y0, y1, y2, y3, y4, y5, hy⟩ := sm_open (Ty.pt A (Kt.siz z))
                have HS : Hid (S23d g i z wr.drew) := by
                  show wr.drew.cell? _ = _
                  rw [← hz]; exact HH.out.g.cell i cc9
                have HKp : Hid (∀ W, Below wr.drew.heap.size wr.drew W → S23d g i z W) := fun W hW => by
                  rw [S23d, ← hz]; exact (HH.out.g.of (w' := W) (hW.block _ HH.out.g.lt)).cell i cc9
                have HRow : Hid (∀ W, Below wr.drew.heap.size wr.drew W → W.heap[W3.heap.size]? = some (.cells #[.int .u64 x0, .int .u64 x1, .int .u64 x2, .int .u64 x3, .int .u64 x4, .int .u64 x5] 159 (0, 0))) := fun W hW => by
                  rw [← hx]; exact (hW.block _ (lt_of_some HM.out)).trans HM.out
                have HKs : Hid (∀ w2, Below wr.drew.heap.size wr.drew w2 → S23d g i z ((((((w2.setCell ⟨W3.heap.size, 0, none⟩ (.int .u64 y0)).setCell ⟨W3.heap.size, 1, none⟩ (.int .u64 y1)).setCell ⟨W3.heap.size, 2, none⟩ (.int .u64 y2)).setCell ⟨W3.heap.size, 3, none⟩ (.int .u64 y3)).setCell ⟨W3.heap.size, 4, none⟩ (.int .u64 y4)).setCell ⟨W3.heap.size, 5, none⟩ (.int .u64 y5))) := fun w2 hW => by
                  rw [S23d, ← hz]; exact (HH.out.g.of (w' := ((((((w2.setCell ⟨W3.heap.size, 0, none⟩ (.int .u64 y0)).setCell ⟨W3.heap.size, 1, none⟩ (.int .u64 y1)).setCell ⟨W3.heap.size, 2, none⟩ (.int .u64 y2)).setCell ⟨W3.heap.size, 3, none⟩ (.int .u64 y3)).setCell ⟨W3.heap.size, 4, none⟩ (.int .u64 y4)).setCell ⟨W3.heap.size, 5, none⟩ (.int .u64 y5))) ((sets6_other (Nat.ne_of_lt hgl) _ _ _ _ _ _).trans (hW.block _ HH.out.g.lt))).cell i cc9
                have HEnd : Hid (∀ w2, Below wr.drew.heap.size wr.drew w2 → Hid (Hs w n g (itr L (fst s) k) (w2.setRow W3.heap.size #[.int .u64 y0, .int .u64 y1, .int .u64 y2, .int .u64 y3, .int .u64 y4, .int .u64 y5])) ∧ Hid ((w2.setRow W3.heap.size #[.int .u64 y0, .int .u64 y1, .int .u64 y2, .int .u64 y3, .int .u64 y4, .int .u64 y5]).heap[W3.heap.size]? = some (.cells (Ty.sm (Ty.pt A (Kt.siz z))) 159 (0, 0)))) := fun w2 hW => by
                  have hr := (hW.block _ (lt_of_some HM.out)).trans HM.out
                  refine ⟨HH.out.on (X := fun k => k = W3.heap.size) (((Ch.refl _ wr).drew.trans (Ch.of hW)).row _ (Or.inl rfl)) (fun k h9 => by omega), ?_⟩
                  show _ = _
                  rw [hy]
                  exact setRow_heap _ _ _ _ _ _ hr
                obtain ⟨z0, z1, z2, z3', z4, z5⟩ := c6 (w := wr) (HRow.out wr.drew (Below.refl _ _))
                rw [hx, hy] at HPt
                clear HH HM hx hy hz hsb
                go_wp2_with (fail)
                refine wp_region_noPanic ?_
                refine wp_region_held_drew (S := S23d g i z) (by kernel_rfl) (HS.out) (fun hHeld => ?_)
                refine wpAnyH_take (i := 1) (oi := _) (v := ?_) rfl (by kernel_rfl) (by kernel_rfl) (by kernel_rfl) (fun _ _ _ h => h) (Or.inl ⟨by rfl, ?_⟩) (by assumption) ?_
                rotate_left
                · (intro w9 hSw; (try dsimp only at hSw); go_simp; try with_reducible rfl)
                try simp only [Act.put, List.setIfInBounds_toArray]
                refine wpAnyH_take (i := 2) (oi := _) (v := ?_) rfl (by kernel_rfl) (by kernel_rfl) (by kernel_rfl) (fun _ _ _ h => h) (Or.inl ⟨by rfl, ?_⟩) (by assumption) ?_
                rotate_left
                · (intro w9 hSw; (try dsimp only at hSw); go_simp; try with_reducible rfl)
                try simp only [Act.put]
                refine wpAnyH_take (i := 3) (oi := _) (v := ?_) rfl (by kernel_rfl) (by kernel_rfl) (by kernel_rfl) (fun _ _ _ h => h) (Or.inl ⟨by rfl, ?_⟩) (by assumption) ?_
                rotate_left
                · (intro w9 hSw; (try dsimp only at hSw); go_simp; try with_reducible rfl)
                try simp only [Act.put]
                refine wpAnyH_take (i := 4) (oi := _) (v := ?_) rfl (by kernel_rfl) (by kernel_rfl) (by kernel_rfl) (fun _ _ _ h => h) (Or.inl ⟨by rfl, ?_⟩) (by assumption) ?_
                rotate_left
                · (intro w9 hSw; (try dsimp only at hSw); go_simp; try with_reducible rfl)
                try simp only [Act.put]
                refine wpAnyH_ready (rs := [0, 5]) (by kernel_rfl) (by simp) ?_
                refine AllReadyH.cons (o := _) rfl (fun K hK => ?_) ?_
                next =>
                  go_simp
                  refine hK.out _ _ (HS.out) (fun hHeld => ?_)
                  clear hK K
                  try simp only [Act.put, List.setIfInBounds_toArray, List.set_cons_zero, List.set_cons_succ]
                  refine wpAnyH_ready (rs := [5]) (by kernel_rfl) (by simp) ?_
                  refine AllReadyH.cons (o := _) rfl (fun K hK => ?_) ?_
                  rotate_left
                  · exact AllReadyH.nil
                  go_simp
                  (go_at_call 107; refine (HSz.out _).mono ?_; rintro e1 w1 ⟨rfl, hB1⟩; obtain ⟨k0, k1, k2, k3, k4, k5⟩ := c6 (HRow.out w1 hB1); have HB1 := hide hB1; clear hB1; go_wp2_with fail)
                  refine hK.out _ _ (HKp.out w1 HB1.out) (fun hHeld => ?_)
                  clear hK K
                  try simp only [Act.put, List.setIfInBounds_toArray, List.set_cons_zero, List.set_cons_succ]
                  refine wpAnyH_ready (rs := [6]) (by kernel_rfl) (by simp) ?_
                  refine AllReadyH.cons (o := _) rfl (fun K hK => ?_) ?_
                  rotate_left
                  · exact AllReadyH.nil
                  go_simp
                  (go_at_call 106; refine (HPt.out _).mono ?_; rintro e2 w2 ⟨rfl, hB2⟩; have HB2 : Hid (Below wr.drew.heap.size wr.drew w2) := HB1.out.trans (hB2.mono HB1.out.size); obtain ⟨m0, m1, m2, m3, m4, m5⟩ := c6 (HRow.out w2 HB2.out); obtain ⟨n0, n1, n2, n3, n4, n5⟩ := f6 (HRow.out w2 HB2.out); clear hB2; go_wp2_with fail)
                  refine hK.out _ _ (HKp.out w2 HB2.out) (fun hHeld => ?_)
                  clear hK K
                  try simp only [Act.put, List.setIfInBounds_toArray, List.set_cons_zero, List.set_cons_succ]
                  refine wpAnyH_ready (rs := [7]) (by kernel_rfl) (by simp) ?_
                  refine AllReadyH.cons (o := _) rfl (fun K hK => ?_) ?_
                  rotate_left
                  · exact AllReadyH.nil
                  go_simp
                  refine hK.out _ _ (HKs.out w2 HB2.out) (fun hHeld => ?_)
                  clear hK K
                  try simp only [Act.put, List.setIfInBounds_toArray, List.set_cons_zero, List.set_cons_succ]
                  refine wpAnyH_done (by kernel_rfl) ?_ _
                  refine NoPanic.normal ?_
                  clear k0 k1 k2 k3 k4 k5 m0 m1 m2 m3 m4 m5 n0 n1 n2 n3 n4 n5 z0 z1 z2 z3' z4 z5
                  rw [sets6_row (HRow.out w2 HB2.out)]
                  have HZ := hide (HEnd.out w2 HB2.out)
                  clear HEnd HRow HB1 HB2 HS HSz HPt hHeld HKp HKs
                  go_wp2
                  exact ⟨⟨i + 1, Ty.pt A (Kt.siz z), by omega, by go_num, HZ.out.1, HZ.out.2⟩, by simp [intOf]; omega⟩
                next =>
                  refine AllReadyH.cons (o := _) rfl (fun K hK => ?_) ?_
                  rotate_left
                  · exact AllReadyH.nil
                  go_simp
                  (go_at_call 107; refine (HSz.out _).mono ?_; rintro e1 w1 ⟨rfl, hB1⟩; obtain ⟨k0, k1, k2, k3, k4, k5⟩ := c6 (HRow.out w1 hB1); have HB1 := hide hB1; clear hB1; go_wp2_with fail)
                  refine hK.out _ _ (HKp.out w1 HB1.out) (fun hHeld => ?_)
                  clear hK K
                  try simp only [Act.put, List.setIfInBounds_toArray, List.set_cons_zero, List.set_cons_succ]
                  refine wpAnyH_ready (rs := [0]) (by kernel_rfl) (by simp) ?_
                  refine AllReadyH.cons (o := _) rfl (fun K hK => ?_) ?_
                  rotate_left
                  · exact AllReadyH.nil
                  go_simp
                  refine hK.out _ _ (HKp.out w1 HB1.out) (fun hHeld => ?_)
                  clear hK K
                  try simp only [Act.put, List.setIfInBounds_toArray, List.set_cons_zero, List.set_cons_succ]
                  refine wpAnyH_ready (rs := [6]) (by kernel_rfl) (by simp) ?_
                  refine AllReadyH.cons (o := _) rfl (fun K hK => ?_) ?_
                  rotate_left
                  · exact AllReadyH.nil
                  go_simp
                  (go_at_call 106; refine (HPt.out _).mono ?_; rintro e2 w2 ⟨rfl, hB2⟩; have HB2 : Hid (Below wr.drew.heap.size wr.drew w2) := HB1.out.trans (hB2.mono HB1.out.size); obtain ⟨m0, m1, m2, m3, m4, m5⟩ := c6 (HRow.out w2 HB2.out); obtain ⟨n0, n1, n2, n3, n4, n5⟩ := f6 (HRow.out w2 HB2.out); clear hB2; go_wp2_with fail)
                  refine hK.out _ _ (HKp.out w2 HB2.out) (fun hHeld => ?_)
                  clear hK K
                  try simp only [Act.put, List.setIfInBounds_toArray, List.set_cons_zero, List.set_cons_succ]
                  refine wpAnyH_ready (rs := [7]) (by kernel_rfl) (by simp) ?_
                  refine AllReadyH.cons (o := _) rfl (fun K hK => ?_) ?_
                  rotate_left
                  · exact AllReadyH.nil
                  go_simp
                  refine hK.out _ _ (HKs.out w2 HB2.out) (fun hHeld => ?_)
                  clear hK K
                  try simp only [Act.put, List.setIfInBounds_toArray, List.set_cons_zero, List.set_cons_succ]
                  refine wpAnyH_done (by kernel_rfl) ?_ _
                  refine NoPanic.normal ?_
                  clear k0 k1 k2 k3 k4 k5 m0 m1 m2 m3 m4 m5 n0 n1 n2 n3 n4 n5 z0 z1 z2 z3' z4 z5
                  rw [sets6_row (HRow.out w2 HB2.out)]
                  have HZ := hide (HEnd.out w2 HB2.out)
                  clear HEnd HRow HB1 HB2 HS HSz HPt hHeld HKp HKs
                  go_wp2
                  exact ⟨⟨i + 1, Ty.pt A (Kt.siz z), by omega, by go_num, HZ.out.1, HZ.out.2⟩, by simp [intOf]; omega⟩
              · have HA0 := at0 wr (.cells (Ty.st (fun _ => 0)) 59)
                have HQ0 := hide HA0
                have HT0 : Hid (Hs w n g (itr L (fst s) k) (wr.alloc (.cells (Ty.st (fun _ => 0)) 59))) := HH.out.on (X := fun _ => False) (Ch.of (b1 _ _ _)) (fun _ _ h => h)
                have HM0 : Hid ((wr.alloc (.cells (Ty.st (fun _ => 0)) 59)).heap[W3.heap.size]? = some (.cells (Ty.sm A) 159 (0, 0))) := keep _ HM.out
                have hml := lt_of_some HM.out
                have hgw := HH.out.gr
                have hbw := HH.out.b.size
                clear HH HM HA0
                generalize hW4 : wr = W4 at *
                clear hW4
                go_wp2_with (fail)
                go_loopw [20] (fun v wr => ∃ (i : Nat) (f : Nat → Int), i ≤ 6 ∧ v = .int .i64 i ∧ Hid (Hs w n g (itr L (fst s) k) wr) ∧ Hid (wr.heap[W3.heap.size]? = some (.cells (Ty.sm A) 159 (0, 0))) ∧ Hid (wr.heap[W4.heap.size]? = some (.cells (Ty.st f) 59 (0, 0)))) (fun v _ => 6 - (intOf v).toNat)
                case atStart => exact ⟨0, _, by omega, rfl, HT0, HM0, HQ0⟩
                case round =>
                  clear HT0 HM0 HQ0
                  obtain ⟨i, f, hi6, rfl, HH, HM, HQ⟩ := hrel
                  by_cases cc8 : i < 6
                  · have q0 := (cell_of_row _ _ i _ _ _ HM.out).trans (sm_get A i cc8)
                    have q1 := (cell_of_row _ _ i _ _ _ HQ.out).trans (st_get f i (by omega))
                    have q2 : wr.frozen? ⟨W4.heap.size, i, none⟩ = false := frozen_of_row _ _ _ _ _ HQ.out
                    have HE8 : Hid (Hs w n g (itr L (fst s) k) (wr.setCell ⟨W4.heap.size, i, none⟩ (.int .u64 (Ty.wd A i))) ∧ Hid ((wr.setCell ⟨W4.heap.size, i, none⟩ (.int .u64 (Ty.wd A i))).heap[W3.heap.size]? = some (.cells (Ty.sm A) 159 (0, 0))) ∧ Hid ((wr.setCell ⟨W4.heap.size, i, none⟩ (.int .u64 (Ty.wd A i))).heap[W4.heap.size]? = some (.cells (Ty.st (Ty.up1 f i (Ty.wd A i))) 59 (0, 0)))) := by
                      refine ⟨HH.out.on (X := fun k => k = W4.heap.size) ((Ch.refl _ _).set _ _ (Or.inl rfl)) (fun k h9 => by omega), (Below.heap_setCell _ _ _ _ (by show W3.heap.size ≠ W4.heap.size; omega)).trans HM.out, ?_⟩
                      show _ = _
                      rw [setCell_eq_setRow wr W4.heap.size i _ 59 (0, 0) _ HQ.out, st_set f i (by omega)]
                      exact setRow_heap _ _ _ _ _ _ HQ.out
                    clear HH HM HQ
                    generalize Ty.wd A i = wv at *
                    go_wp2
                    exact ⟨⟨i + 1, _, by omega, by go_num, HE8.out.1, HE8.out.2.1, HE8.out.2.2⟩, by simp [intOf]; omega⟩
                  · obtain ⟨x0, x1, x2, x3, x4, x5, x6, x7, hx⟩ := Ty.st_open f
                    have hrow := HH.out.r
                    have harow := HQ.out
                    rw [hx] at harow
                    have HS : Hid (R8f W4.heap.size x0 x1 x2 x3 x4 x5 x6 x7 wr.drew) := R8f.dr harow
                    have HS2 : Hid (∀ y0 y1 y2 y3 y4 y5 y6 y7 : Value, R8f W4.heap.size x0 x1 x2 x3 x4 x5 x6 x7 ((((((((wr.setCell ⟨w.heap.size, 0, none⟩ y0).setCell ⟨w.heap.size, 1, none⟩ y1).setCell ⟨w.heap.size, 2, none⟩ y2).setCell ⟨w.heap.size, 3, none⟩ y3).setCell ⟨w.heap.size, 4, none⟩ y4).setCell ⟨w.heap.size, 5, none⟩ y5).setCell ⟨w.heap.size, 6, none⟩ y6).setCell ⟨w.heap.size, 7, none⟩ y7).drew) := fun y0 y1 y2 y3 y4 y5 y6 y7 => R8f.dr ((sets8_other (w := wr) (by omega) y0 y1 y2 y3 y4 y5 y6 y7).trans harow)
                    obtain ⟨z0, z1, z2, z3', z4, z5, z6, z7⟩ := c8 (w := wr) hrow
                    have fz : ∀ j, wr.frozen? ⟨w.heap.size, j, none⟩ = false := fun j => frozen_of_row _ _ _ _ _ hrow
                    have f0 := fz 0
                    have f1 := fz 1
                    have f2 := fz 2
                    have f3 := fz 3
                    have f4 := fz 4
                    have f5 := fz 5
                    have f6 := fz 6
                    have f7 := fz 7
                    have HR := hide hrow
                    have HG := hide HH.out.g
                    have HB := hide HH.out.b
                    have hgo := HH.out.o
                    have HX := hide hx
                    clear fz hrow harow hx HH HM HQ
                    go_wp2_with (fail)
                    go_region_held3 (R8f W4.heap.size x0 x1 x2 x3 x4 x5 x6 x7) ((first | with_reducible exact HS.out | with_reducible exact HS2.out _ _ _ _ _ _ _ _)) ((fail))
                    rw [sets8_row HR.out]
                    have hq : (wr.setRow w.heap.size (Ty.st f)).drew.heap[w.heap.size]? = some (.cells (Ty.st f) 59 (0, 0)) := setRow_heap _ _ _ _ _ _ HR.out
                    rw [HX.out] at hq
                    have HH : Hid (GU (wr.setRow w.heap.size #[.int .u64 x0, .int .u64 x1, .int .u64 x2, .int .u64 x3, .int .u64 x4, .int .u64 x5, .int .u64 x6, .int .u64 x7]).drew g n (itr L (fst s) k) ∧ Below w.heap.size w (wr.setRow w.heap.size #[.int .u64 x0, .int .u64 x1, .int .u64 x2, .int .u64 x3, .int .u64 x4, .int .u64 x5, .int .u64 x6, .int .u64 x7]).drew) := ⟨(HG.out.of (setRow_other _ _ _ _ (by omega))).of rfl, belowD (below_setRow HB.out (Nat.le_refl _) _)⟩
                    have hld := run_loadVar_row (P := Tryz.prog) _ _ 59 59 _ (0, 0) _ hq Tryz.underlying59 rfl Ty.sizeState
                    generalize (wr.setRow w.heap.size #[.int .u64 x0, .int .u64 x1, .int .u64 x2, .int .u64 x3, .int .u64 x4, .int .u64 x5, .int .u64 x6, .int .u64 x7]).drew = W9 at *
                    clear hq z0 z1 z2 z3' z4 z5 z6 z7 f0 f1 f2 f3 f4 f5 f6 f7 HS HS2 HR HG HB
                    go_wp2
                    refine bodyPost_ret (v := .tuple #[.slice (some ⟨g, 0, none⟩) n cp, .agg #[.int .u64 x0, .int .u64 x1, .int .u64 x2, .int .u64 x3, .int .u64 x4, .int .u64 x5, .int .u64 x6, .int .u64 x7]]) ?_ rfl ⟨g, cp, f, by rw [HX.out], HH.out.1, HH.out.2⟩
                    simp [results, Tryz.results54, asAddr, hld]
end Au
end Go.Proofs.YtgoigcpdfecfhaaGreatDoor
