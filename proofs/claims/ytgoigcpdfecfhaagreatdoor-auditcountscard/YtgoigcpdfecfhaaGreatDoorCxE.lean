import Derived.Test.YtgoigcpdfecfhaaGreatDoorCxD
namespace Go.Proofs.YtgoigcpdfecfhaaGreatDoor
namespace Au
open Go.RowKit
set_option linter.unusedVariables false
set_option maxRecDepth 8000
abbrev a8 (x y z : Int) : Array Value := #[.int .u64 x, .int .u64 y, .int .u64 z, .int .u64 0, .int .u64 0, .int .u64 0, .int .u64 0, .int .u64 0]
/-- What the document's count carries. -/
structure Cd (w : World) (n : Nat) (P : Nat → Int) (x y z : Int) (W : World) : Prop where
  r : W.heap[w.heap.size]? = some (.cells z8 59 (0, 0))
  a : W.heap[w.heap.size + 1]? = some (.cells (a8 x y z) 59 (0, 0))
  g : GU W (w.heap.size + 1 + 1) n P
  b : Below w.heap.size w W
theorem Cd.t {w : World} {n : Nat} {P : Nat → Int} {x y z : Int} {W : World} (h : Cd w n P x y z W) (j : Nat) (v : Int) : Cd w n (up P j v) x y z (W.setCell ⟨w.heap.size + 1 + 1, j, none⟩ (.int .u64 v)) := by
  obtain ⟨e, C, hC⟩ := h.g.set j v
  refine ⟨?_, ?_, e, ?_⟩
  · rw [hC, setRow_other _ _ _ _ (by omega)]; exact h.r
  · rw [hC, setRow_other _ _ _ _ (by omega)]; exact h.a
  · rw [hC]; exact below_setRow h.b (by omega) _
theorem Cd.s {w : World} {n : Nat} {P : Nat → Int} {x y z : Int} {W : World} (h : Cd w n P x y z W) (j : Nat) (v x' y' z' : Int) (e : (a8 x y z).setIfInBounds j (.int .u64 v) = a8 x' y' z') : Cd w n P x' y' z' (W.setCell ⟨w.heap.size + 1, j, none⟩ (.int .u64 v)) := by
  rw [setCell_eq_setRow W (w.heap.size + 1) j _ 59 (0, 0) _ h.a, e]
  refine ⟨?_, setRow_heap _ _ _ _ _ _ h.a, h.g.of (setRow_other _ _ _ _ (by omega)), below_setRow h.b (by omega) _⟩
  rw [setRow_other _ _ _ _ (by omega)]; exact h.r
theorem Cd.k {w : World} {n : Nat} {P : Nat → Int} {x y z : Int} {W : World} (h : Cd w n P x y z W) : (W.cell? ⟨w.heap.size + 1, 0, none⟩ = some (.int .u64 x) ∧ W.cell? ⟨w.heap.size + 1, 1, none⟩ = some (.int .u64 y) ∧ W.cell? ⟨w.heap.size + 1, 2, none⟩ = some (.int .u64 z)) ∧ W.frozen? ⟨w.heap.size + 1, 0, none⟩ = false ∧ W.frozen? ⟨w.heap.size + 1, 1, none⟩ = false ∧ W.frozen? ⟨w.heap.size + 1, 2, none⟩ = false :=
  ⟨⟨(cell_of_row _ _ _ _ _ _ h.a).trans rfl, (cell_of_row _ _ _ _ _ _ h.a).trans rfl, (cell_of_row _ _ _ _ _ _ h.a).trans rfl⟩, frozen_of_row _ _ _ _ _ h.a, frozen_of_row _ _ _ _ _ h.a, frozen_of_row _ _ _ _ _ h.a⟩
theorem c8 {w : World} {b : Nat} {t : TypeId} {c0 c1 c2 c3 c4 c5 c6 c7 : Value} (h : w.heap[b]? = some (.cells #[c0, c1, c2, c3, c4, c5, c6, c7] t (0, 0))) : w.cell? ⟨b, 0, none⟩ = some c0 ∧ w.cell? ⟨b, 1, none⟩ = some c1 ∧ w.cell? ⟨b, 2, none⟩ = some c2 ∧ w.cell? ⟨b, 3, none⟩ = some c3 ∧ w.cell? ⟨b, 4, none⟩ = some c4 ∧ w.cell? ⟨b, 5, none⟩ = some c5 ∧ w.cell? ⟨b, 6, none⟩ = some c6 ∧ w.cell? ⟨b, 7, none⟩ = some c7 :=
  ⟨(cell_of_row _ _ _ _ _ _ h).trans rfl, (cell_of_row _ _ _ _ _ _ h).trans rfl, (cell_of_row _ _ _ _ _ _ h).trans rfl, (cell_of_row _ _ _ _ _ _ h).trans rfl, (cell_of_row _ _ _ _ _ _ h).trans rfl, (cell_of_row _ _ _ _ _ _ h).trans rfl, (cell_of_row _ _ _ _ _ _ h).trans rfl, (cell_of_row _ _ _ _ _ _ h).trans rfl⟩
abbrev R8 (b : Nat) (p q r : Int) (w : World) : Prop := w.cell? ⟨b, 0, none⟩ = some (.int .u64 p) ∧ w.cell? ⟨b, 1, none⟩ = some (.int .u64 q) ∧ w.cell? ⟨b, 2, none⟩ = some (.int .u64 r) ∧ w.cell? ⟨b, 3, none⟩ = some (.int .u64 0) ∧ w.cell? ⟨b, 4, none⟩ = some (.int .u64 0) ∧ w.cell? ⟨b, 5, none⟩ = some (.int .u64 0) ∧ w.cell? ⟨b, 6, none⟩ = some (.int .u64 0) ∧ w.cell? ⟨b, 7, none⟩ = some (.int .u64 0)
theorem R8.dr {X : World} {b : Nat} {p q r : Int} (h : X.heap[b]? = some (.cells (a8 p q r) 59 (0, 0))) : R8 b p q r X.drew := c8 (w := X.drew) h
theorem sets8_other {w : World} {u v : Nat} (h : v ≠ u) (a b c d e f g i : Value) : ((((((((w.setCell ⟨u, 0, none⟩ a).setCell ⟨u, 1, none⟩ b).setCell ⟨u, 2, none⟩ c).setCell ⟨u, 3, none⟩ d).setCell ⟨u, 4, none⟩ e).setCell ⟨u, 5, none⟩ f).setCell ⟨u, 6, none⟩ g).setCell ⟨u, 7, none⟩ i).heap[v]? = w.heap[v]? :=
  (Below.heap_setCell _ _ _ _ h).trans ((Below.heap_setCell _ _ _ _ h).trans ((Below.heap_setCell _ _ _ _ h).trans ((Below.heap_setCell _ _ _ _ h).trans ((Below.heap_setCell _ _ _ _ h).trans ((Below.heap_setCell _ _ _ _ h).trans ((Below.heap_setCell _ _ _ _ h).trans (Below.heap_setCell _ _ _ _ h)))))))
theorem sets8_row {w : World} {g : Nat} {t : TypeId} {v0 v1 v2 v3 v4 v5 v6 v7 : Value} (hg : w.heap[g]? = some (.cells z8 t (0, 0))) :
    ((((((((w.setCell ⟨g, 0, none⟩ v0).setCell ⟨g, 1, none⟩ v1).setCell ⟨g, 2, none⟩ v2).setCell ⟨g, 3, none⟩ v3).setCell ⟨g, 4, none⟩ v4).setCell ⟨g, 5, none⟩ v5).setCell ⟨g, 6, none⟩ v6).setCell ⟨g, 7, none⟩ v7) = w.setRow g #[v0, v1, v2, v3, v4, v5, v6, v7] := by
  have step : ∀ (c : Array Value) (j : Nat) (v : Value), (w.setRow g c).setCell ⟨g, j, none⟩ v = w.setRow g (c.setIfInBounds j v) := fun c j v => by
    rw [setCell_eq_setRow _ g j c t (0, 0) v (setRow_heap w g _ c t (0, 0) hg), setRow_setRow]
  have e0 : (#[(Value.int .u64 0), (Value.int .u64 0), (Value.int .u64 0), (Value.int .u64 0), (Value.int .u64 0), (Value.int .u64 0), (Value.int .u64 0), (Value.int .u64 0)] : Array Value).setIfInBounds 0 v0 = #[v0, (Value.int .u64 0), (Value.int .u64 0), (Value.int .u64 0), (Value.int .u64 0), (Value.int .u64 0), (Value.int .u64 0), (Value.int .u64 0)] := rfl
  have e1 : (#[v0, (Value.int .u64 0), (Value.int .u64 0), (Value.int .u64 0), (Value.int .u64 0), (Value.int .u64 0), (Value.int .u64 0), (Value.int .u64 0)] : Array Value).setIfInBounds 1 v1 = #[v0, v1, (Value.int .u64 0), (Value.int .u64 0), (Value.int .u64 0), (Value.int .u64 0), (Value.int .u64 0), (Value.int .u64 0)] := rfl
  have e2 : (#[v0, v1, (Value.int .u64 0), (Value.int .u64 0), (Value.int .u64 0), (Value.int .u64 0), (Value.int .u64 0), (Value.int .u64 0)] : Array Value).setIfInBounds 2 v2 = #[v0, v1, v2, (Value.int .u64 0), (Value.int .u64 0), (Value.int .u64 0), (Value.int .u64 0), (Value.int .u64 0)] := rfl
  have e3 : (#[v0, v1, v2, (Value.int .u64 0), (Value.int .u64 0), (Value.int .u64 0), (Value.int .u64 0), (Value.int .u64 0)] : Array Value).setIfInBounds 3 v3 = #[v0, v1, v2, v3, (Value.int .u64 0), (Value.int .u64 0), (Value.int .u64 0), (Value.int .u64 0)] := rfl
  have e4 : (#[v0, v1, v2, v3, (Value.int .u64 0), (Value.int .u64 0), (Value.int .u64 0), (Value.int .u64 0)] : Array Value).setIfInBounds 4 v4 = #[v0, v1, v2, v3, v4, (Value.int .u64 0), (Value.int .u64 0), (Value.int .u64 0)] := rfl
  have e5 : (#[v0, v1, v2, v3, v4, (Value.int .u64 0), (Value.int .u64 0), (Value.int .u64 0)] : Array Value).setIfInBounds 5 v5 = #[v0, v1, v2, v3, v4, v5, (Value.int .u64 0), (Value.int .u64 0)] := rfl
  have e6 : (#[v0, v1, v2, v3, v4, v5, (Value.int .u64 0), (Value.int .u64 0)] : Array Value).setIfInBounds 6 v6 = #[v0, v1, v2, v3, v4, v5, v6, (Value.int .u64 0)] := rfl
  have e7 : (#[v0, v1, v2, v3, v4, v5, v6, (Value.int .u64 0)] : Array Value).setIfInBounds 7 v7 = #[v0, v1, v2, v3, v4, v5, v6, v7] := rfl
  rw [setCell_eq_setRow w g 0 z8 t (0, 0) v0 hg, e0, step, e1, step, e2, step, e3, step, e4, step, e5, step, e6, step, e7]
set_option maxHeartbeats 4000000 in
theorem rcond_any (n m c : Nat) (a : Option Addr) (L : List T3) (s : Int) (s0 : 0 ≤ s) (s1 : s < 18446744073709551616) (hm1 : m = L.length) (hn : n ≤ 5000) (hm : m ≤ 140737488351232) (w : World) (hE : Row3 .u32 w a L) (hI : ∀ e ∈ L, e.1 < n ∧ e.2.1 < n) :
    Calls Tryz.prog 43 #[.int .u32 (n : Int), .int .u64 s, .slice a m c] w fun e w' => ∃ p q r, e = .returned (.tuple #[.slice (some ⟨w.heap.size + 1 + 1, 0, none⟩) n n, .agg (a8 p q r)]) ∧ GU w' (w.heap.size + 1 + 1) n (crn (ins s) L) ∧ Below w.heap.size w w' := by
  subst hm1
  have HE := hide hE
  have HI := hide hI
  have hmk := make_u32 ((w.alloc (.cells z8 59)).alloc (.cells z8 59)) n (by omega)
  simp only [World.size_alloc] at hmk
  have HG0 := hide (GU.new ((w.alloc (.cells z8 59)).alloc (.cells z8 59)) n)
  simp only [World.size_alloc] at HG0
  have HRI := hide (fun x (hx : x < n) W => Rx.rin_any s (x : Int) s0 s1 (by omega) (by omega) W)
  obtain ⟨w0, hw0⟩ : ∃ w0, ((w.alloc (.cells z8 59)).alloc (.cells z8 59)).alloc (.cells (madeCells #[.int .u64 0] n) 28) = w0 := ⟨_, rfl⟩
  have hr0 : w0.heap[w.heap.size]? = some (.cells z8 59 (0, 0)) := by rw [← hw0]; exact keep _ (keep _ (at0 _ _))
  have ha0 : w0.heap[w.heap.size + 1]? = some (.cells (a8 0 0 0) 59 (0, 0)) := by
    rw [← hw0]
    have := at0 (w.alloc (.cells z8 59)) (.cells z8 59)
    rw [World.size_alloc] at this
    exact keep _ this
  have hb0 : Below w.heap.size w w0 := by rw [← hw0]; exact bA2 (bA2 (b1 _ _ _) _) _
  have HC0 : Hid (Cd w n (crn (ins s) (L.take 0)) 0 0 0 w0) := ⟨hr0, ha0, by rw [← hw0]; exact HG0.out, hb0⟩
  generalize madeCells #[.int .u64 0] n = mc at *
  have HW := hide hw0
  clear hE hI HG0 hr0 ha0 hb0 hw0
  go_enter Tryz.func43, Tryz.ntmps43
  go_wp2_with (fail)
  clear hmk
  rw [HW.out]
  go_loopw [10] (fun v wr => ∃ (i : Nat) (x y z : Int), i ≤ L.length ∧ v = .int .i64 i ∧ Hid (Cd w n (crn (ins s) (L.take i)) x y z wr)) (fun v _ => L.length - (intOf v).toNat)
  case atStart => exact ⟨0, 0, 0, 0, Nat.zero_le _, rfl, HC0⟩
  case round =>
    clear HC0 HW
    obtain ⟨i, p, q, r, hi, rfl, HC⟩ := hrel
    by_cases cc : i < L.length
    · obtain ⟨eb, rfl, heb, hce⟩ := HE.out (by omega)
      obtain ⟨⟨x, y, z⟩, hxyz⟩ : ∃ e, L[i]? = some e := ⟨L[i]'(by omega), List.getElem?_eq_getElem (by omega)⟩
      obtain ⟨hxn, hyn⟩ := HI.out _ (List.mem_of_getElem? hxyz)
      simp only at hxn hyn
      obtain ⟨c1, c2, _⟩ := cells3 (hce i _ hxyz)
      simp only at c1 c2
      have d1 := (HC.out.b.cell (p := eb.add (i * 3)) (by rw [add_block]; exact heb)).trans c1
      have d2 := (HC.out.b.cell (p := ⟨(eb.add (i * 3)).block, (eb.add (i * 3)).off + 1, none⟩) (by rw [show (⟨(eb.add (i * 3)).block, (eb.add (i * 3)).off + 1, none⟩ : Addr).block = eb.block from add_block _ _]; exact heb)).trans c2
      have HRx := hide (HRI.out x hxn)
      have HRy := hide (HRI.out y hyn)
      obtain ⟨A, hA⟩ : ∃ A : Bool, (Rx.mix s x % 2 == 1) = A := ⟨_, rfl⟩
      obtain ⟨B, hB⟩ : ∃ B : Bool, (Rx.mix s y % 2 == 1) = B := ⟨_, rfl⟩
      have HTk : Hid (crn (ins s) (L.take (i + 1)) = if A != B then up (crn (ins s) (L.take i)) y (IntKind.u64.wrap (crn (ins s) (L.take i) y + 1)) else crn (ins s) (L.take i)) := by
        show _ = _
        rw [take_succ hxyz, crn_app]
        unfold crs ins
        simp only []
        rw [hA, hB]
      rw [hA] at HRx
      rw [hB] at HRy
      have HCC := hide cc
      generalize crn (ins s) (L.take i) = P at *
      clear c1 c2 hce heb hxyz hi hA hB
      go_wp2_with (fail)
      refine (HRx.out _).mono ?_
      rintro e1 w1 ⟨rfl, rfl⟩
      go_wp2_with (fail)
      refine (HRy.out _).mono ?_
      rintro e2 w2 ⟨rfl, rfl⟩
      clear HRx HRy d1
      have gy := HC.out.g.cell y hyn
      have gf := HC.out.g.fz y
      have H1 := hide (HC.out.t y (IntKind.u64.wrap (P y + 1)))
      have H2 := hide (H1.out.s 0 (IntKind.u64.wrap (p + 1)) _ _ _ rfl)
      obtain ⟨⟨k0, k1, k2⟩, f0, f1, f2⟩ := HC.out.k
      obtain ⟨⟨l0, l1, l2⟩, h0, h1, h2⟩ := H1.out.k
      obtain ⟨⟨m0, m1, m2⟩, n0, n1, n2⟩ := H2.out.k
      cases A <;> cases B
      · have H3 := hide (HC.out.s 2 (IntKind.u64.wrap (r + 1)) _ _ _ rfl)
        clear l0 l1 l2 h0 h1 h2 m0 m1 m2 n0 n1 n2 H1 H2 gy gf d2
        go_wp2
        exact ⟨⟨i + 1, _, _, _, cc, by go_num, by show Cd _ _ _ _ _ _ _; rw [HTk.out]; exact H3.out⟩, by simp [intOf]; omega⟩
      · have H3 := hide (H2.out.s 2 (IntKind.u64.wrap (r + 1)) _ _ _ rfl)
        go_wp2
        exact ⟨⟨i + 1, _, _, _, cc, by go_num, by show Cd _ _ _ _ _ _ _; rw [HTk.out]; exact H3.out⟩, by simp [intOf]; omega⟩
      · have H3 := hide (H2.out.s 1 (IntKind.u64.wrap (q + 1)) _ _ _ rfl)
        go_wp2
        exact ⟨⟨i + 1, _, _, _, cc, by go_num, by show Cd _ _ _ _ _ _ _; rw [HTk.out]; exact H3.out⟩, by simp [intOf]; omega⟩
      · have H3 := hide (HC.out.s 1 (IntKind.u64.wrap (q + 1)) _ _ _ rfl)
        clear l0 l1 l2 h0 h1 h2 m0 m1 m2 n0 n1 n2 H1 H2 gy gf d2
        go_wp2
        exact ⟨⟨i + 1, _, _, _, cc, by go_num, by show Cd _ _ _ _ _ _ _; rw [HTk.out]; exact H3.out⟩, by simp [intOf]; omega⟩
    · have hil : L.take i = L := List.take_of_length_le (by omega)
      rw [hil] at HC
      obtain ⟨⟨k0, k1, k2⟩, _⟩ := HC.out.k
      have hrow := HC.out.r
      have harow := HC.out.a
      have HG := hide HC.out.g
      have HB := hide HC.out.b
      clear hil hi HC k0 k1 k2
      have HS : Hid (R8 (w.heap.size + 1) p q r wr.drew) := R8.dr harow
      have HS2 : Hid (∀ y0 y1 y2 y3 y4 y5 y6 y7 : Value, R8 (w.heap.size + 1) p q r ((((((((wr.setCell ⟨w.heap.size, 0, none⟩ y0).setCell ⟨w.heap.size, 1, none⟩ y1).setCell ⟨w.heap.size, 2, none⟩ y2).setCell ⟨w.heap.size, 3, none⟩ y3).setCell ⟨w.heap.size, 4, none⟩ y4).setCell ⟨w.heap.size, 5, none⟩ y5).setCell ⟨w.heap.size, 6, none⟩ y6).setCell ⟨w.heap.size, 7, none⟩ y7).drew) := fun y0 y1 y2 y3 y4 y5 y6 y7 => R8.dr ((sets8_other (w := wr) (by omega) y0 y1 y2 y3 y4 y5 y6 y7).trans harow)
      obtain ⟨z0, z1, z2, z3', z4, z5, z6, z7⟩ := c8 (w := wr) hrow
      have fz : ∀ j, wr.frozen? ⟨w.heap.size, j, none⟩ = false := fun j => frozen_of_row _ _ _ _ _ hrow
      have f0 := fz 0
      have f1 := fz 1
      have f2 := fz 2
      have f3 := fz 3
      have f4 := fz 4
      have f5 := fz 5
      have f6 := fz 6
      have f7 := fz 7
      have HR := hide hrow
      clear fz hrow harow
      go_wp2_with (fail)
      go_region_held3 (R8 (w.heap.size + 1) p q r) ((first | with_reducible exact HS.out | with_reducible exact HS2.out _ _ _ _ _ _ _ _)) ((fail))
      rw [sets8_row HR.out]
      have hq : (wr.setRow w.heap.size (a8 p q r)).drew.heap[w.heap.size]? = some (.cells (a8 p q r) 59 (0, 0)) := setRow_heap _ _ _ _ _ _ HR.out
      have HH : Hid (GU (wr.setRow w.heap.size (a8 p q r)).drew (w.heap.size + 1 + 1) n (crn (ins s) L) ∧ Below w.heap.size w (wr.setRow w.heap.size (a8 p q r)).drew) := ⟨(HG.out.of (setRow_other _ _ _ _ (by omega))).of rfl, belowD (below_setRow HB.out (Nat.le_refl _) _)⟩
      have hld := run_loadVar_row (P := Tryz.prog) _ _ 59 59 _ (0, 0) _ hq Tryz.underlying59 rfl Ty.sizeState
      generalize (wr.setRow w.heap.size (a8 p q r)).drew = W9 at *
      clear hq z0 z1 z2 z3' z4 z5 z6 z7 f0 f1 f2 f3 f4 f5 f6 f7 HS HS2 HR HG HB
      go_wp2
      refine bodyPost_ret (v := .tuple #[.slice (some ⟨w.heap.size + 1 + 1, 0, none⟩) n n, .agg (a8 p q r)]) ?_ rfl ⟨_, _, _, rfl, HH.out.1, HH.out.2⟩
      simp [results, Tryz.results43, asAddr, hld]
end Au
end Go.Proofs.YtgoigcpdfecfhaaGreatDoor
