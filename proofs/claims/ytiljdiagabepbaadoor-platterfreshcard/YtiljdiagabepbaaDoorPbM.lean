import Derived.Test.YtiljdiagabepbaaDoorPbL
namespace Go.Proofs.YtiljdiagabepbaaDoor
namespace Pb
open Go.RowKit
set_option linter.unusedVariables false
set_option maxHeartbeats 800000 in
set_option maxRecDepth 8000 in
theorem size_any (base gf : Nat) (fc : Array Value) (bv : Value) (xs : List Value) (w : World) (hf : w.heap[gf]? = some (.cells fc 79 (0, 0))) (h0 : fc[0]? = some bv) (ho : w.ownsRow base 5 1 bv xs.length xs) (hx : xs.length ≤ 1073741824) :
    Calls Tryd.prog 27 #[.pointer (some ⟨gf, 0, none⟩)] w fun e w' => e = .returned (.int .i64 xs.length) ∧ w' = w := by
  obtain ⟨x0, -⟩ := dcell hf 0 bv h0
  rcases ho.2 with ⟨rfl, e0⟩ | ⟨gB, cap, cu, rfl, hbg, hgB, hnc, hcm, hcs, htake⟩
  · have e0' : ((xs.length : Nat) : Int) = 0 := by omega
    rw [e0']
    clear ho hx e0 e0' h0
    go_enter Tryd.func27, Tryd.ntmps27
    go_wp2
    go_ret
    exact ⟨rfl, rfl⟩
  · clear ho
    go_enter Tryd.func27, Tryd.ntmps27
    go_wp2
    go_ret
    exact ⟨rfl, rfl⟩
/-- A read behind a state: the file's cells and blocks of S are turned. -/
theorem ST.turn {w0 w w' : World} {g gp gn gd gf : Nat} {q ops used next writes wrote reads rb seeks next' reads' rb' seeks' : Int} {ch bv : Value} {xs : List Value} {S : Nat → Prop} (h : ST w0 w g gp gn gd gf q ops used next writes wrote reads rb seeks ch bv xs) (hf : Frm w w' S) (hS : ∀ k, S k → w0.heap.size ≤ k) (s1 : ¬ S g) (s2 : ¬ S gp) (s3 : ¬ S gn) (s4 : ∀ k, bv.ownBlock = some k → ¬ S k) (hn : w'.heap[gf]? = some (.cells (fl bv next' writes wrote reads' rb' seeks') 79 (0, 0))) : ST w0 w' g gp gn gd gf q ops used next' writes wrote reads' rb' seeks' ch bv xs :=
  ⟨hf.below h.bel h.bel.size hS, h.bg, h.bf, (hf.block g (Array.getElem?_eq_some_iff.1 h.hg).1 s1).trans h.hg, (hf.block gp (Array.getElem?_eq_some_iff.1 h.hp).1 s2).trans h.hp, (hf.block gn (Array.getElem?_eq_some_iff.1 h.hn).1 s3).trans h.hn, hn, own_frm h.ho hf s4⟩
set_option maxHeartbeats 1600000 in
set_option maxRecDepth 8000 in
theorem readat_clo (w0 w : World) (g gp gn gd gf bd bn ba bi br gb k m : Nat) (q ops used next writes wrote reads rb seeks : Int) (ch bv : Value) (xs cur : List Value) (st : ST w0 w g gp gn gd gf q ops used next writes wrote reads rb seeks ch bv xs) (hd : w.heap[bd]? = some (.cells #[.pointer (some ⟨g, 0, none⟩)] 23 (0, 0))) (hs : w.heap[bn]? = some (.cells #[.string ⟨#[102]⟩] 9 (0, 0))) (hat : w.heap[ba]? = some (.cells #[.int .i64 k] 2 (0, 0))) (hi : w.heap[bi]? = some (.cells #[.slice (some ⟨gb, 0, none⟩) m m] 37 (0, 0))) (hr : w.heap[br]? = some (.cells #[.int .i64 0] 3 (0, 0)))
    (hb : w.heap[gb]? = some (.cells cur.toArray 5 (0, 0))) (hm : cur.length = m) (hgb : bv.ownBlock ≠ some gb) (hk : k ≤ xs.length) (hx : xs.length ≤ 1073741824) (hm1 : m ≤ 1073741824) (hn : next = k) (h1 : ∀ v ∈ xs, v.oneCell' = true) (hgb0 : w0.heap.size ≤ gb) (hbr0 : w0.heap.size ≤ br)
    (a0 : 0 ≤ reads) (a1 : reads < 4611686018427387904) (b0 : 0 ≤ rb) (b1 : rb < 4611686018427387904) :
    Calls Tryd.prog 32 (#[.agg #[.int .i64 0, .int .i64 0, .int .i64 0]] ++ #[.pointer (some ⟨bd, 0, none⟩), .pointer (some ⟨bn, 0, none⟩), .pointer (some ⟨ba, 0, none⟩), .pointer (some ⟨bi, 0, none⟩), .pointer (some ⟨br, 0, none⟩)]) w fun e w' => ∃ E, e = .returned (.int .i64 E) ∧ E = 0 ∧ ST w0 w' g gp gn gd gf q ops used (k + ((xs.drop k).take m).length) writes wrote (reads + 1) (rb + ((xs.drop k).take m).length) seeks ch bv xs ∧ w'.heap[gb]? = some (.cells (splice cur 0 ((xs.drop k).take m)).toArray 5 (0, 0)) ∧ w'.heap[br]? = some (.cells #[.int .i64 ((xs.drop k).take m).length] 3 (0, 0)) ∧ Frm w w' (fun j => j = gf ∨ j = gb ∨ j = br) := by
  show Calls Tryd.prog 32 #[.agg #[.int .i64 0, .int .i64 0, .int .i64 0], .pointer (some ⟨bd, 0, none⟩), .pointer (some ⟨bn, 0, none⟩), .pointer (some ⟨ba, 0, none⟩), .pointer (some ⟨bi, 0, none⟩), .pointer (some ⟨br, 0, none⟩)] w _
  obtain ⟨v, hv, fv⟩ : ∃ v, w.alloc (.cells #[.int .i64 0, .int .i64 0, .int .i64 0] 73) = v ∧ Frm w v (fun _ => False) := ⟨_, rfl, Frm.of_below ((Below.refl _ _).alloc (Nat.le_refl _) _)⟩
  have vs : v.heap[w.heap.size]? = some (.cells #[.int .i64 0, .int .i64 0, .int .i64 0] 73 (0, 0)) := by rw [← hv]; exact heap_alloc_last w _
  have sv := st.frm fv
  have kp : ∀ {b : Nat} {o : Obj}, w.heap[b]? = some o → v.heap[b]? = some o := fun h => (fv.block _ (Array.getElem?_eq_some_iff.1 h).1 (fun e => e)).trans h
  obtain ⟨c7, -⟩ := dcell sv.hg 7 (.map (some gn)) rfl
  obtain ⟨d0, -⟩ := dcell (kp hd) 0 (.pointer (some ⟨g, 0, none⟩)) rfl
  obtain ⟨s0, -⟩ := dcell (kp hs) 0 (.string ⟨#[102]⟩) rfl
  obtain ⟨t0, -⟩ := dcell (kp hat) 0 (.int .i64 k) rfl
  obtain ⟨i0, -⟩ := dcell (kp hi) 0 (.slice (some ⟨gb, 0, none⟩) m m) rfl
  obtain ⟨k1, -⟩ := dcell vs 1 (.int .i64 0) rfl
  have hnv := sv.hn
  have HFN : Hid (∀ W, W.heap[gn]? = some (.map (m1 gf 0) 1) → Calls Tryd.prog 22 #[.map (some gn), .string ⟨#[102]⟩] W fun e w' => e = .returned (.tuple #[.pointer (some ⟨gf, 0, none⟩), .int .i64 0]) ∧ w' = W) := fun W h => find_some gn 1 gf 0 (m1 gf 0) W h (find_m1 gf 0)
  have HSZ : Hid (∀ W, Frm v W (fun _ => False) → Calls Tryd.prog 27 #[.pointer (some ⟨gf, 0, none⟩)] W fun e w' => e = .returned (.int .i64 xs.length) ∧ w' = W) := fun W h => size_any w0.heap.size gf _ bv xs W (sv.frm h).hf rfl (sv.frm h).ho hx
  have SV : Hid (ST w0 v g gp gn gd gf q ops used next writes wrote reads rb seeks ch bv xs ∧ Frm w v (fun _ => False) ∧ v.heap[gb]? = some (.cells cur.toArray 5 (0, 0)) ∧ v.heap[br]? = some (.cells #[.int .i64 0] 3 (0, 0))) := ⟨sv, fv, kp hb, kp hr⟩
  clear sv st fv hd hs hat hi
  go_enter Tryd.func32, Tryd.ntmps32
  go_wp2
  clear hv
  have hS0 : Hid (v.drew.cell? ⟨bd, 0, none⟩ = some (.pointer (some ⟨g, 0, none⟩)) ∧ v.drew.cell? ⟨g, 7, none⟩ = some (.map (some gn)) ∧ v.drew.cell? ⟨bn, 0, none⟩ = some (.string ⟨#[102]⟩)) := ⟨d0, c7, s0⟩
  go_region_held3 (fun W => W.cell? ⟨bd, 0, none⟩ = some (.pointer (some ⟨g, 0, none⟩)) ∧ W.cell? ⟨g, 7, none⟩ = some (.map (some gn)) ∧ W.cell? ⟨bn, 0, none⟩ = some (.string ⟨#[102]⟩)) ((with_reducible exact hS0.out))
    ((go_at_call 22; refine (HFN.out _ (by exact hnv)).mono ?_; rintro e5 w5 ⟨rfl, h5⟩; subst w5))
  clear hS0
  go_wp2_with (fail)
  have hS1 : Hid (v.drew.drew.cell? ⟨ba, 0, none⟩ = some (.int .i64 k)) := t0
  go_region_held3 (fun W => W.cell? ⟨ba, 0, none⟩ = some (.int .i64 k)) ((with_reducible exact hS1.out))
    ((go_at_call 27; refine (HSZ.out _ (by first | exact frm_drewN v 1 | exact (frm_drewN v 1).trans (frm_drewN v.drew 1) (fun k _ e => e))).mono ?_; rintro e5 w5 ⟨rfl, h5⟩; subst w5))
  clear hS1
  have hk0 : ¬ ((k : Int) < 0) := by omega
  have hk2 : ¬ (xs.length < k) := by omega
  go_wp2_with (fail)
  obtain ⟨st', fv, gbv, brv⟩ := SV.out
  have fn : Frm v v.drew.drew (fun _ => False) := (frm_drewN v 1).trans (frm_drewN v.drew 1) (fun k _ e => e)
  have st2 := st'.frm fn
  have kq : ∀ {b : Nat} {o : Obj}, v.heap[b]? = some o → v.drew.drew.heap[b]? = some o := fun h => h
  refine (read_any w0.heap.size gf gb k m next writes wrote reads rb seeks bv xs cur v.drew.drew st2.hf st2.ho (kq gbv) hm hgb hk hx hm1 hn h1 a0 a1 b0 b1).mono ?_
  obtain ⟨ys, hys⟩ : ∃ ys, ys = (xs.drop k).take m := ⟨_, rfl⟩
  rw [← hys]
  have hyb : ys.length ≤ 1073741824 := by rw [hys]; simp; omega
  have HY : Hid (ys = (xs.drop k).take m) := hys
  clear hys
  rintro e6 w6 ⟨rfl, q1, q2, q3⟩
  have vs6 : w6.heap[w.heap.size]? = some (.cells #[.int .i64 0, .int .i64 0, .int .i64 0] 73 (0, 0)) := (q3.block _ (Array.getElem?_eq_some_iff.1 (kq vs)).1 (fun e => e.elim (fun e => cc_ne vs st'.hf (by decide) e) (fun e => cc_ne vs gbv (by decide) e))).trans (kq vs)
  have br6 : w6.heap[br]? = some (.cells #[.int .i64 0] 3 (0, 0)) := (q3.block _ (Array.getElem?_eq_some_iff.1 (kq brv)).1 (fun e => e.elim (fun e => cc_ne brv st'.hf (by decide) e) (fun e => cc_ne brv gbv (by decide) e))).trans (kq brv)
  obtain ⟨j1, -⟩ := dcell vs6 1 (.int .i64 0) rfl
  obtain ⟨j2, j2'⟩ := dcell br6 0 (.int .i64 0) rfl
  have hne := cc_ne vs6 br6 (by decide)
  have n1 : gf ≠ br := cc_ne q1 br6 (by decide)
  have n2 : gb ≠ br := cc_ne q2 br6 (by decide)
  have j3 : (w6.setCell ⟨br, 0, none⟩ (.int .i64 ys.length)).cell? ⟨w.heap.size, 1, none⟩ = some (.int .i64 0) := (dcell (so vs6 hne 0 _) 1 (.int .i64 0) rfl).1
  have f6 : Frm w (w6.setCell ⟨br, 0, none⟩ (.int .i64 ys.length)) (fun j => j = gf ∨ j = gb ∨ j = br) := ((fv.trans fn (fun k _ e => e)).trans' q3 (S := fun j => j = gf ∨ j = gb ∨ j = br) (fun k _ e => e.elim) (fun k _ e => e.elim .inl (fun e => .inr (.inl e)))).trans (Frm.setCell _ _ _) (fun k _ e => .inr (.inr e))
  have f7 : Frm v (w6.setCell ⟨br, 0, none⟩ (.int .i64 ys.length)) (fun j => j = gf ∨ j = gb ∨ j = br) := (fn.trans' q3 (S := fun j => j = gf ∨ j = gb ∨ j = br) (fun k _ e => e.elim) (fun k _ e => e.elim .inl (fun e => .inr (.inl e)))).trans (Frm.setCell _ _ _) (fun k _ e => .inr (.inr e))
  have st6 : ST w0 (w6.setCell ⟨br, 0, none⟩ (.int .i64 ys.length)) g gp gn gd gf q ops used (k + ys.length) writes wrote (reads + 1) (rb + ys.length) seeks ch bv xs := by
    refine st'.turn f7 ?_ ?_ ?_ ?_ ?_ (so q1 n1 0 _)
    · rintro j (e | e | e)
      · subst e; exact st'.bf
      · subst e; exact hgb0
      · subst e; exact hbr0
    · rintro (e | e | e)
      · exact cc_ne st'.hg st'.hf (by decide) e
      · exact cc_ne st'.hg gbv (by decide) e
      · exact cc_ne st'.hg brv (by decide) e
    · rintro (e | e | e)
      · exact cm_ne st'.hf st'.hp e.symm
      · exact cm_ne gbv st'.hp e.symm
      · exact cm_ne brv st'.hp e.symm
    · rintro (e | e | e)
      · exact cm_ne st'.hf st'.hn e.symm
      · exact cm_ne gbv st'.hn e.symm
      · exact cm_ne brv st'.hn e.symm
    · rintro j hj (e | e | e)
      · exact own_ne st'.ho st'.hf (by decide) (e ▸ hj)
      · exact hgb (e ▸ hj)
      · exact own_ne st'.ho brv (by decide) (e ▸ hj)
  have FIN : Hid (ST w0 (w6.setCell ⟨br, 0, none⟩ (.int .i64 ys.length)) g gp gn gd gf q ops used (k + ys.length) writes wrote (reads + 1) (rb + ys.length) seeks ch bv xs ∧ (w6.setCell ⟨br, 0, none⟩ (.int .i64 ys.length)).heap[gb]? = some (.cells (splice cur 0 ys).toArray 5 (0, 0)) ∧ (w6.setCell ⟨br, 0, none⟩ (.int .i64 ys.length)).heap[br]? = some (.cells #[.int .i64 ys.length] 3 (0, 0)) ∧ Frm w (w6.setCell ⟨br, 0, none⟩ (.int .i64 ys.length)) (fun j => j = gf ∨ j = gb ∨ j = br)) := ⟨st6, so q2 n2 0 _, sc br6 0 _, f6⟩
  clear st6 f6 f7 q1 q2 q3 vs6 br6 st2 st' fv fn gbv brv kq
  go_wp2
  go_ret
  refine ⟨0, rfl, rfl, ?_⟩
  rw [← HY.out]
  exact FIN.out
set_option maxHeartbeats 1600000 in
set_option maxRecDepth 8000 in
theorem readat_far (w0 w : World) (g gp gn gd gf bd bn ba bi br k : Nat) (q ops used next writes wrote reads rb seeks : Int) (ch bv : Value) (xs : List Value) (st : ST w0 w g gp gn gd gf q ops used next writes wrote reads rb seeks ch bv xs) (hd : w.heap[bd]? = some (.cells #[.pointer (some ⟨g, 0, none⟩)] 23 (0, 0))) (hs : w.heap[bn]? = some (.cells #[.string ⟨#[102]⟩] 9 (0, 0))) (hat : w.heap[ba]? = some (.cells #[.int .i64 k] 2 (0, 0))) 
    (hk : xs.length < k) (hk1 : k ≤ 1073741825) (hx : xs.length ≤ 1073741824) :
    Calls Tryd.prog 32 (#[.agg #[.int .i64 0, .int .i64 0, .int .i64 0]] ++ #[.pointer (some ⟨bd, 0, none⟩), .pointer (some ⟨bn, 0, none⟩), .pointer (some ⟨ba, 0, none⟩), .pointer (some ⟨bi, 0, none⟩), .pointer (some ⟨br, 0, none⟩)]) w fun e w' => ∃ E, e = .returned (.int .i64 E) ∧ E = 34 ∧ ST w0 w' g gp gn gd gf q ops used next writes wrote reads rb seeks ch bv xs ∧ Frm w w' (fun _ => False) := by
  show Calls Tryd.prog 32 #[.agg #[.int .i64 0, .int .i64 0, .int .i64 0], .pointer (some ⟨bd, 0, none⟩), .pointer (some ⟨bn, 0, none⟩), .pointer (some ⟨ba, 0, none⟩), .pointer (some ⟨bi, 0, none⟩), .pointer (some ⟨br, 0, none⟩)] w _
  obtain ⟨v, hv, fv⟩ : ∃ v, w.alloc (.cells #[.int .i64 0, .int .i64 0, .int .i64 0] 73) = v ∧ Frm w v (fun _ => False) := ⟨_, rfl, Frm.of_below ((Below.refl _ _).alloc (Nat.le_refl _) _)⟩
  have vs : v.heap[w.heap.size]? = some (.cells #[.int .i64 0, .int .i64 0, .int .i64 0] 73 (0, 0)) := by rw [← hv]; exact heap_alloc_last w _
  have sv := st.frm fv
  have kp : ∀ {b : Nat} {o : Obj}, w.heap[b]? = some o → v.heap[b]? = some o := fun h => (fv.block _ (Array.getElem?_eq_some_iff.1 h).1 (fun e => e)).trans h
  obtain ⟨c7, -⟩ := dcell sv.hg 7 (.map (some gn)) rfl
  obtain ⟨d0, -⟩ := dcell (kp hd) 0 (.pointer (some ⟨g, 0, none⟩)) rfl
  obtain ⟨s0, -⟩ := dcell (kp hs) 0 (.string ⟨#[102]⟩) rfl
  obtain ⟨t0, -⟩ := dcell (kp hat) 0 (.int .i64 k) rfl
  obtain ⟨k1, -⟩ := dcell vs 1 (.int .i64 0) rfl
  have hnv := sv.hn
  have HFN : Hid (∀ W, W.heap[gn]? = some (.map (m1 gf 0) 1) → Calls Tryd.prog 22 #[.map (some gn), .string ⟨#[102]⟩] W fun e w' => e = .returned (.tuple #[.pointer (some ⟨gf, 0, none⟩), .int .i64 0]) ∧ w' = W) := fun W h => find_some gn 1 gf 0 (m1 gf 0) W h (find_m1 gf 0)
  have HSZ : Hid (∀ W, Frm v W (fun _ => False) → Calls Tryd.prog 27 #[.pointer (some ⟨gf, 0, none⟩)] W fun e w' => e = .returned (.int .i64 xs.length) ∧ w' = W) := fun W h => size_any w0.heap.size gf _ bv xs W (sv.frm h).hf rfl (sv.frm h).ho hx
  have FIN : Hid (ST w0 v.drew.drew g gp gn gd gf q ops used next writes wrote reads rb seeks ch bv xs ∧ Frm w v.drew.drew (fun _ => False)) := by
    have fn : Frm v v.drew.drew (fun _ => False) := (frm_drewN v 1).trans (frm_drewN v.drew 1) (fun k _ e => e)
    exact ⟨sv.frm fn, fv.trans fn (fun k _ e => e)⟩
  clear sv st fv hd hs hat
  go_enter Tryd.func32, Tryd.ntmps32
  go_wp2
  clear hv
  have hS0 : Hid (v.drew.cell? ⟨bd, 0, none⟩ = some (.pointer (some ⟨g, 0, none⟩)) ∧ v.drew.cell? ⟨g, 7, none⟩ = some (.map (some gn)) ∧ v.drew.cell? ⟨bn, 0, none⟩ = some (.string ⟨#[102]⟩)) := ⟨d0, c7, s0⟩
  go_region_held3 (fun W => W.cell? ⟨bd, 0, none⟩ = some (.pointer (some ⟨g, 0, none⟩)) ∧ W.cell? ⟨g, 7, none⟩ = some (.map (some gn)) ∧ W.cell? ⟨bn, 0, none⟩ = some (.string ⟨#[102]⟩)) ((with_reducible exact hS0.out))
    ((go_at_call 22; refine (HFN.out _ (by exact hnv)).mono ?_; rintro e5 w5 ⟨rfl, h5⟩; subst w5))
  clear hS0
  go_wp2_with (fail)
  have hS1 : Hid (v.drew.drew.cell? ⟨ba, 0, none⟩ = some (.int .i64 k)) := t0
  go_region_held3 (fun W => W.cell? ⟨ba, 0, none⟩ = some (.int .i64 k)) ((with_reducible exact hS1.out))
    ((go_at_call 27; refine (HSZ.out _ (by first | exact frm_drewN v 1 | exact (frm_drewN v 1).trans (frm_drewN v.drew 1) (fun k _ e => e))).mono ?_; rintro e5 w5 ⟨rfl, h5⟩; subst w5))
  clear hS1
  have hk0 : ¬ ((k : Int) < 0) := by omega
  go_wp2
  go_ret
  exact ⟨34, rfl, rfl, FIN.out⟩
end Pb
end Go.Proofs.YtiljdiagabepbaaDoor
