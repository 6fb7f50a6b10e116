import Derived.Test.YtiljdiagabepbaaDoorPqE
namespace Go.Proofs.YtiljdiagabepbaaDoor
namespace Pq
open Go.RowKit Pb
set_option linter.unusedVariables false
set_option maxHeartbeats 1600000 in
set_option maxRecDepth 8000 in
theorem list_clo (W0 w : World) (g gp gn gd bd bl c : Nat) (ops : Int) (ch : Value) (D : DataW Unit) (st : FD W0 w g gp gn gd ops ch c D) (hc0 : c ≤ 1000) (hd : w.heap[bd]? = some (.cells #[.pointer (some ⟨g, 0, none⟩)] 23 (0, 0))) (hl : w.heap[bl]? = some (.cells #[.slice none 0 0] 22 (0, 0))) (hbl : W0.heap.size ≤ bl) :
    Calls Tryd.prog 24 (#[.agg #[.int .i64 0, .int .i64 0, .int .i64 0]] ++ #[.pointer (some ⟨bd, 0, none⟩), .pointer (some ⟨bl, 0, none⟩)]) w fun e w' => ∃ E, e = .returned (.int .i64 E) ∧ E = 0 ∧ FD W0 w' g gp gn gd ops ch c D ∧ (∃ p l c2, w'.heap[bl]? = some (.cells #[.slice p l c2] 22 (0, 0)) ∧ w'.ownsRow w.heap.size 9 1 (.slice p l c2) (SS D).length ((SS D).map Go.Proofs.encStr)) ∧ Frm w w' (fun k => k = bl) := by
  show Calls Tryd.prog 24 #[.agg #[.int .i64 0, .int .i64 0, .int .i64 0], .pointer (some ⟨bd, 0, none⟩), .pointer (some ⟨bl, 0, none⟩)] w _
  obtain ⟨v, hv, fv⟩ : ∃ v, w.alloc (.cells #[.int .i64 0, .int .i64 0, .int .i64 0] 73) = v ∧ Frm w v (fun _ => False) := ⟨_, rfl, Frm.of_below ((Below.refl _ _).alloc (Nat.le_refl _) _)⟩
  have stv := st.frm fv
  have kp : ∀ {b : Nat} {o : Obj}, w.heap[b]? = some o → v.heap[b]? = some o := fun h => (fv.block _ (Array.getElem?_eq_some_iff.1 h).1 (fun e => e)).trans h
  obtain ⟨c7, -⟩ := dcell stv.hg 7 (.map (some gn)) rfl
  obtain ⟨d0, -⟩ := dcell (kp hd) 0 (.pointer (some ⟨g, 0, none⟩)) rfl
  have HS : Hid (Calls Tryd.prog 25 #[.map (some gn)] v fun e w' => ∃ p l c2, e = .returned (.slice p l c2) ∧ w'.ownsRow v.heap.size 9 1 (.slice p l c2) (SS D).length ((SS D).map Go.Proofs.encStr) ∧ Below v.heap.size v w') := sorted_gen gn c D v stv.hn hc0
  have SV : Hid (FD W0 v g gp gn gd ops ch c D ∧ v.heap[bl]? = some (.cells #[.slice none 0 0] 22 (0, 0)) ∧ Frm w v (fun _ => False)) := ⟨stv, kp hl, fv⟩
  clear st hd hl stv fv kp
  go_enter Tryd.func24, Tryd.ntmps24
  go_wp2_with (fail)
  refine HS.out.mono ?_
  rintro e5 w5 ⟨p, l, c2, rfl, h5, b5⟩
  obtain ⟨st, hl, fv⟩ := SV.out
  have f5 : Frm v w5 (fun _ => False) := Frm.of_below b5
  have hl5 := (f5.block bl (Array.getElem?_eq_some_iff.1 hl).1 (fun e => e)).trans hl
  obtain ⟨l0, lf⟩ := dcell hl5 0 (.slice none 0 0) rfl
  have s5 := st.frm f5
  have fS : Frm w5 (w5.setCell ⟨bl, 0, none⟩ (.slice p l c2)) (fun k => k = bl) := Frm.setCell w5 ⟨bl, 0, none⟩ _
  have FIN : Hid (FD W0 (w5.setCell ⟨bl, 0, none⟩ (.slice p l c2)) g gp gn gd ops ch c D ∧ (∃ p' l' c2', (w5.setCell ⟨bl, 0, none⟩ (.slice p l c2)).heap[bl]? = some (.cells #[.slice p' l' c2'] 22 (0, 0)) ∧ (w5.setCell ⟨bl, 0, none⟩ (.slice p l c2)).ownsRow w.heap.size 9 1 (.slice p' l' c2') (SS D).length ((SS D).map Go.Proofs.encStr)) ∧ Frm w (w5.setCell ⟨bl, 0, none⟩ (.slice p l c2)) (fun k => k = bl)) := by
    obtain ⟨es, c', hm⟩ := map_at s5.hn
    refine ⟨s5.away fS (fun k e => by have e : k = bl := e; omega) (fun e => cc_ne hl5 s5.hg (by decide) e.symm) (fun e => cm_ne hl5 s5.hp e.symm) (fun e => cm_ne hl5 hm e.symm) (fun k hk e => s5.ch_ne hl5 (by decide) (e ▸ hk)) (fun b hb e => cc_ne hb hl5 (by decide) e), ⟨p, l, c2, sc hl5 0 _, ?_⟩, ?_⟩
    · refine row_le (row_frm h5 fS (fun k hk e => row_ne h5 hl5 (by decide) (e ▸ hk))) fv.size
    · exact (fv.trans' f5 (S := fun k => k = bl) (fun k _ e => e.elim) (fun k _ e => e.elim)).trans fS (fun k _ e => e)
  clear s5 fS h5 b5 f5 hl5 st hl fv
  go_wp2
  go_ret
  exact ⟨0, rfl, rfl, FIN.out⟩
/-- Loading a list. -/
theorem loadVar22 (w : World) (b : Nat) (x : Value) (h : w.cell? ⟨b, 0, none⟩ = some x) : (loadVar 22 ⟨b, 0, none⟩).run Tryd.prog w = .ok x w := by
  simp [loadVar, h]
set_option maxHeartbeats 1600000 in
set_option maxRecDepth 8000 in
theorem list_gen (W0 w : World) (g gp gn gd c : Nat) (ops : Int) (ch : Value) (D : DataW Unit) (st : FD W0 w g gp gn gd ops ch c D) (hc0 : c ≤ 1000) (o0 : 0 ≤ ops) (o1 : ops < 4611686018427387904) :
    Calls Tryd.prog 9 #[.pointer (some ⟨g, 0, none⟩)] w fun e w' => ∃ p l c2, e = .returned (.tuple #[.slice p l c2, .int .i64 0]) ∧ FD W0 w' g gp gn gd (ops + 1) ch c D ∧ w'.ownsRow w.heap.size 9 1 (.slice p l c2) (SS D).length ((SS D).map Go.Proofs.encStr) ∧ Frm w w' (fun k => k = g) := by
  obtain ⟨v, hv, fv, dv1, dv2, sz⟩ : ∃ v, (w.alloc (.cells #[.pointer (some ⟨g, 0, none⟩)] 23)).alloc (.cells #[.slice none 0 0] 22) = v ∧ Frm w v (fun _ => False) ∧ v.heap[w.heap.size]? = some (.cells #[.pointer (some ⟨g, 0, none⟩)] 23 (0, 0)) ∧ v.heap[w.heap.size + 1]? = some (.cells #[.slice none 0 0] 22 (0, 0)) ∧ v.heap.size = w.heap.size + 2 :=
    ⟨_, rfl, Frm.of_below (((Below.refl _ _).alloc (Nat.le_refl _) _).alloc (by simp) _), (two_blk w _ _).1, (two_blk w _ _).2, by simp⟩
  have sv := st.frm fv
  have lg := (Array.getElem?_eq_some_iff.1 st.hg).1
  have b0' := st.bel.size
  obtain ⟨x1, -⟩ := dcell dv1 0 (.pointer (some ⟨g, 0, none⟩)) rfl
  have HG : Hid (Calls Tryd.prog 20 #[.pointer (some ⟨g, 0, none⟩), .int .u8 8, .func (.func 24) #[] #[.pointer (some ⟨w.heap.size, 0, none⟩), .pointer (some ⟨w.heap.size + 1, 0, none⟩)]] v fun e w' => ∃ E, e = .returned (.int .i64 E) ∧ E = 0 ∧ FD W0 w' g gp gn gd (ops + 1) ch c D ∧ (∃ p l c2, w'.heap[w.heap.size + 1]? = some (.cells #[.slice p l c2] 22 (0, 0)) ∧ w'.ownsRow w.heap.size 9 1 (.slice p l c2) (SS D).length ((SS D).map Go.Proofs.encStr)) ∧ Frm w w' (fun k => k = g)) := by
    refine gate_list g gp gn gd 1000 ops 0 ch _ v (fun E w' => E = 0 ∧ FD W0 w' g gp gn gd (ops + 1) ch c D ∧ (∃ p l c2, w'.heap[w.heap.size + 1]? = some (.cells #[.slice p l c2] 22 (0, 0)) ∧ w'.ownsRow w.heap.size 9 1 (.slice p l c2) (SS D).length ((SS D).map Go.Proofs.encStr)) ∧ Frm w w' (fun k => k = g)) o0 o1 sv.hg sv.hp (fun W hW bW => ?_)
    obtain ⟨sW, fW⟩ := sv.ops' hW bW
    refine (list_clo W0 W g gp gn gd w.heap.size (w.heap.size + 1) c (ops + 1) ch D sW hc0 ((fW.block _ (by omega) (by omega)).trans dv1) ((fW.block _ (by omega) (by omega)).trans dv2) (by omega)).mono ?_
    rintro e w' ⟨E, rfl, hE, q1, ⟨p, l, c2, q2, q3⟩, q4⟩
    refine ⟨E, rfl, hE, q1, ⟨p, l, c2, q2, row_le q3 (by have := fW.size; omega)⟩, ?_⟩
    exact (fv.trans' fW (S := fun k => k = g) (fun k _ e => e.elim) (fun k _ e => e)).trans' q4 (fun k _ e => e) (fun k hk e => by have e : k = _ := e; omega)
  clear sv st fv dv1 dv2
  go_enter Tryd.func9, Tryd.ntmps9
  go_wp2_with (fail)
  refine HG.out.mono ?_
  rintro e3 w3 ⟨E, rfl, rfl, s3, ⟨p, l, c2, hR, hrow⟩, f3⟩
  obtain ⟨r1, r2⟩ := dcell hR 0 (.slice p l c2) rfl
  have f4 : ∀ x, Frm w3 (w3.setCell ⟨w.heap.size + 1, 0, none⟩ x) (fun k => k = w.heap.size + 1) := fun x => Frm.setCell w3 ⟨w.heap.size + 1, 0, none⟩ x
  have FIN : Hid (∀ x, FD W0 (w3.setCell ⟨w.heap.size + 1, 0, none⟩ x) g gp gn gd (ops + 1) ch c D ∧ (w3.setCell ⟨w.heap.size + 1, 0, none⟩ x).ownsRow w.heap.size 9 1 (.slice p l c2) (SS D).length ((SS D).map Go.Proofs.encStr) ∧ Frm w (w3.setCell ⟨w.heap.size + 1, 0, none⟩ x) (fun k => k = g)) := by
    intro x
    obtain ⟨es, c', hm⟩ := map_at s3.hn
    exact ⟨s3.away (f4 x) (fun k e => by have e : k = _ := e; omega) (fun e => cc_ne hR s3.hg (by decide) e.symm) (fun e => cm_ne hR s3.hp e.symm) (fun e => cm_ne hR hm e.symm) (fun k hk e => s3.ch_ne hR (by decide) (e ▸ hk)) (fun b hb e => cc_ne hb hR (by decide) e), row_frm hrow (f4 x) (fun k hk e => row_ne hrow hR (by decide) (e ▸ hk)), f3.trans (f4 x) (fun k hk e => by have e : k = _ := e; omega)⟩
  clear s3 hrow f3 f4
  have hR4 := sc hR 0 (.slice p l c2)
  have hld := loadVar22 _ _ _ (dcell hR4 0 (.slice p l c2) rfl).1
  go_wp2
  refine bodyPost_ret (v := .tuple #[.slice p l c2, .int .i64 0]) ?_ rfl ⟨p, l, c2, rfl, FIN.out _⟩
  simp [results, Tryd.results9, asAddr, hld]
end Pq
end Go.Proofs.YtiljdiagabepbaaDoor
