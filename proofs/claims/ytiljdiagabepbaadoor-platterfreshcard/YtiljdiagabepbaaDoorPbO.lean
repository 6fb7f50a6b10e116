import Derived.Test.YtiljdiagabepbaaDoorPbM
import Derived.Test.YtiljdiagabepbaaDoorPbG3
namespace Go.Proofs.YtiljdiagabepbaaDoor
namespace Pb
open Go.RowKit
set_option linter.unusedVariables false
theorem loadVar3 (w : World) (b : Nat) (x : Value) (h : w.cell? ⟨b, 0, none⟩ = some x) : (loadVar 3 ⟨b, 0, none⟩).run Tryd.prog w = .ok x w := by
  simp [loadVar, h]
theorem five_blk (w : World) (o1 o2 o3 o4 o5 : Obj) : ∃ v, ((((w.alloc o1).alloc o2).alloc o3).alloc o4).alloc o5 = v ∧ Frm w v (fun _ => False) ∧ v.heap[w.heap.size]? = some o1 ∧ v.heap[w.heap.size + 1]? = some o2 ∧ v.heap[w.heap.size + 1 + 1]? = some o3 ∧ v.heap[w.heap.size + 1 + 1 + 1]? = some o4 ∧ v.heap[w.heap.size + 1 + 1 + 1 + 1]? = some o5 ∧ v.heap.size = w.heap.size + 5 := by
  have e1 : (w.alloc o1).heap.size = w.heap.size + 1 := by simp
  have e2 : ((w.alloc o1).alloc o2).heap.size = w.heap.size + 1 + 1 := by simp
  have e3 : (((w.alloc o1).alloc o2).alloc o3).heap.size = w.heap.size + 1 + 1 + 1 := by simp
  have e4 : ((((w.alloc o1).alloc o2).alloc o3).alloc o4).heap.size = w.heap.size + 1 + 1 + 1 + 1 := by simp
  have l1 := heap_alloc_last w o1
  have l2 := heap_alloc_last (w.alloc o1) o2
  have l3 := heap_alloc_last ((w.alloc o1).alloc o2) o3
  have l4 := heap_alloc_last (((w.alloc o1).alloc o2).alloc o3) o4
  have l5 := heap_alloc_last ((((w.alloc o1).alloc o2).alloc o3).alloc o4) o5
  rw [e1] at l2; rw [e2] at l3; rw [e3] at l4; rw [e4] at l5
  refine ⟨_, rfl, Frm.of_below ((((((Below.refl _ _).alloc (Nat.le_refl _) _).alloc (by omega) _).alloc (by omega) _).alloc (by omega) _).alloc (by omega) _), ?_, ?_, ?_, ?_, l5, by simp⟩
  · exact (Go.Deep.blk_alloc_lt _ _ _ (by omega)).trans ((Go.Deep.blk_alloc_lt _ _ _ (by omega)).trans ((Go.Deep.blk_alloc_lt _ _ _ (by omega)).trans ((Go.Deep.blk_alloc_lt _ _ _ (by omega)).trans l1)))
  · exact (Go.Deep.blk_alloc_lt _ _ _ (by omega)).trans ((Go.Deep.blk_alloc_lt _ _ _ (by omega)).trans ((Go.Deep.blk_alloc_lt _ _ _ (by omega)).trans l2))
  · exact (Go.Deep.blk_alloc_lt _ _ _ (by omega)).trans ((Go.Deep.blk_alloc_lt _ _ _ (by omega)).trans l3)
  · exact (Go.Deep.blk_alloc_lt _ _ _ (by omega)).trans l4
set_option maxHeartbeats 1600000 in
set_option maxRecDepth 8000 in
theorem readat_ok (w0 w : World) (g gp gn gd gf gb k m : Nat) (q ops used next writes wrote reads rb seeks : Int) (ch bv : Value) (xs cur : List Value) (st : ST w0 w g gp gn gd gf q ops used next writes wrote reads rb seeks ch bv xs) (o0 : 0 ≤ ops) (o1 : ops < 4611686018427387904)
    (hb : w.heap[gb]? = some (.cells cur.toArray 5 (0, 0))) (hm : cur.length = m) (hgb : bv.ownBlock ≠ some gb) (hk : k ≤ xs.length) (hx : xs.length ≤ 1073741824) (hm1 : m ≤ 1073741824) (hn : next = k) (h1 : ∀ v ∈ xs, v.oneCell' = true) (hgb0 : w0.heap.size ≤ gb)
    (a0 : 0 ≤ reads) (a1 : reads < 4611686018427387904) (b0 : 0 ≤ rb) (b1 : rb < 4611686018427387904) :
    Calls Tryd.prog 12 #[.pointer (some ⟨g, 0, none⟩), .string ⟨#[102]⟩, .int .i64 k, .slice (some ⟨gb, 0, none⟩) m m] w fun e w' => e = .returned (.tuple #[.int .i64 ((xs.drop k).take m).length, .int .i64 0]) ∧ ST w0 w' g gp gn gd gf q (ops + 1) used (k + ((xs.drop k).take m).length) writes wrote (reads + 1) (rb + ((xs.drop k).take m).length) seeks ch bv xs ∧ w'.heap[gb]? = some (.cells (splice cur 0 ((xs.drop k).take m)).toArray 5 (0, 0)) ∧ Frm w w' (fun j => j = g ∨ j = gf ∨ j = gb) := by
  obtain ⟨v, hv, fv, dv1, dv2, dv3, dv4, dv5, sz⟩ := five_blk w (.cells #[.pointer (some ⟨g, 0, none⟩)] 23) (.cells #[.string ⟨#[102]⟩] 9) (.cells #[.int .i64 k] 2) (.cells #[.slice (some ⟨gb, 0, none⟩) m m] 37) (.cells #[.int .i64 0] 3)
  have sv := st.frm fv
  have b0' := st.bel.size
  obtain ⟨x1, -⟩ := dcell dv1 0 (.pointer (some ⟨g, 0, none⟩)) rfl
  have HG : Hid (Calls Tryd.prog 20 #[.pointer (some ⟨g, 0, none⟩), .int .u8 1, .func (.func 32) #[] #[.pointer (some ⟨w.heap.size, 0, none⟩), .pointer (some ⟨w.heap.size + 1, 0, none⟩), .pointer (some ⟨w.heap.size + 1 + 1, 0, none⟩), .pointer (some ⟨w.heap.size + 1 + 1 + 1, 0, none⟩), .pointer (some ⟨w.heap.size + 1 + 1 + 1 + 1, 0, none⟩)]] v fun e w' => ∃ E, e = .returned (.int .i64 E) ∧ E = 0 ∧ w'.heap[w.heap.size + 1 + 1 + 1 + 1]? = some (.cells #[.int .i64 ((xs.drop k).take m).length] 3 (0, 0)) ∧ ST w0 w' g gp gn gd gf q (ops + 1) used (k + ((xs.drop k).take m).length) writes wrote (reads + 1) (rb + ((xs.drop k).take m).length) seeks ch bv xs ∧ w'.heap[gb]? = some (.cells (splice cur 0 ((xs.drop k).take m)).toArray 5 (0, 0)) ∧ Frm w w' (fun j => j = g ∨ j = gf ∨ j = gb)) := by
    refine gate_readat g gp gn gd q ops used ch _ v (fun E w' => E = 0 ∧ w'.heap[w.heap.size + 1 + 1 + 1 + 1]? = some (.cells #[.int .i64 ((xs.drop k).take m).length] 3 (0, 0)) ∧ ST w0 w' g gp gn gd gf q (ops + 1) used (k + ((xs.drop k).take m).length) writes wrote (reads + 1) (rb + ((xs.drop k).take m).length) seeks ch bv xs ∧ w'.heap[gb]? = some (.cells (splice cur 0 ((xs.drop k).take m)).toArray 5 (0, 0)) ∧ Frm w w' (fun j => j = g ∨ j = gf ∨ j = gb)) o0 o1 sv.hg sv.hp (fun W hW bW => ?_)
    obtain ⟨sW, fW⟩ := sv.ops' hW bW
    have lg := (Array.getElem?_eq_some_iff.1 st.hg).1
    have kw : ∀ {b : Nat} {o : Obj}, v.heap[b]? = some o → b ≠ g → W.heap[b]? = some o := fun h hn => (fW.block _ (Array.getElem?_eq_some_iff.1 h).1 hn).trans h
    refine (readat_clo w0 W g gp gn gd gf w.heap.size (w.heap.size + 1) (w.heap.size + 1 + 1) (w.heap.size + 1 + 1 + 1) (w.heap.size + 1 + 1 + 1 + 1) gb k m q (ops + 1) used next writes wrote reads rb seeks ch bv xs cur sW (kw dv1 (by omega)) (kw dv2 (by omega)) (kw dv3 (by omega)) (kw dv4 (by omega)) (kw dv5 (by omega)) (kw ((fv.block gb (Array.getElem?_eq_some_iff.1 hb).1 (fun e => e)).trans hb) (fun e => cc_ne st.hg hb (by decide) e.symm)) hm hgb hk hx hm1 hn h1 hgb0 (by omega) a0 a1 b0 b1).mono ?_
    rintro e w' ⟨E, rfl, hE, q1, q2, q3, q4⟩
    refine ⟨E, rfl, hE, q3, q1, q2, ?_⟩
    refine (fv.trans' fW (S := fun k => k = g) (fun k _ e => e.elim) (fun k _ e => e)).trans' q4 (fun k _ e => .inl e) (fun j hj e => ?_)
    rcases e with e | e | e
    · exact .inr (.inl e)
    · exact .inr (.inr e)
    · omega
  clear sv st fv dv1 dv2 dv3 dv4 dv5
  go_enter Tryd.func12, Tryd.ntmps12
  go_wp2_with (fail)
  refine HG.out.mono ?_
  rintro e3 w3 ⟨E, rfl, rfl, hR, hD⟩
  obtain ⟨r1, r2⟩ := dcell hR 0 (.int .i64 ((xs.drop k).take m).length) rfl
  have FIN : Hid (∀ x, ST w0 (w3.setCell ⟨w.heap.size + 1 + 1 + 1 + 1, 0, none⟩ x) g gp gn gd gf q (ops + 1) used (k + ((xs.drop k).take m).length) writes wrote (reads + 1) (rb + ((xs.drop k).take m).length) seeks ch bv xs ∧ (w3.setCell ⟨w.heap.size + 1 + 1 + 1 + 1, 0, none⟩ x).heap[gb]? = some (.cells (splice cur 0 ((xs.drop k).take m)).toArray 5 (0, 0)) ∧ Frm w (w3.setCell ⟨w.heap.size + 1 + 1 + 1 + 1, 0, none⟩ x) (fun j => j = g ∨ j = gf ∨ j = gb)) := by
    intro x
    have f4 : Frm w3 (w3.setCell ⟨w.heap.size + 1 + 1 + 1 + 1, 0, none⟩ x) (fun k => k = w.heap.size + 1 + 1 + 1 + 1) := Frm.setCell w3 ⟨w.heap.size + 1 + 1 + 1 + 1, 0, none⟩ x
    have s3 := hD.1
    refine ⟨s3.turn f4 (fun k e => by have e : k = _ := e; omega) (fun e => cc_ne hR s3.hg (by decide) e.symm) (fun e => cm_ne hR s3.hp e.symm) (fun e => cm_ne hR s3.hn e.symm) (fun k hk e => own_ne s3.ho hR (by decide) (e ▸ hk)) ((f4.block gf (Array.getElem?_eq_some_iff.1 s3.hf).1 (fun e => cc_ne hR s3.hf (by decide) e.symm)).trans s3.hf), (f4.block gb (Array.getElem?_eq_some_iff.1 hD.2.1).1 (fun e => cc_ne hR hD.2.1 (by decide) e.symm)).trans hD.2.1, hD.2.2.trans f4 (fun k hk e => by have e : k = _ := e; omega)⟩
  clear hD
  have hR4 := sc hR 0 (.int .i64 ((xs.drop k).take m).length)
  have hld := loadVar3 _ _ _ (dcell hR4 0 (.int .i64 ((xs.drop k).take m).length) rfl).1
  go_wp2
  refine bodyPost_ret (v := .tuple #[.int .i64 ((xs.drop k).take m).length, .int .i64 0]) ?_ rfl ⟨rfl, FIN.out _⟩
  try simp only [List.length_take, List.length_drop] at hld
  simp [results, Tryd.results12, asAddr, hld]
set_option maxHeartbeats 1600000 in
set_option maxRecDepth 8000 in
theorem readat_no (w0 w : World) (g gp gn gd gf k : Nat) (q ops used next writes wrote reads rb seeks : Int) (ch bv : Value) (xs : List Value) (st : ST w0 w g gp gn gd gf q ops used next writes wrote reads rb seeks ch bv xs) (o0 : 0 ≤ ops) (o1 : ops < 4611686018427387904)
    (hk : xs.length < k) (hk1 : k ≤ 1073741825) (hx : xs.length ≤ 1073741824) :
    Calls Tryd.prog 12 #[.pointer (some ⟨g, 0, none⟩), .string ⟨#[102]⟩, .int .i64 k, .slice none 0 0] w fun e w' => e = .returned (.tuple #[.int .i64 0, .int .i64 34]) ∧ ST w0 w' g gp gn gd gf q (ops + 1) used next writes wrote reads rb seeks ch bv xs ∧ Frm w w' (fun j => j = g) := by
  obtain ⟨v, hv, fv, dv1, dv2, dv3, dv4, dv5, sz⟩ := five_blk w (.cells #[.pointer (some ⟨g, 0, none⟩)] 23) (.cells #[.string ⟨#[102]⟩] 9) (.cells #[.int .i64 k] 2) (.cells #[.slice none 0 0] 37) (.cells #[.int .i64 0] 3)
  have sv := st.frm fv
  have b0' := st.bel.size
  obtain ⟨x1, -⟩ := dcell dv1 0 (.pointer (some ⟨g, 0, none⟩)) rfl
  have HG : Hid (Calls Tryd.prog 20 #[.pointer (some ⟨g, 0, none⟩), .int .u8 1, .func (.func 32) #[] #[.pointer (some ⟨w.heap.size, 0, none⟩), .pointer (some ⟨w.heap.size + 1, 0, none⟩), .pointer (some ⟨w.heap.size + 1 + 1, 0, none⟩), .pointer (some ⟨w.heap.size + 1 + 1 + 1, 0, none⟩), .pointer (some ⟨w.heap.size + 1 + 1 + 1 + 1, 0, none⟩)]] v fun e w' => ∃ E, e = .returned (.int .i64 E) ∧ E = 34 ∧ w'.heap[w.heap.size + 1 + 1 + 1 + 1]? = some (.cells #[.int .i64 0] 3 (0, 0)) ∧ ST w0 w' g gp gn gd gf q (ops + 1) used next writes wrote reads rb seeks ch bv xs ∧ Frm w w' (fun j => j = g)) := by
    refine gate_readat g gp gn gd q ops used ch _ v (fun E w' => E = 34 ∧ w'.heap[w.heap.size + 1 + 1 + 1 + 1]? = some (.cells #[.int .i64 0] 3 (0, 0)) ∧ ST w0 w' g gp gn gd gf q (ops + 1) used next writes wrote reads rb seeks ch bv xs ∧ Frm w w' (fun j => j = g)) o0 o1 sv.hg sv.hp (fun W hW bW => ?_)
    obtain ⟨sW, fW⟩ := sv.ops' hW bW
    have lg := (Array.getElem?_eq_some_iff.1 st.hg).1
    have kw : ∀ {b : Nat} {o : Obj}, v.heap[b]? = some o → b ≠ g → W.heap[b]? = some o := fun h hn => (fW.block _ (Array.getElem?_eq_some_iff.1 h).1 hn).trans h
    refine (readat_far w0 W g gp gn gd gf w.heap.size (w.heap.size + 1) (w.heap.size + 1 + 1) (w.heap.size + 1 + 1 + 1) (w.heap.size + 1 + 1 + 1 + 1) k q (ops + 1) used next writes wrote reads rb seeks ch bv xs sW (kw dv1 (by omega)) (kw dv2 (by omega)) (kw dv3 (by omega)) hk hk1 hx).mono ?_
    rintro e w' ⟨E, rfl, hE, q1, q2⟩
    have hW5 := kw dv5 (by omega)
    refine ⟨E, rfl, hE, (q2.block _ (Array.getElem?_eq_some_iff.1 hW5).1 (fun e => e)).trans hW5, q1, ?_⟩
    exact (fv.trans' fW (S := fun k => k = g) (fun k _ e => e.elim) (fun k _ e => e)).trans' q2 (fun k _ e => e) (fun k _ e => e.elim)
  clear sv st fv dv1 dv2 dv3 dv4 dv5
  go_enter Tryd.func12, Tryd.ntmps12
  go_wp2_with (fail)
  refine HG.out.mono ?_
  rintro e3 w3 ⟨E, rfl, rfl, hR, hD⟩
  obtain ⟨r1, r2⟩ := dcell hR 0 (.int .i64 0) rfl
  have FIN : Hid (∀ x, ST w0 (w3.setCell ⟨w.heap.size + 1 + 1 + 1 + 1, 0, none⟩ x) g gp gn gd gf q (ops + 1) used next writes wrote reads rb seeks ch bv xs ∧ Frm w (w3.setCell ⟨w.heap.size + 1 + 1 + 1 + 1, 0, none⟩ x) (fun j => j = g)) := by
    intro x
    have f4 : Frm w3 (w3.setCell ⟨w.heap.size + 1 + 1 + 1 + 1, 0, none⟩ x) (fun k => k = w.heap.size + 1 + 1 + 1 + 1) := Frm.setCell w3 ⟨w.heap.size + 1 + 1 + 1 + 1, 0, none⟩ x
    have s3 := hD.1
    refine ⟨s3.turn f4 (fun k e => by have e : k = _ := e; omega) (fun e => cc_ne hR s3.hg (by decide) e.symm) (fun e => cm_ne hR s3.hp e.symm) (fun e => cm_ne hR s3.hn e.symm) (fun k hk e => own_ne s3.ho hR (by decide) (e ▸ hk)) ((f4.block gf (Array.getElem?_eq_some_iff.1 s3.hf).1 (fun e => cc_ne hR s3.hf (by decide) e.symm)).trans s3.hf), hD.2.trans f4 (fun k hk e => by have e : k = _ := e; omega)⟩
  clear hD
  have hR4 := sc hR 0 (.int .i64 0)
  have hld := loadVar3 _ _ _ (dcell hR4 0 (.int .i64 0) rfl).1
  go_wp2
  refine bodyPost_ret (v := .tuple #[.int .i64 0, .int .i64 34]) ?_ rfl ⟨rfl, FIN.out _⟩
  try simp only [List.length_take, List.length_drop] at hld
  simp [results, Tryd.results12, asAddr, hld]
end Pb
end Go.Proofs.YtiljdiagabepbaaDoor
