import Derived.Test.YtiljdiagabepbaaDoorPbJ
import Derived.Test.YtiljdiagabepbaaDoorPbG2
namespace Go.Proofs.YtiljdiagabepbaaDoor
namespace Pb
open Go.RowKit
set_option linter.unusedVariables false
theorem three_blk (w : World) (o1 o2 o3 : Obj) : (((w.alloc o1).alloc o2).alloc o3).heap[w.heap.size]? = some o1 ∧ (((w.alloc o1).alloc o2).alloc o3).heap[w.heap.size + 1]? = some o2 ∧ (((w.alloc o1).alloc o2).alloc o3).heap[w.heap.size + 1 + 1]? = some o3 := by
  have h := heap_alloc_last ((w.alloc o1).alloc o2) o3
  have e : ((w.alloc o1).alloc o2).heap.size = w.heap.size + 1 + 1 := by simp
  rw [e] at h
  exact ⟨(Go.Deep.blk_alloc_lt _ _ _ (by rw [e]; omega)).trans (two_blk w o1 o2).1, (Go.Deep.blk_alloc_lt _ _ _ (by rw [e]; omega)).trans (two_blk w o1 o2).2, h⟩
set_option maxHeartbeats 1600000 in
set_option maxRecDepth 8000 in
theorem append_ok (w0 w : World) (g gp gn gd gf : Nat) (q ops used next writes wrote reads rb seeks : Int) (ch bv dv : Value) (xs data : List Value) (st : ST w0 w g gp gn gd gf q ops used next writes wrote reads rb seeks ch bv xs) (src : Src w g gf dv data) (hl : xs.length + data.length ≤ 1073741824) (hfit : (data.length : Int) ≤ q - used) (hq : q ≤ 1073741824) (o0 : 0 ≤ ops) (o1 : ops < 4611686018427387904)
    (u0 : 0 ≤ used) (u1 : used ≤ 1073741824) (a0 : 0 ≤ writes) (a1 : writes < 4611686018427387904) (b0 : 0 ≤ wrote) (b1 : wrote < 4611686018427387904) :
    Calls Tryd.prog 11 #[.pointer (some ⟨g, 0, none⟩), .string ⟨#[102]⟩, dv] w fun e w' => e = .returned (.int .i64 0) ∧ ∃ bv', ST w0 w' g gp gn gd gf q (ops + 1) (used + data.length) next (writes + 1) (wrote + data.length) reads rb seeks ch bv' (xs ++ data) ∧ Frm w w' (fun k => k = g ∨ k = gf ∨ bv.ownBlock = some k) ∧ ∀ k, bv'.ownBlock = some k → bv.ownBlock = some k ∨ w.heap.size ≤ k := by
  obtain ⟨v, hv, fv, dv1, dv2, dv3, sz⟩ : ∃ v, ((w.alloc (.cells #[.pointer (some ⟨g, 0, none⟩)] 23)).alloc (.cells #[.string ⟨#[102]⟩] 9)).alloc (.cells #[dv] 37) = v ∧ Frm w v (fun _ => False) ∧ v.heap[w.heap.size]? = some (.cells #[.pointer (some ⟨g, 0, none⟩)] 23 (0, 0)) ∧ v.heap[w.heap.size + 1]? = some (.cells #[.string ⟨#[102]⟩] 9 (0, 0)) ∧ v.heap[w.heap.size + 1 + 1]? = some (.cells #[dv] 37 (0, 0)) ∧ v.heap.size = w.heap.size + 3 :=
    ⟨_, rfl, Frm.of_below ((((Below.refl _ _).alloc (Nat.le_refl _) _).alloc (by simp) _).alloc (by simp; omega) _), (three_blk w _ _ _).1, (three_blk w _ _ _).2.1, (three_blk w _ _ _).2.2, by simp⟩
  have sv := st.frm fv
  have src' := src.frm fv (fun k e => e.elim)
  have lg := (Array.getElem?_eq_some_iff.1 st.hg).1
  obtain ⟨x1, -⟩ := dcell dv1 0 (.pointer (some ⟨g, 0, none⟩)) rfl
  obtain ⟨dp, dn, dc, rfl⟩ : ∃ p n c, dv = .slice p n c := by
    rcases src.2 with ⟨rfl, _⟩ | ⟨a, m, c, rfl, _⟩
    · exact ⟨_, _, _, rfl⟩
    · exact ⟨_, _, _, rfl⟩
  have HG : Hid (Calls Tryd.prog 20 #[.pointer (some ⟨g, 0, none⟩), .int .u8 2, .func (.func 28) #[] #[.pointer (some ⟨w.heap.size, 0, none⟩), .pointer (some ⟨w.heap.size + 1, 0, none⟩), .pointer (some ⟨w.heap.size + 1 + 1, 0, none⟩)]] v fun e w' => ∃ E, e = .returned (.int .i64 E) ∧ E = 0 ∧ ∃ bv', ST w0 w' g gp gn gd gf q (ops + 1) (used + data.length) next (writes + 1) (wrote + data.length) reads rb seeks ch bv' (xs ++ data) ∧ Frm w w' (fun k => k = g ∨ k = gf ∨ bv.ownBlock = some k) ∧ ∀ k, bv'.ownBlock = some k → bv.ownBlock = some k ∨ w.heap.size ≤ k) := by
    refine gate_append g gp gn gd q ops used ch _ v (fun E w' => E = 0 ∧ ∃ bv', ST w0 w' g gp gn gd gf q (ops + 1) (used + data.length) next (writes + 1) (wrote + data.length) reads rb seeks ch bv' (xs ++ data) ∧ Frm w w' (fun k => k = g ∨ k = gf ∨ bv.ownBlock = some k) ∧ ∀ k, bv'.ownBlock = some k → bv.ownBlock = some k ∨ w.heap.size ≤ k) o0 o1 sv.hg sv.hp (fun W hW bW => ?_)
    obtain ⟨sW, fW⟩ := sv.ops' hW bW
    refine (append_clo w0 W g gp gn gd gf w.heap.size (w.heap.size + 1) (w.heap.size + 1 + 1) q (ops + 1) used next writes wrote reads rb seeks ch bv (.slice dp dn dc) xs data sW ((fW.block _ (by omega) (by omega)).trans dv1) ((fW.block _ (by omega) (by omega)).trans dv2) ((fW.block _ (by omega) (by omega)).trans dv3) (src'.frm fW (fun k e => .inl e)) hl hfit hq u0 u1 a0 a1 b0 b1).mono ?_
    rintro e w' ⟨E, rfl, hE, bv', q1, q2, q3⟩
    refine ⟨E, rfl, hE, bv', q1, ?_, fun k hk => (q3 k hk).imp id (fun e => by have := fW.size; omega)⟩
    exact (fv.trans' fW (S := fun k => k = g) (fun k _ e => e.elim) (fun k _ e => e)).trans' q2 (fun k _ e => .inl e) (fun k _ e => e)
  clear sv src' src st fv dv1 dv2 dv3
  go_enter Tryd.func11, Tryd.ntmps11
  go_wp2_with (fail)
  refine HG.out.mono ?_
  rintro e3 w3 ⟨E, rfl, rfl, hD⟩
  go_wp2
  go_ret
  exact ⟨rfl, hD⟩
set_option maxHeartbeats 1600000 in
set_option maxRecDepth 8000 in
theorem append_no (w0 w : World) (g gp gn gd gf : Nat) (q ops used next writes wrote reads rb seeks : Int) (ch bv dv : Value) (xs data : List Value) (st : ST w0 w g gp gn gd gf q ops used next writes wrote reads rb seeks ch bv xs) (src : Src w g gf dv data) (hl : xs.length + data.length ≤ 1073741824) (hfit : q - used < (data.length : Int)) (hq0 : 0 ≤ q) (hq : q ≤ 1073741824) (o0 : 0 ≤ ops) (o1 : ops < 4611686018427387904)
    (u0 : 0 ≤ used) (u1 : used ≤ 1073741824) (a0 : 0 ≤ writes) (a1 : writes < 4611686018427387904) (b0 : 0 ≤ wrote) (b1 : wrote < 4611686018427387904) :
    Calls Tryd.prog 11 #[.pointer (some ⟨g, 0, none⟩), .string ⟨#[102]⟩, dv] w fun e w' => e = .returned (.int .i64 33) ∧ ST w0 w' g gp gn gd gf q (ops + 1) used next writes wrote reads rb seeks ch bv xs ∧ Frm w w' (fun k => k = g) := by
  obtain ⟨v, hv, fv, dv1, dv2, dv3, sz⟩ : ∃ v, ((w.alloc (.cells #[.pointer (some ⟨g, 0, none⟩)] 23)).alloc (.cells #[.string ⟨#[102]⟩] 9)).alloc (.cells #[dv] 37) = v ∧ Frm w v (fun _ => False) ∧ v.heap[w.heap.size]? = some (.cells #[.pointer (some ⟨g, 0, none⟩)] 23 (0, 0)) ∧ v.heap[w.heap.size + 1]? = some (.cells #[.string ⟨#[102]⟩] 9 (0, 0)) ∧ v.heap[w.heap.size + 1 + 1]? = some (.cells #[dv] 37 (0, 0)) ∧ v.heap.size = w.heap.size + 3 :=
    ⟨_, rfl, Frm.of_below ((((Below.refl _ _).alloc (Nat.le_refl _) _).alloc (by simp) _).alloc (by simp; omega) _), (three_blk w _ _ _).1, (three_blk w _ _ _).2.1, (three_blk w _ _ _).2.2, by simp⟩
  have sv := st.frm fv
  have src' := src.frm fv (fun k e => e.elim)
  have lg := (Array.getElem?_eq_some_iff.1 st.hg).1
  obtain ⟨x1, -⟩ := dcell dv1 0 (.pointer (some ⟨g, 0, none⟩)) rfl
  obtain ⟨dp, dn, dc, rfl⟩ : ∃ p n c, dv = .slice p n c := by
    rcases src.2 with ⟨rfl, _⟩ | ⟨a, m, c, rfl, _⟩
    · exact ⟨_, _, _, rfl⟩
    · exact ⟨_, _, _, rfl⟩
  have HG : Hid (Calls Tryd.prog 20 #[.pointer (some ⟨g, 0, none⟩), .int .u8 2, .func (.func 28) #[] #[.pointer (some ⟨w.heap.size, 0, none⟩), .pointer (some ⟨w.heap.size + 1, 0, none⟩), .pointer (some ⟨w.heap.size + 1 + 1, 0, none⟩)]] v fun e w' => ∃ E, e = .returned (.int .i64 E) ∧ E = 33 ∧ ST w0 w' g gp gn gd gf q (ops + 1) used next writes wrote reads rb seeks ch bv xs ∧ Frm w w' (fun k => k = g)) := by
    refine gate_append g gp gn gd q ops used ch _ v (fun E w' => E = 33 ∧ ST w0 w' g gp gn gd gf q (ops + 1) used next writes wrote reads rb seeks ch bv xs ∧ Frm w w' (fun k => k = g)) o0 o1 sv.hg sv.hp (fun W hW bW => ?_)
    obtain ⟨sW, fW⟩ := sv.ops' hW bW
    refine (append_full w0 W g gp gn gd gf w.heap.size (w.heap.size + 1) (w.heap.size + 1 + 1) q (ops + 1) used next writes wrote reads rb seeks ch bv (.slice dp dn dc) xs data sW ((fW.block _ (by omega) (by omega)).trans dv1) ((fW.block _ (by omega) (by omega)).trans dv2) ((fW.block _ (by omega) (by omega)).trans dv3) (src'.frm fW (fun k e => .inl e)) hl hfit hq0 hq u0 u1 a0 a1 b0 b1).mono ?_
    rintro e w' ⟨E, rfl, hE, q1, q2⟩
    refine ⟨E, rfl, hE, q1, ?_⟩
    exact (fv.trans' fW (S := fun k => k = g) (fun k _ e => e.elim) (fun k _ e => e)).trans' q2 (fun k _ e => e) (fun k _ e => e.elim)
  clear sv src' src st fv dv1 dv2 dv3
  go_enter Tryd.func11, Tryd.ntmps11
  go_wp2_with (fail)
  refine HG.out.mono ?_
  rintro e3 w3 ⟨E, rfl, rfl, hD⟩
  go_wp2
  go_ret
  exact ⟨rfl, hD⟩
end Pb
end Go.Proofs.YtiljdiagabepbaaDoor
