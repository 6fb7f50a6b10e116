import Derived.Test.YtiljdiagabepbaaDoorPbI
namespace Go.Proofs.YtiljdiagabepbaaDoor
namespace Pb
open Go.RowKit
set_option linter.unusedVariables false
/-- A disk without faults, whose one file f holds xs. -/
structure ST (w0 w : World) (g gp gn gd gf : Nat) (q ops used next writes wrote reads rb seeks : Int) (ch bv : Value) (xs : List Value) : Prop where
  bel : Below w0.heap.size w0 w
  bg : w0.heap.size ≤ g
  bf : w0.heap.size ≤ gf
  hg : w.heap[g]? = some (.cells (dk g q ops gp gn gd ch used) 68 (0, 0))
  hp : w.heap[gp]? = some (.map #[] 0)
  hn : w.heap[gn]? = some (.map (m1 gf 0) 1)
  hf : w.heap[gf]? = some (.cells (fl bv next writes wrote reads rb seeks) 79 (0, 0))
  ho : w.ownsRow w0.heap.size 5 1 bv xs.length xs
theorem cm_ne {w : World} {a b : Nat} {cur : Array Value} {t : TypeId} {f : Nat × Nat} {es : Array MapEntry} {c : Nat} (h1 : w.heap[a]? = some (.cells cur t f)) (h2 : w.heap[b]? = some (.map es c)) : a ≠ b := by
  rintro rfl; rw [h1] at h2; cases h2
theorem cc_ne {w : World} {a b : Nat} {cur cur' : Array Value} {t t' : TypeId} {f f' : Nat × Nat} (h1 : w.heap[a]? = some (.cells cur t f)) (h2 : w.heap[b]? = some (.cells cur' t' f')) (ht : t ≠ t') : a ≠ b := by
  rintro rfl; rw [h1] at h2; injection h2 with e; injection e with e1 e2; exact ht e2
theorem own_nm {w : World} {base : Nat} {v : Value} {n : Nat} {xs : List Value} (ho : w.ownsRow base 5 1 v n xs) {b : Nat} {es : Array MapEntry} {c : Nat} (h : w.heap[b]? = some (.map es c)) : v.ownBlock ≠ some b := by
  rcases ho.2 with ⟨rfl, _⟩ | ⟨g', cap, cur', rfl, _, hg', _⟩
  · simp [Value.ownBlock]
  · simp only [Value.ownBlock]
    intro e
    injection e with e
    exact cm_ne hg' h e
/-- A step that touches only the disk's cells. -/
theorem ST.frm {w0 w w' : World} {g gp gn gd gf : Nat} {q ops used next writes wrote reads rb seeks : Int} {ch bv : Value} {xs : List Value} (h : ST w0 w g gp gn gd gf q ops used next writes wrote reads rb seeks ch bv xs) (hf : Frm w w' (fun _ => False)) : ST w0 w' g gp gn gd gf q ops used next writes wrote reads rb seeks ch bv xs :=
  ⟨hf.below h.bel (h.bel.size) (fun k e => e.elim), h.bg, h.bf, (hf.block g (Array.getElem?_eq_some_iff.1 h.hg).1 (fun e => e)).trans h.hg, (hf.block gp (Array.getElem?_eq_some_iff.1 h.hp).1 (fun e => e)).trans h.hp, (hf.block gn (Array.getElem?_eq_some_iff.1 h.hn).1 (fun e => e)).trans h.hn, (hf.block gf (Array.getElem?_eq_some_iff.1 h.hf).1 (fun e => e)).trans h.hf, own_frm h.ho hf (fun _ _ e => e)⟩
theorem ST.own_ge {w0 w : World} {g gp gn gd gf : Nat} {q ops used next writes wrote reads rb seeks : Int} {ch bv : Value} {xs : List Value} (h : ST w0 w g gp gn gd gf q ops used next writes wrote reads rb seeks ch bv xs) (k : Nat) (hk : bv.ownBlock = some k) : w0.heap.size ≤ k ∧ k < w.heap.size := h.ho.lt k hk
/-- The disk's number of operations is turned. -/
theorem ST.ops' {w0 w W : World} {g gp gn gd gf : Nat} {q ops ops' used next writes wrote reads rb seeks : Int} {ch bv : Value} {xs : List Value} (h : ST w0 w g gp gn gd gf q ops used next writes wrote reads rb seeks ch bv xs) (hW : W.heap[g]? = some (.cells (dk g q ops' gp gn gd ch used) 68 (0, 0))) (bW : Below w.heap.size (w.setCell ⟨g, 2, none⟩ (.int .i64 ops')) W) : ST w0 W g gp gn gd gf q ops' used next writes wrote reads rb seeks ch bv xs ∧ Frm w W (fun k => k = g) := by
  have f0 : Frm w (w.setCell ⟨g, 2, none⟩ (.int .i64 ops')) (fun k => k = g) := Frm.setCell w _ _
  have f1 : Frm w W (fun k => k = g) := f0.trans (S2 := fun k => k = g) (Frm.of_below (by simpa using bW)) (fun k _ e => e)
  have n1 : gp ≠ g := Ne.symm (cm_ne h.hg h.hp)
  have n2 : gn ≠ g := Ne.symm (cm_ne h.hg h.hn)
  have n3 : gf ≠ g := Ne.symm (cc_ne h.hg h.hf (by decide))
  exact ⟨⟨f1.below h.bel h.bel.size (fun k e => by have := h.bg; omega), h.bg, h.bf, hW, (f1.block gp (Array.getElem?_eq_some_iff.1 h.hp).1 n1).trans h.hp, (f1.block gn (Array.getElem?_eq_some_iff.1 h.hn).1 n2).trans h.hn, (f1.block gf (Array.getElem?_eq_some_iff.1 h.hf).1 n3).trans h.hf, own_frm h.ho f1 (fun k hk e => own_ne h.ho h.hg (by decide) (e ▸ hk))⟩, f1⟩
theorem frm_drewN (w : World) (n : Nat) : Frm w (w.drewN n) (fun _ => False) := ⟨rfl, rfl, rfl, Nat.le_refl _, fun _ _ _ => rfl⟩
set_option maxHeartbeats 1600000 in
set_option maxRecDepth 8000 in
theorem append_clo (w0 w : World) (g gp gn gd gf bd bn bx : Nat) (q ops used next writes wrote reads rb seeks : Int) (ch bv dv : Value) (xs data : List Value) (st : ST w0 w g gp gn gd gf q ops used next writes wrote reads rb seeks ch bv xs) (hd : w.heap[bd]? = some (.cells #[.pointer (some ⟨g, 0, none⟩)] 23 (0, 0))) (hs : w.heap[bn]? = some (.cells #[.string ⟨#[102]⟩] 9 (0, 0))) (hx : w.heap[bx]? = some (.cells #[dv] 37 (0, 0))) (src : Src w g gf dv data) (hl : xs.length + data.length ≤ 1073741824) (hfit : (data.length : Int) ≤ q - used) (hq : q ≤ 1073741824)
    (u0 : 0 ≤ used) (u1 : used ≤ 1073741824) (a0 : 0 ≤ writes) (a1 : writes < 4611686018427387904) (b0 : 0 ≤ wrote) (b1 : wrote < 4611686018427387904) :
    Calls Tryd.prog 28 (#[.agg #[.int .i64 0, .int .i64 0, .int .i64 0]] ++ #[.pointer (some ⟨bd, 0, none⟩), .pointer (some ⟨bn, 0, none⟩), .pointer (some ⟨bx, 0, none⟩)]) w fun e w' => ∃ E, e = .returned (.int .i64 E) ∧ E = 0 ∧ ∃ bv', ST w0 w' g gp gn gd gf q ops (used + data.length) next (writes + 1) (wrote + data.length) reads rb seeks ch bv' (xs ++ data) ∧ Frm w w' (fun k => k = g ∨ k = gf ∨ bv.ownBlock = some k) ∧ ∀ k, bv'.ownBlock = some k → bv.ownBlock = some k ∨ w.heap.size ≤ k := by
  show Calls Tryd.prog 28 #[.agg #[.int .i64 0, .int .i64 0, .int .i64 0], .pointer (some ⟨bd, 0, none⟩), .pointer (some ⟨bn, 0, none⟩), .pointer (some ⟨bx, 0, none⟩)] w _
  obtain ⟨v, hv, fv⟩ : ∃ v, w.alloc (.cells #[.int .i64 0, .int .i64 0, .int .i64 0] 73) = v ∧ Frm w v (fun _ => False) := ⟨_, rfl, Frm.of_below ((Below.refl _ _).alloc (Nat.le_refl _) _)⟩
  have vs : v.heap[w.heap.size]? = some (.cells #[.int .i64 0, .int .i64 0, .int .i64 0] 73 (0, 0)) := by rw [← hv]; exact heap_alloc_last w _
  have sv := st.frm fv
  have dv' := (fv.block bd (Array.getElem?_eq_some_iff.1 hd).1 (fun e => e)).trans hd
  have sv' := (fv.block bn (Array.getElem?_eq_some_iff.1 hs).1 (fun e => e)).trans hs
  have xv' := (fv.block bx (Array.getElem?_eq_some_iff.1 hx).1 (fun e => e)).trans hx
  obtain ⟨c7, -⟩ := dcell sv.hg 7 (.map (some gn)) rfl
  obtain ⟨c1, -⟩ := dcell sv.hg 1 (.int .i64 q) rfl
  obtain ⟨c10, -⟩ := dcell sv.hg 10 (.int .i64 used) rfl
  obtain ⟨d0, -⟩ := dcell dv' 0 (.pointer (some ⟨g, 0, none⟩)) rfl
  obtain ⟨s0, -⟩ := dcell sv' 0 (.string ⟨#[102]⟩) rfl
  obtain ⟨x0, -⟩ := dcell xv' 0 dv rfl
  obtain ⟨k1, -⟩ := dcell vs 1 (.int .i64 0) rfl
  have hnv := sv.hn
  have hlen := len_src src
  have src' : Src v g gf dv data := src.frm fv (fun k e => e.elim)
  have SV : Hid (ST w0 v g gp gn gd gf q ops used next writes wrote reads rb seeks ch bv xs ∧ Src v g gf dv data ∧ Frm w v (fun _ => False)) := ⟨sv, src', fv⟩
  have hsl : ∃ p n c, dv = .slice p n c := by
    rcases src.2 with ⟨rfl, _⟩ | ⟨a, m, c, rfl, _⟩
    · exact ⟨_, _, _, rfl⟩
    · exact ⟨_, _, _, rfl⟩
  obtain ⟨dp, dn, dc, rfl⟩ := hsl
  have HFN : Hid (∀ W, W.heap[gn]? = some (.map (m1 gf 0) 1) → Calls Tryd.prog 22 #[.map (some gn), .string ⟨#[102]⟩] W fun e w' => e = .returned (.tuple #[.pointer (some ⟨gf, 0, none⟩), .int .i64 0]) ∧ w' = W) := fun W h => find_some gn 1 gf 0 (m1 gf 0) W h (find_m1 gf 0)
  clear sv src' src st fv hd hs hx dv' sv' xv'
  go_enter Tryd.func28, Tryd.ntmps28
  go_wp2
  clear hv
  have hS0 : Hid (v.drew.cell? ⟨bd, 0, none⟩ = some (.pointer (some ⟨g, 0, none⟩)) ∧ v.drew.cell? ⟨g, 7, none⟩ = some (.map (some gn)) ∧ v.drew.cell? ⟨bn, 0, none⟩ = some (.string ⟨#[102]⟩)) := ⟨d0, c7, s0⟩
  go_region_held3 (fun W => W.cell? ⟨bd, 0, none⟩ = some (.pointer (some ⟨g, 0, none⟩)) ∧ W.cell? ⟨g, 7, none⟩ = some (.map (some gn)) ∧ W.cell? ⟨bn, 0, none⟩ = some (.string ⟨#[102]⟩)) ((with_reducible exact hS0.out))
    ((go_at_call 22; refine (HFN.out _ (by exact hnv)).mono ?_; rintro e5 w5 ⟨rfl, h5⟩; subst w5))
  clear hS0
  go_wp2_with (fail)
  go_quiet (fail)
  have hft : ¬ (q - used < (data.length : Int)) := by omega
  go_wp2_with (fail)
  obtain ⟨st', src', fv⟩ := SV.out
  have fn : Frm v (v.drewN (1 + nq)) (fun _ => False) := frm_drewN v _
  have st2 := st'.frm fn
  have n1 := cc_ne vs st'.hg (by decide)
  have n2 := cc_ne vs st'.hf (by decide)
  have n3 := own_ne st'.ho vs (by decide)
  refine (write_any w0.heap.size g gp gn gd gf q ops used next writes wrote reads rb seeks ch bv (.slice dp dn dc) xs data _ st2.hg st2.hf (src'.frm fn (fun k e => e.elim)) st2.ho hl st2.bel.size u0 u1 a0 a1 b0 b1).mono ?_
  rintro e6 w6 ⟨rfl, bv', q1, q2, q3, q4, q5⟩
  have vs6 : w6.heap[w.heap.size]? = some (.cells #[.int .i64 0, .int .i64 0, .int .i64 0] 73 (0, 0)) := by
    refine (q4.block _ ?_ ?_).trans ((fn.block _ (Array.getElem?_eq_some_iff.1 vs).1 (fun e => e)).trans vs)
    · have := (Array.getElem?_eq_some_iff.1 vs).1; have := fn.size; omega
    · rintro (e | e | e)
      · exact n1 e
      · exact n2 e
      · exact n3 e
  obtain ⟨k61, -⟩ := dcell vs6 1 (.int .i64 0) rfl
  have st6 : ST w0 w6 g gp gn gd gf q ops (used + data.length) next (writes + 1) (wrote + data.length) reads rb seeks ch bv' (xs ++ data) := by
    refine ⟨q4.below st2.bel st2.bel.size ?_, st2.bg, st2.bf, q1, ?_, ?_, q2, q3⟩
    · rintro k (e | e | e)
      · subst e; exact st2.bg
      · subst e; exact st2.bf
      · exact (st2.own_ge k e).1
    · refine (q4.block gp (Array.getElem?_eq_some_iff.1 st2.hp).1 ?_).trans st2.hp
      rintro (e | e | e)
      · exact cm_ne st2.hg st2.hp e.symm
      · exact cm_ne st2.hf st2.hp e.symm
      · exact own_nm st2.ho st2.hp e
    · refine (q4.block gn (Array.getElem?_eq_some_iff.1 st2.hn).1 ?_).trans st2.hn
      rintro (e | e | e)
      · exact cm_ne st2.hg st2.hn e.symm
      · exact cm_ne st2.hf st2.hn e.symm
      · exact own_nm st2.ho st2.hn e
  have f6 : Frm w w6 (fun k => k = g ∨ k = gf ∨ bv.ownBlock = some k) := (fv.trans' fn (S := fun _ => False) (fun k _ e => e) (fun k _ e => e)).trans' q4 (fun k _ e => e.elim) (fun k _ e => e)
  have FIN : Hid (∃ bv', ST w0 w6 g gp gn gd gf q ops (used + data.length) next (writes + 1) (wrote + data.length) reads rb seeks ch bv' (xs ++ data) ∧ Frm w w6 (fun k => k = g ∨ k = gf ∨ bv.ownBlock = some k) ∧ ∀ k, bv'.ownBlock = some k → bv.ownBlock = some k ∨ w.heap.size ≤ k) := ⟨bv', st6, f6, fun k hk => (q5 k hk).imp id (fun e => by have := fn.size; have := fv.size; omega)⟩
  clear st6 f6 q1 q2 q3 q4 q5 vs6 st2 st' src' fv fn
  go_wp2
  go_ret
  exact ⟨0, rfl, rfl, FIN.out⟩
set_option maxHeartbeats 1600000 in
set_option maxRecDepth 8000 in
theorem append_full (w0 w : World) (g gp gn gd gf bd bn bx : Nat) (q ops used next writes wrote reads rb seeks : Int) (ch bv dv : Value) (xs data : List Value) (st : ST w0 w g gp gn gd gf q ops used next writes wrote reads rb seeks ch bv xs) (hd : w.heap[bd]? = some (.cells #[.pointer (some ⟨g, 0, none⟩)] 23 (0, 0))) (hs : w.heap[bn]? = some (.cells #[.string ⟨#[102]⟩] 9 (0, 0))) (hx : w.heap[bx]? = some (.cells #[dv] 37 (0, 0))) (src : Src w g gf dv data) (hl : xs.length + data.length ≤ 1073741824) (hfit : q - used < (data.length : Int)) (hq0 : 0 ≤ q) (hq : q ≤ 1073741824)
    (u0 : 0 ≤ used) (u1 : used ≤ 1073741824) (a0 : 0 ≤ writes) (a1 : writes < 4611686018427387904) (b0 : 0 ≤ wrote) (b1 : wrote < 4611686018427387904) :
    Calls Tryd.prog 28 (#[.agg #[.int .i64 0, .int .i64 0, .int .i64 0]] ++ #[.pointer (some ⟨bd, 0, none⟩), .pointer (some ⟨bn, 0, none⟩), .pointer (some ⟨bx, 0, none⟩)]) w fun e w' => ∃ E, e = .returned (.int .i64 E) ∧ E = 33 ∧ ST w0 w' g gp gn gd gf q ops used next writes wrote reads rb seeks ch bv xs ∧ Frm w w' (fun _ => False) := by
  show Calls Tryd.prog 28 #[.agg #[.int .i64 0, .int .i64 0, .int .i64 0], .pointer (some ⟨bd, 0, none⟩), .pointer (some ⟨bn, 0, none⟩), .pointer (some ⟨bx, 0, none⟩)] w _
  obtain ⟨v, hv, fv⟩ : ∃ v, w.alloc (.cells #[.int .i64 0, .int .i64 0, .int .i64 0] 73) = v ∧ Frm w v (fun _ => False) := ⟨_, rfl, Frm.of_below ((Below.refl _ _).alloc (Nat.le_refl _) _)⟩
  have vs : v.heap[w.heap.size]? = some (.cells #[.int .i64 0, .int .i64 0, .int .i64 0] 73 (0, 0)) := by rw [← hv]; exact heap_alloc_last w _
  have sv := st.frm fv
  have dv' := (fv.block bd (Array.getElem?_eq_some_iff.1 hd).1 (fun e => e)).trans hd
  have sv' := (fv.block bn (Array.getElem?_eq_some_iff.1 hs).1 (fun e => e)).trans hs
  have xv' := (fv.block bx (Array.getElem?_eq_some_iff.1 hx).1 (fun e => e)).trans hx
  obtain ⟨c7, -⟩ := dcell sv.hg 7 (.map (some gn)) rfl
  obtain ⟨c1, -⟩ := dcell sv.hg 1 (.int .i64 q) rfl
  obtain ⟨c10, -⟩ := dcell sv.hg 10 (.int .i64 used) rfl
  obtain ⟨d0, -⟩ := dcell dv' 0 (.pointer (some ⟨g, 0, none⟩)) rfl
  obtain ⟨s0, -⟩ := dcell sv' 0 (.string ⟨#[102]⟩) rfl
  obtain ⟨x0, -⟩ := dcell xv' 0 dv rfl
  obtain ⟨k1, -⟩ := dcell vs 1 (.int .i64 0) rfl
  have hnv := sv.hn
  have hlen := len_src src
  have src' : Src v g gf dv data := src.frm fv (fun k e => e.elim)
  have SV : Hid (ST w0 v g gp gn gd gf q ops used next writes wrote reads rb seeks ch bv xs ∧ Src v g gf dv data ∧ Frm w v (fun _ => False)) := ⟨sv, src', fv⟩
  have hsl : ∃ p n c, dv = .slice p n c := by
    rcases src.2 with ⟨rfl, _⟩ | ⟨a, m, c, rfl, _⟩
    · exact ⟨_, _, _, rfl⟩
    · exact ⟨_, _, _, rfl⟩
  obtain ⟨dp, dn, dc, rfl⟩ := hsl
  have HFN : Hid (∀ W, W.heap[gn]? = some (.map (m1 gf 0) 1) → Calls Tryd.prog 22 #[.map (some gn), .string ⟨#[102]⟩] W fun e w' => e = .returned (.tuple #[.pointer (some ⟨gf, 0, none⟩), .int .i64 0]) ∧ w' = W) := fun W h => find_some gn 1 gf 0 (m1 gf 0) W h (find_m1 gf 0)
  clear sv src' src st fv hd hs hx dv' sv' xv'
  go_enter Tryd.func28, Tryd.ntmps28
  go_wp2
  clear hv
  have hS0 : Hid (v.drew.cell? ⟨bd, 0, none⟩ = some (.pointer (some ⟨g, 0, none⟩)) ∧ v.drew.cell? ⟨g, 7, none⟩ = some (.map (some gn)) ∧ v.drew.cell? ⟨bn, 0, none⟩ = some (.string ⟨#[102]⟩)) := ⟨d0, c7, s0⟩
  go_region_held3 (fun W => W.cell? ⟨bd, 0, none⟩ = some (.pointer (some ⟨g, 0, none⟩)) ∧ W.cell? ⟨g, 7, none⟩ = some (.map (some gn)) ∧ W.cell? ⟨bn, 0, none⟩ = some (.string ⟨#[102]⟩)) ((with_reducible exact hS0.out))
    ((go_at_call 22; refine (HFN.out _ (by exact hnv)).mono ?_; rintro e5 w5 ⟨rfl, h5⟩; subst w5))
  clear hS0
  go_wp2_with (fail)
  go_quiet (fail)
  obtain ⟨st', src', fv⟩ := SV.out
  have fn : ∀ n, Frm v (v.drewN n) (fun _ => False) := frm_drewN v
  have FIN : Hid (∀ n, ST w0 (v.drew.drewN n) g gp gn gd gf q ops used next writes wrote reads rb seeks ch bv xs ∧ Frm w (v.drew.drewN n) (fun _ => False)) := fun n => ⟨(st'.frm (fn 1)).frm (frm_drewN v.drew n), (fv.trans (fn 1) (fun k _ e => e)).trans (frm_drewN v.drew n) (fun k _ e => e)⟩
  clear st' src' fv fn
  go_wp2
  go_ret
  exact ⟨33, rfl, rfl, FIN.out _⟩
end Pb
end Go.Proofs.YtiljdiagabepbaaDoor
