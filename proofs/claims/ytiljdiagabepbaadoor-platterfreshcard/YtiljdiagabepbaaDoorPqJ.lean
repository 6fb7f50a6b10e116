import Derived.Test.YtiljdiagabepbaaDoorPqH
namespace Go.Proofs.YtiljdiagabepbaaDoor
namespace Pq
open Go.RowKit Pb
set_option linter.unusedVariables false
theorem row_row {w : World} {b1 b2 : Nat} {e1 e2 : TypeId} {s1 s2 : Nat} {v1 v2 : Value} {n1 n2 : Nat} {x1 x2 : List Value} (h1 : w.ownsRow b1 e1 s1 v1 n1 x1) (h2 : w.ownsRow b2 e2 s2 v2 n2 x2) (he : e1 ≠ e2) (k : Nat) (k1 : v1.ownBlock = some k) : v2.ownBlock ≠ some k := by
  rcases h1.2 with ⟨rfl, _⟩ | ⟨g, cap, cur, rfl, _, hg, _⟩
  · simp [Value.ownBlock] at k1
  · simp only [Value.ownBlock] at k1
    injection k1 with k1
    subst k1
    exact row_ne h2 hg (Ne.symm he)
theorem row_blk {w : World} {base : Nat} {e : TypeId} {s b n cap : Nat} {xs : List Value} (h : w.ownsRow base e s (.slice (some ⟨b, 0, none⟩) n cap) n xs) : ∃ cur, w.heap[b]? = some (.cells cur e (0, 0)) ∧ cur.size = cap * s ∧ n ≤ cap ∧ cap ≤ maxLen ∧ base ≤ b := by
  rcases h.2 with ⟨h0, _⟩ | ⟨g, cap', cur, h0, hb, hg, hnc, hcm, hcs, htake⟩
  · cases h0
  · injection h0 with e1 e2 e3
    injection e1 with e1
    injection e1 with e1
    subst e1 e3
    exact ⟨cur, hg, hcs, hnc, hcm, hb⟩
/-- What a row of type t writes does not touch the disk. -/
theorem FD.off {W w w' : World} {g gp gn gd c : Nat} {ops : Int} {ch : Value} {D : DataW Unit} {S : Nat → Prop} (h : FD W w g gp gn gd ops ch c D) (f : Frm w w' S) (hS : ∀ k, k < w.heap.size → S k → W.heap.size ≤ k ∧ ∃ cur t, w.heap[k]? = some (.cells cur t (0, 0)) ∧ t ≠ 68 ∧ t ≠ 81 ∧ t ≠ 79) : FD W w' g gp gn gd ops ch c D := by
  obtain ⟨es, c', hm⟩ := map_at h.hn
  have f' : Frm w w' (fun k => k < w.heap.size ∧ S k) := f.trans' (Frm.refl w' (fun _ => False)) (fun k hk e => ⟨hk, e⟩) (fun k _ e => e.elim)
  refine h.away f' (fun k e => (hS k e.1 e.2).1) (fun e => ?_) (fun e => ?_) (fun e => ?_) (fun k hk e => ?_) (fun b hb e => ?_)
  · obtain ⟨_, cur, t, h1, h2, h3, h4⟩ := hS g e.1 e.2; exact cc_ne h1 h.hg h2 rfl
  · obtain ⟨_, cur, t, h1, _⟩ := hS gp e.1 e.2; exact cm_ne h1 h.hp rfl
  · obtain ⟨_, cur, t, h1, _⟩ := hS gn e.1 e.2; exact cm_ne h1 hm rfl
  · obtain ⟨_, cur, t, h1, h2, h3, h4⟩ := hS k e.1 e.2; exact h.ch_ne h1 (Ne.symm h3) hk
  · obtain ⟨_, cur, t, h1, h2, h3, h4⟩ := hS b e.1 e.2; exact cc_ne h1 hb h4 rfl
theorem infoStr : (Tryd.prog.info? 9).map (fun i => (i.zero, i.size, i.bytes)) = some (some (.string ⟨#[]⟩), 1, 16) := by kernel_rfl
theorem info9 : ∃ i0, Tryd.prog.info? 9 = some i0 ∧ i0.zero = some (.string ⟨#[]⟩) ∧ i0.size = 1 ∧ i0.bytes = 16 := by
  have h := infoStr
  cases hh : Tryd.prog.info? 9 with
  | none => rw [hh] at h; cases h
  | some i => rw [hh] at h; simp at h; exact ⟨i, rfl, h.1, h.2.1, h.2.2⟩
/-- append(v, new strings..) to a row of strings. -/
theorem app_str {W w : World} {v : Value} {n : Nat} {xs : List Value} (h : w.ownsRow W.heap.size 9 1 v n xs) (hn : n ≤ 1000000) (news : List Value) (hl : 1 ≤ news.length) (hl2 : news.length ≤ 10) (h1 : ∀ u ∈ news, u.oneCell' = true) (hb : W.heap.size ≤ w.heap.size) :
    ∃ p l c w', Hid ((Builtin.append_ #[22, 22] 22 #[v, .slice (some ⟨w.heap.size, 0, none⟩) news.length news.length]).run Tryd.prog (w.alloc (.cells news.toArray 9)) = .ok (.slice p l c) w') ∧ l = n + news.length ∧ w'.ownsRow W.heap.size 9 1 (.slice p l c) (n + news.length) (xs ++ news) ∧ Frm w w' (fun k => v.ownBlock = some k) ∧ ∀ k, (Value.slice p l c).ownBlock = some k → v.ownBlock = some k ∨ w.heap.size ≤ k := by
  obtain ⟨i0, hi, hz, hs1, hs2⟩ := info9
  obtain ⟨X, hX, xl, fX⟩ : ∃ X, w.alloc (.cells news.toArray 9) = X ∧ X.heap[w.heap.size]? = some (.cells news.toArray 9 (0, 0)) ∧ Frm w X (fun _ => False) := ⟨_, rfl, heap_alloc_last w _, Frm.of_below ((Below.refl _ _).alloc (Nat.le_refl _) _)⟩
  rw [hX]
  obtain ⟨v', Z, r1, r2, r3, -, r5⟩ := run_append_own_at (P := Tryd.prog) (w := X) W.heap.size 22 22 9 i0 _ 1 16 Tryd.underlying22 hi hz hs1 hs2 rfl (by decide) v n xs (row_frm h fX (fun _ _ e => e)) ⟨w.heap.size, 0, none⟩ news.length news.length news (by omega) (by
    intro j u hj
    rw [Addr.add_lit, cell_of_row _ w.heap.size _ _ 9 (0, 0) xl]
    simpa using hj) h1 (by simp only [maxLen]; omega) (by omega) (by have := fX.size; omega)
  have fZ : Frm w Z (fun k => v.ownBlock = some k) := fX.trans' (Frm.of_grown r3) (fun k _ e => e.elim) (fun k _ e => e)
  have r6 := r2
  rcases r2.2 with ⟨rfl, h0⟩ | ⟨g', cap, cur, rfl, _⟩
  · omega
  · exact ⟨_, _, _, Z, r1, rfl, r6, fZ, fun k hk => r5.elim (fun e => .inl (e ▸ hk)) (fun e => .inr (by rw [e] at hk; injection hk with hk; have := fX.size; omega))⟩
/-- Behind k names of want. -/
structure M3 (W w : World) (g gp gn gd : Nat) (ops : Int) (ch : Value) (c : Nat) (D : DataW Unit) (m b1 cap1 b2 k : Nat) (wv : Value) : Prop where
  two : M2 W w g gp gn gd ops ch c D m b1 cap1 b2
  rw' : w.ownsRow W.heap.size 9 1 wv k (((SS D).take k).map Go.Proofs.encStr)
  ne : wv.ownBlock ≠ some b1
theorem M2.start {W w : World} {g gp gn gd c m b1 cap1 b2 : Nat} {ops : Int} {ch : Value} {D : DataW Unit} (h : M2 W w g gp gn gd ops ch c D m b1 cap1 b2) : M3 W w g gp gn gd ops ch c D m b1 cap1 b2 0 (.slice none 0 0) :=
  ⟨h, ⟨rfl, .inl ⟨rfl, rfl⟩⟩, by simp [Value.ownBlock]⟩
theorem M2.off {W w w' : World} {g gp gn gd c m b1 cap1 b2 : Nat} {ops : Int} {ch : Value} {D : DataW Unit} {n : Nat} {v : Value} {xs : List Value} (h : M2 W w g gp gn gd ops ch c D m b1 cap1 b2) (hv : w.ownsRow W.heap.size 9 1 v n xs) (ne : v.ownBlock ≠ some b1) (f : Frm w w' (fun k => v.ownBlock = some k)) : M2 W w' g gp gn gd ops ch c D m b1 cap1 b2 := by
  refine ⟨h.fd.off f (fun k hk e => ⟨(hv.lt k e).1, ?_⟩), row_frm h.r1 f (fun k hk e => ?_), row_frm h.r2 f (fun k hk e => row_row hv h.r2 (by decide) k e hk)⟩
  · rcases hv.2 with ⟨rfl, _⟩ | ⟨g', cap, cur, rfl, _, hg, _⟩
    · simp [Value.ownBlock] at e
    · simp only [Value.ownBlock] at e
      injection e with e
      subst e
      exact ⟨cur, 9, hg, by decide, by decide, by decide⟩
  · simp [Value.ownBlock] at hk
    subst hk
    exact ne e
theorem M3.grow {W w : World} {g gp gn gd c m b1 cap1 b2 k : Nat} {ops : Int} {ch wv : Value} {D : DataW Unit} (h : M3 W w g gp gn gd ops ch c D m b1 cap1 b2 k wv) (hm : (SS D).length = m) (hk : k < m) (hm2 : m ≤ 101) (s : ByteArray) (hs : nm ((SS D)[k]'(by omega)) = s) :
    ∃ p l c2 w', Hid ((Builtin.append_ #[22, 22] 22 #[wv, .slice (some ⟨w.heap.size, 0, none⟩) 1 1]).run Tryd.prog (w.alloc (.cells #[.string s] 9)) = .ok (.slice p l c2) w') ∧ M3 W w' g gp gn gd ops ch c D m b1 cap1 b2 (k + 1) (.slice p l c2) ∧ l = k + 1 := by
  obtain ⟨p, l, c2, w', r1, rl, r2, r3, r4⟩ := app_str h.rw' (by omega) [.string s] (by simp) (by simp) (by simp [Value.oneCell']) h.two.fd.bel.size
  refine ⟨p, l, c2, w', r1, ⟨h.two.off h.rw' h.ne r3, ?_, ?_⟩, by simpa using rl⟩
  · have e : ((SS D).take (k + 1)).map Go.Proofs.encStr = ((SS D).take k).map Go.Proofs.encStr ++ [.string s] := by
      rw [List.take_succ_eq_append_getElem (by omega), List.map_append, List.map_cons, List.map_nil, enc_nm, hs]
    rw [e]
    exact r2
  · intro e
    obtain ⟨cur, hg, _⟩ := row_blk h.two.r1
    rcases r4 _ e with e2 | e2
    · exact h.ne e2
    · have := (Array.getElem?_eq_some_iff.1 hg).1; omega
theorem M3.frm {W w w' : World} {g gp gn gd c m b1 cap1 b2 k : Nat} {ops : Int} {ch wv : Value} {D : DataW Unit} (h : M3 W w g gp gn gd ops ch c D m b1 cap1 b2 k wv) (f : Frm w w' (fun _ => False)) : M3 W w' g gp gn gd ops ch c D m b1 cap1 b2 k wv :=
  ⟨⟨h.two.fd.frm f, row_frm h.two.r1 f (fun _ _ e => e), row_frm h.two.r2 f (fun _ _ e => e)⟩, row_frm h.rw' f (fun _ _ e => e), h.ne⟩
theorem M3.drewN {W w : World} {g gp gn gd c m b1 cap1 b2 k : Nat} {ops : Int} {ch wv : Value} {D : DataW Unit} (h : M3 W w g gp gn gd ops ch c D m b1 cap1 b2 k wv) (n : Nat) : M3 W (w.drewN n) g gp gn gd ops ch c D m b1 cap1 b2 k wv := h.frm (frm_drewN w n)
/-- The cells that the walk reads. -/
theorem M3.cells {W w : World} {g gp gn gd c m b1 cap1 b2 k : Nat} {ops : Int} {ch wv : Value} {D : DataW Unit} (h : M3 W w g gp gn gd ops ch c D m b1 cap1 b2 k wv) (hm : (SS D).length = m) (i : Nat) (hi : i < m) : w.cell? ⟨b1, i, none⟩ = some (.string (nm ((SS D)[i]'(by omega)))) ∧ w.cell? ⟨b2, i * 8, none⟩ = some (.string (nm ((SS D)[i]'(by omega)))) := by
  constructor
  · rw [h.two.r1.cellAt i (by omega), List.getElem?_map, List.getElem?_eq_getElem (by omega)]
    rfl
  · rw [h.two.r2.cellAt (i * 8) (by omega), vss_get0 _ _ (by omega)]
theorem toList_nm (x : List UInt8) : (nm x).toList = x := by
  simp [nm]
theorem SS_lt {w : World} {gn n : Nat} {D : DataW Unit} (h : w.ownsMap Tryd.prog 9 fR gn n D) (i : Nat) (hi : i + 1 < (SS D).length) : Op.bytesLess (nm ((SS D)[i]'(by omega))).toList (nm (SS D)[i + 1]).toList = true := by
  rw [toList_nm, toList_nm, bytesLess_eq]
  exact decide_eq_true (List.pairwise_iff_getElem.1 (SS_sorted h) i (i + 1) (by omega) hi (by omega))
end Pq
end Go.Proofs.YtiljdiagabepbaaDoor
