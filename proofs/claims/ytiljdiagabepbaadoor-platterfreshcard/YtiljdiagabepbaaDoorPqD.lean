import Derived.Test.YtiljdiagabepbaaDoorPqC
namespace Go.Proofs.YtiljdiagabepbaaDoor
namespace Pq
open Go.RowKit Pb
set_option linter.unusedVariables false
/-- The cells of a new file. -/
abbrev fl0 : Array Value := fl (.slice none 0 0) 0 0 0 0 0 0
/-- A disk without faults whose files are all empty. -/
structure FD (W w : World) (g gp gn gd : Nat) (ops : Int) (ch : Value) (c : Nat) (D : DataW Unit) : Prop where
  bel : Below W.heap.size W w
  bg : W.heap.size ≤ g
  bn : W.heap.size ≤ gn
  hg : w.heap[g]? = some (.cells (dk g 1000 ops gp gn gd ch 0) 68 (0, 0))
  hp : w.heap[gp]? = some (.map #[] 0)
  hn : w.ownsMap Tryd.prog 9 fR gn c D
  hc : ∃ ys, w.ownsRow W.heap.size 81 3 ch c ys
  fs : ∀ s, Maps.has D (.string s) = true → ∃ b : Nat, (∀ z, D.atKey (.string s) z = .lit (.int .i64 b)) ∧ W.heap.size ≤ b ∧ w.heap[b]? = some (.cells fl0 79 (0, 0))
  ne : Maps.has D (.string []) = false
  pn : gp ≠ gn
theorem map_at {w : World} {gn n : Nat} {D : DataW Unit} (h : w.ownsMap Tryd.prog 9 fR gn n D) : ∃ es c, w.heap[gn]? = some (.map es c) := by
  obtain ⟨es, clock, hb, _⟩ := h
  exact ⟨es, clock, hb⟩
theorem FD.away {W w w' : World} {g gp gn gd : Nat} {ops : Int} {ch : Value} {c : Nat} {D : DataW Unit} {S : Nat → Prop} (h : FD W w g gp gn gd ops ch c D) (f : Frm w w' S) (hS : ∀ k, S k → W.heap.size ≤ k) (s1 : ¬ S g) (s2 : ¬ S gp) (s3 : ¬ S gn) (s4 : ∀ k, ch.ownBlock = some k → ¬ S k) (s5 : ∀ b, w.heap[b]? = some (.cells fl0 79 (0, 0)) → ¬ S b) : FD W w' g gp gn gd ops ch c D :=
  ⟨f.below h.bel h.bel.size hS, h.bg, h.bn, (f.block g (Array.getElem?_eq_some_iff.1 h.hg).1 s1).trans h.hg, (f.block gp (Array.getElem?_eq_some_iff.1 h.hp).1 s2).trans h.hp, map_frm h.hn f s3, h.hc.imp fun ys hy => row_frm hy f s4, fun s hs => (h.fs s hs).imp fun b hb => ⟨hb.1, hb.2.1, (f.block b (Array.getElem?_eq_some_iff.1 hb.2.2).1 (s5 b hb.2.2)).trans hb.2.2⟩, h.ne, h.pn⟩
theorem FD.frm {W w w' : World} {g gp gn gd : Nat} {ops : Int} {ch : Value} {c : Nat} {D : DataW Unit} (h : FD W w g gp gn gd ops ch c D) (f : Frm w w' (fun _ => False)) : FD W w' g gp gn gd ops ch c D := h.away f (fun k e => e.elim) (fun e => e) (fun e => e) (fun e => e) (fun _ _ e => e) (fun _ _ e => e)
theorem FD.ch_ne {W w : World} {g gp gn gd : Nat} {ops : Int} {ch : Value} {c : Nat} {D : DataW Unit} (h : FD W w g gp gn gd ops ch c D) {b : Nat} {cur : Array Value} {t : TypeId} {f : Nat × Nat} (hb : w.heap[b]? = some (.cells cur t f)) (ht : (81 : TypeId) ≠ t) : ch.ownBlock ≠ some b := by
  obtain ⟨ys, hy⟩ := h.hc
  exact row_ne hy hb ht
/-- The disk's number of operations is turned. -/
theorem FD.ops' {W w w' : World} {g gp gn gd : Nat} {ops ops' : Int} {ch : Value} {c : Nat} {D : DataW Unit} (h : FD W w g gp gn gd ops ch c D) (hW : w'.heap[g]? = some (.cells (dk g 1000 ops' gp gn gd ch 0) 68 (0, 0))) (bW : Below w.heap.size (w.setCell ⟨g, 2, none⟩ (.int .i64 ops')) w') : FD W w' g gp gn gd ops' ch c D ∧ Frm w w' (fun k => k = g) := by
  have f0 : Frm w (w.setCell ⟨g, 2, none⟩ (.int .i64 ops')) (fun k => k = g) := Frm.setCell w _ _
  have f1 : Frm w w' (fun k => k = g) := f0.trans (S2 := fun k => k = g) (Frm.of_below (by simpa using bW)) (fun k _ e => e)
  have n1 : gp ≠ g := Ne.symm (cm_ne h.hg h.hp)
  obtain ⟨es, c', hm⟩ := map_at h.hn
  have n2 : gn ≠ g := Ne.symm (cm_ne h.hg hm)
  exact ⟨⟨f1.below h.bel h.bel.size (fun k e => by have := h.bg; omega), h.bg, h.bn, hW, (f1.block gp (Array.getElem?_eq_some_iff.1 h.hp).1 n1).trans h.hp, map_frm h.hn f1 n2, h.hc.imp fun ys hy => row_frm hy f1 (fun k hk e => row_ne hy h.hg (by decide) (e ▸ hk)), fun s hs => (h.fs s hs).imp fun b hb => ⟨hb.1, hb.2.1, (f1.block b (Array.getElem?_eq_some_iff.1 hb.2.2).1 (fun e => cc_ne hb.2.2 h.hg (by decide) e)).trans hb.2.2⟩, h.ne, h.pn⟩, f1⟩
/-- What Create has done to the directory. -/
def Cr (D D' : DataW Unit) (c c' : Nat) (s : ByteArray) (E : Int) : Prop := (D' = D ∧ c' = c ∧ (s = a0 → Maps.has D (ky s) = true)) ∨ (E = 0 ∧ c' = c + 1 ∧ ∃ b : Nat, D' = D.put (ky s) (.lit (.int .i64 b)))
/-- A file behind a Create. -/
theorem FD.put {W w w' : World} {g gp gn gd gf : Nat} {ops : Int} {ch ch' : Value} {c : Nat} {D : DataW Unit} {s : ByteArray} (h : FD W w g gp gn gd ops ch c D) (hs1 : 1 ≤ s.size) (bf : W.heap.size ≤ gf) (hgf : w.heap[gf]? = some (.cells fl0 79 (0, 0))) (q1 : w'.heap[g]? = some (.cells (dk g 1000 ops gp gn gd ch' 0) 68 (0, 0))) (q2 : w'.ownsMap Tryd.prog 9 fR gn (c + 1) (D.put (ky s) (.lit (.int .i64 gf)))) (q3 : ∃ ys, w'.ownsRow W.heap.size 81 3 ch' (c + 1) ys) (f : Frm w w' (fun k => k = gn ∨ k = g ∨ ch.ownBlock = some k)) : FD W w' g gp gn gd ops ch' (c + 1) (D.put (ky s) (.lit (.int .i64 gf))) := by
  obtain ⟨ys, hy⟩ := h.hc
  obtain ⟨es, c', hm⟩ := map_at h.hn
  have im : Maps.IsMap D := h.hn.isMap
  have file : ∀ b : Nat, w.heap[b]? = some (.cells fl0 79 (0, 0)) → w'.heap[b]? = some (.cells fl0 79 (0, 0)) := fun b hb => (f.block b (Array.getElem?_eq_some_iff.1 hb).1 (by
    rintro (e | e | e)
    · exact cm_ne hb hm e
    · exact cc_ne hb h.hg (by decide) e
    · exact row_ne hy hb (by decide) e)).trans hb
  have hne : ky s ≠ .string [] := by
    intro e
    injection e with e
    have : s.size = 0 := by
      show s.data.size = 0
      rw [← Array.length_toList, e]; rfl
    omega
  refine ⟨f.below h.bel h.bel.size ?_, h.bg, h.bn, q1, (f.block gp (Array.getElem?_eq_some_iff.1 h.hp).1 ?_).trans h.hp, q2, q3, fun t ht => ?_, by rw [Maps.has_put_other (Ne.symm hne)]; exact h.ne, h.pn⟩
  · rintro k (e | e | e)
    · subst e; exact h.bn
    · subst e; exact h.bg
    · exact (hy.lt k e).1
  · rintro (e | e | e)
    · exact h.pn e
    · exact cm_ne h.hg h.hp e.symm
    · exact row_nm hy h.hp e
  · by_cases e : Lit.string t = ky s
    · rw [e]
      exact ⟨gf, fun z => Maps.atKey_put_same im (k := ky s) (show WideAt.IsKeyLit (.string s.data.toList) from trivial) _ z, bf, file gf hgf⟩
    · rw [Maps.has_put_other e] at ht
      obtain ⟨b, h1, h2, h3⟩ := h.fs t ht
      exact ⟨b, fun z => by rw [Maps.atKey_put_other e]; exact h1 z, h2, file b h3⟩
set_option maxHeartbeats 1600000 in
set_option maxRecDepth 100000 in
theorem create_clo (W0 w : World) (g gp gn gd bd bn c : Nat) (ops : Int) (ch : Value) (D : DataW Unit) (s : ByteArray) (st : FD W0 w g gp gn gd ops ch c D) (hsz : s.size ≤ 9223372036854775807) (hc0 : c ≤ 1000) (hd : w.heap[bd]? = some (.cells #[.pointer (some ⟨g, 0, none⟩)] 23 (0, 0))) (hs : w.heap[bn]? = some (.cells #[.string s] 9 (0, 0))) :
    Calls Tryd.prog 21 (#[.agg #[.int .i64 0, .int .i64 0, .int .i64 0]] ++ #[.pointer (some ⟨bd, 0, none⟩), .pointer (some ⟨bn, 0, none⟩)]) w fun e w' => ∃ E, e = .returned (.int .i64 E) ∧ ∃ ch' c' D', FD W0 w' g gp gn gd ops ch' c' D' ∧ Cr D D' c c' s E := by
  show Calls Tryd.prog 21 #[.agg #[.int .i64 0, .int .i64 0, .int .i64 0], .pointer (some ⟨bd, 0, none⟩), .pointer (some ⟨bn, 0, none⟩)] w _
  obtain ⟨v, hv, sv, fv⟩ : ∃ v, w.alloc (.cells #[.int .i64 0, .int .i64 0, .int .i64 0] 73) = v ∧ v.heap.size = w.heap.size + 1 ∧ Frm w v (fun _ => False) := ⟨_, rfl, by simp, Frm.of_below ((Below.refl _ _).alloc (Nat.le_refl _) _)⟩
  have stv := st.frm fv
  have kp : ∀ {b : Nat} {o : Obj}, w.heap[b]? = some o → v.heap[b]? = some o := fun h => (fv.block _ (Array.getElem?_eq_some_iff.1 h).1 (fun e => e)).trans h
  obtain ⟨c7, -⟩ := dcell stv.hg 7 (.map (some gn)) rfl
  obtain ⟨d0, -⟩ := dcell (kp hd) 0 (.pointer (some ⟨g, 0, none⟩)) rfl
  obtain ⟨s0, -⟩ := dcell (kp hs) 0 (.string s) rfl
  have HFN : Hid (Calls Tryd.prog 22 #[.map (some gn), .string s] v.drew fun e w' => ∃ v' E, e = .returned (.tuple #[v', .int .i64 E]) ∧ w' = v.drew ∧ Fd D s E) := find_any gn c D s v.drew hsz stv.hn.drew (fun t ht => (stv.fs t ht).imp fun b hb => hb.1)
  have hlen : (Builtin.len_ #[65] 3 #[.map (some gn)]).run Tryd.prog v.drew = .ok (.int .i64 (Maps.size D)) v.drew := stv.hn.drew.len Tryd.underlying65 3
  obtain ⟨m, hm, hle⟩ : ∃ m : Nat, Maps.size D = m ∧ m ≤ 1000 := ⟨_, rfl, by have := stv.hn.size_le; omega⟩
  rw [hm] at hlen
  clear hm
  have SV : Hid (FD W0 v g gp gn gd ops ch c D) := stv
  have HSZ : Hid (v.heap.size = w.heap.size + 1) := sv
  clear stv st fv kp hd hs sv
  go_enter Tryd.func21, Tryd.ntmps21
  go_wp2
  clear hv
  have hS0 : Hid (v.drew.cell? ⟨bd, 0, none⟩ = some (.pointer (some ⟨g, 0, none⟩)) ∧ v.drew.cell? ⟨g, 7, none⟩ = some (.map (some gn)) ∧ v.drew.cell? ⟨bn, 0, none⟩ = some (.string s)) := ⟨d0, c7, s0⟩
  go_region_held3 (fun W => W.cell? ⟨bd, 0, none⟩ = some (.pointer (some ⟨g, 0, none⟩)) ∧ W.cell? ⟨g, 7, none⟩ = some (.map (some gn)) ∧ W.cell? ⟨bn, 0, none⟩ = some (.string s)) ((with_reducible exact hS0.out))
    ((go_at_call 22; refine (HFN.out).mono ?_; rintro e5 w5 ⟨v5, E5, rfl, h5, hE⟩; subst w5))
  clear hS0 HFN
  have FN : Hid (FD W0 v.drew g gp gn gd ops ch c D) := SV.out.frm (frm_drewN v 1)
  rcases hE with ⟨rfl, h3⟩ | ⟨rfl, h3, h1, h2⟩ | ⟨rfl, h3⟩
  · have H3 : Hid (s ≠ a0) := h3
    clear h3
    go_wp2
    go_ret
    exact ⟨30, rfl, ch, c, D, FN.out, .inl ⟨rfl, rfl, fun h => absurd h H3.out⟩⟩
  · have H3 : Hid (Maps.has D (ky s) = false) := h3
    have hlt : (m : Int) < 4096 := by omega
    have sv := HSZ.out
    clear h3
    obtain ⟨X, hX, xl, fX⟩ : ∃ X, (v.alloc (.cells fl0 79)).drew = X ∧ X.heap[w.heap.size + 1]? = some (.cells fl0 79 (0, 0)) ∧ Frm v X (fun _ => False) := by
      refine ⟨_, rfl, ?_, (Frm.of_below ((Below.refl _ _).alloc (Nat.le_refl _) _)).trans (frm_drewN _ 1) (fun k _ e => e)⟩
      rw [← HSZ.out]; exact heap_alloc_last v _
    have sX := SV.out.frm fX
    obtain ⟨ys, hy⟩ := sX.hc
    have HAL : Hid (Calls Tryd.prog 23 #[.pointer (some ⟨g, 0, none⟩), .agg #[.string ⟨#[]⟩, .string s, .pointer (some ⟨w.heap.size + 1, 0, none⟩)]] X fun e w' => e = .returned (.tuple #[]) ∧ ∃ ch', FD W0 w' g gp gn gd ops ch' (c + 1) (D.put (ky s) (.lit (.int .i64 ((w.heap.size + 1 : Nat) : Int))))) := by
      refine (alter_gen W0 g gp gn gd (w.heap.size + 1) c c ops ch ys D s X h2 (by omega) (by omega) sX.hg sX.hn sX.ne H3.out hy sX.bel.size).mono ?_
      rintro e w' ⟨rfl, ch', ys', q1, q2, q3, q4⟩
      exact ⟨rfl, ch', sX.put h1 (by have := SV.out.bel.size; have := HSZ.out; omega) xl q1 q2 ⟨ys', q3⟩ q4⟩
    clear sX hy xl fX
    have hX' : Hid ((v.alloc (.cells #[.slice none 0 0, .int .i64 0, .int .i64 0, .string ⟨#[]⟩, .int .i64 0, .int .i64 0, .int .i64 0, .int .i64 0, .int .i64 0, .int .i64 0, .int .i64 0] 79)).drew = X) := hX
    clear hX
    go_wp2_with (fail)
    rw [hX'.out]
    refine HAL.out.mono ?_
    rintro e6 w6 ⟨rfl, ch', h6⟩
    have H6 : Hid (∃ ch' c' D', FD W0 w6 g gp gn gd ops ch' c' D' ∧ Cr D D' c c' s 0) := ⟨ch', _, _, h6, .inr ⟨rfl, rfl, _, rfl⟩⟩
    clear h6 HAL
    go_wp2
    go_ret
    exact ⟨0, rfl, H6.out⟩
  · have H3 : Hid (Maps.has D (ky s) = true) := h3
    clear h3
    go_wp2
    go_ret
    exact ⟨32, rfl, ch, c, D, FN.out, .inl ⟨rfl, rfl, fun _ => H3.out⟩⟩
set_option maxHeartbeats 1600000 in
set_option maxRecDepth 8000 in
theorem create_gen (W0 w : World) (g gp gn gd c : Nat) (ops : Int) (ch : Value) (D : DataW Unit) (s : ByteArray) (st : FD W0 w g gp gn gd ops ch c D) (hsz : s.size ≤ 9223372036854775807) (hc0 : c ≤ 1000) (o0 : 0 ≤ ops) (o1 : ops < 4611686018427387904) :
    Calls Tryd.prog 8 #[.pointer (some ⟨g, 0, none⟩), .string s] w fun e w' => ∃ E, e = .returned (.int .i64 E) ∧ ∃ ch' c' D', FD W0 w' g gp gn gd (ops + 1) ch' c' D' ∧ Cr D D' c c' s E := by
  obtain ⟨v, hv, fv, dv1, dv2, sz⟩ : ∃ v, (w.alloc (.cells #[.pointer (some ⟨g, 0, none⟩)] 23)).alloc (.cells #[.string s] 9) = v ∧ Frm w v (fun _ => False) ∧ v.heap[w.heap.size]? = some (.cells #[.pointer (some ⟨g, 0, none⟩)] 23 (0, 0)) ∧ v.heap[w.heap.size + 1]? = some (.cells #[.string s] 9 (0, 0)) ∧ v.heap.size = w.heap.size + 2 :=
    ⟨_, rfl, Frm.of_below (((Below.refl _ _).alloc (Nat.le_refl _) _).alloc (by simp) _), (two_blk w _ _).1, (two_blk w _ _).2, by simp⟩
  have sv := st.frm fv
  have lg := (Array.getElem?_eq_some_iff.1 st.hg).1
  obtain ⟨x1, -⟩ := dcell dv1 0 (.pointer (some ⟨g, 0, none⟩)) rfl
  have HG : Hid (Calls Tryd.prog 20 #[.pointer (some ⟨g, 0, none⟩), .int .u8 8, .func (.func 21) #[] #[.pointer (some ⟨w.heap.size, 0, none⟩), .pointer (some ⟨w.heap.size + 1, 0, none⟩)]] v fun e w' => ∃ E, e = .returned (.int .i64 E) ∧ ∃ ch' c' D', FD W0 w' g gp gn gd (ops + 1) ch' c' D' ∧ Cr D D' c c' s E) := by
    refine gate_create g gp gn gd 1000 ops 0 ch _ v (fun E w' => ∃ ch' c' D', FD W0 w' g gp gn gd (ops + 1) ch' c' D' ∧ Cr D D' c c' s E) o0 o1 sv.hg sv.hp (fun W hW bW => ?_)
    obtain ⟨sW, fW⟩ := sv.ops' hW bW
    exact create_clo W0 W g gp gn gd w.heap.size (w.heap.size + 1) c (ops + 1) ch D s sW hsz hc0 ((fW.block _ (by omega) (by omega)).trans dv1) ((fW.block _ (by omega) (by omega)).trans dv2)
  clear sv st fv dv1 dv2
  go_enter Tryd.func8, Tryd.ntmps8
  go_wp2_with (fail)
  refine HG.out.mono ?_
  rintro e3 w3 ⟨E, rfl, hD⟩
  have HD : Hid (∃ ch' c' D', FD W0 w3 g gp gn gd (ops + 1) ch' c' D' ∧ Cr D D' c c' s E) := hD
  clear hD
  go_wp2
  go_ret
  exact ⟨E, rfl, HD.out⟩
end Pq
end Go.Proofs.YtiljdiagabepbaaDoor
