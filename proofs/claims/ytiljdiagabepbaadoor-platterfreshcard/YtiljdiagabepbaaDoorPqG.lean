import Derived.Test.YtiljdiagabepbaaDoorPqF
namespace Go.Proofs.YtiljdiagabepbaaDoor
namespace Pq
open Go.RowKit Pb
set_option linter.unusedVariables false
/-- A name's text. -/
def nm (x : List UInt8) : ByteArray := ⟨x.toArray⟩
theorem enc_nm (x : List UInt8) : Go.Proofs.encStr x = .string (nm x) := rfl
theorem ky_nm (x : List UInt8) : ky (nm x) = .string x := by simp [ky, nm]
theorem look_max {w : World} {gn n : Nat} {D : DataW Unit} (h : w.ownsMap Tryd.prog 9 fR gn n D) (x : List UInt8) (hs : x.length ≤ maxLen) (b : Nat) (hb : ∀ z, D.atKey (.string x) z = .lit (.int .i64 b)) : (Instr.lookup 65 (.map (some gn)) (.string (nm x)) false).run Tryd.prog w = .ok (.pointer (some ⟨b, 0, none⟩)) w := by
  obtain ⟨v, ps, hr, hv⟩ := h.lookup KS Tryd.underlying65 (z := .pointer none) (zd := .nil) (zp := []) (by kernel_rfl) rfl (Go.WideMaps.keyOf_string_mk Tryd.underlying9 (s := nm x) (by show x.toArray.size ≤ maxLen; simpa using hs))
  rw [show (Lit.string (nm x).data.toList) = .string x from ky_nm x, hb] at hv
  rw [hr, fR_some hv]
/-- What Stats tells of a new file. -/
def vs (x : List UInt8) : List Value := [.string (nm x), .int .i64 0, .int .i64 0, .int .i64 0, .int .i64 0, .int .i64 0, .int .i64 0, .int .i64 0]
def vss (xs : List (List UInt8)) : List Value := xs.flatMap vs
theorem vss_take (xs : List (List UInt8)) (k : Nat) (h : k < xs.length) : vss (xs.take (k + 1)) = vss (xs.take k) ++ vs xs[k] := by
  unfold vss
  rw [List.take_succ_eq_append_getElem h, List.flatMap_append, List.flatMap_cons, List.flatMap_nil, List.append_nil]
theorem vss_len (xs : List (List UInt8)) : (vss xs).length = xs.length * 8 := by
  induction xs with
  | nil => rfl
  | cons a l ih => simp only [vss, List.flatMap_cons, List.length_append, List.length_cons] at ih ⊢; rw [ih]; simp [vs]; omega
set_option maxHeartbeats 1600000 in
set_option maxRecDepth 8000 in
theorem stats_gen (W0 w : World) (g gp gn gd c m : Nat) (ops : Int) (ch : Value) (D : DataW Unit) (st : FD W0 w g gp gn gd ops ch c D) (hc0 : c ≤ 1000) (hm : (SS D).length = m) (hm1 : 1 ≤ m) :
    Calls Tryd.prog 10 #[.pointer (some ⟨g, 0, none⟩)] w fun e w' => ∃ b, e = .returned (.slice (some ⟨b, 0, none⟩) m m) ∧ w.heap.size ≤ b ∧ w'.ownsRow w.heap.size 34 8 (.slice (some ⟨b, 0, none⟩) m m) m (vss (SS D)) ∧ Below w.heap.size w w' := by
  have hsz : Maps.size D = m := (SS_len st.hn).symm.trans hm
  have hle : m ≤ 1000 := by have := st.hn.size_le; omega
  obtain ⟨c0, -⟩ := dcell st.hg 0 (.pointer (some ⟨g, 0, none⟩)) rfl
  obtain ⟨c7, -⟩ := dcell st.hg 7 (.map (some gn)) rfl
  have hl0 : (Builtin.len_ #[65] 3 #[.map (some gn)]).run Tryd.prog w = .ok (.int .i64 m) w := by rw [← hsz]; exact st.hn.len Tryd.underlying65 3
  obtain ⟨i0, hi, hz, hs1, hs2⟩ : ∃ i, Tryd.prog.info? 34 = some i ∧ i.zero = some (.agg #[.string ⟨#[]⟩, .int .i64 0, .int .i64 0, .int .i64 0, .int .i64 0, .int .i64 0, .int .i64 0, .int .i64 0]) ∧ i.size = 8 ∧ i.bytes = 72 := by
    have h := infoVs
    cases hh : Tryd.prog.info? 34 with
    | none => rw [hh] at h; cases h
    | some i => rw [hh] at h; simp at h; exact ⟨i, rfl, h.1, h.2.1, h.2.2⟩
  obtain ⟨W1, mk, m2, m3⟩ := run_make_own (P := Tryd.prog) w w.heap.size 31 34 i0 _ 8 Tryd.underlying31 hi hz hs1 .i64 .i64 m (by rw [hs2]; omega) (by simp only [maxLen]; omega) (Nat.le_refl _)
  have f1 : Frm w W1 (fun _ => False) := ⟨m3.os, m3.tape, m3.output, m3.size, fun k hk _ => m3.block k hk (by simp)⟩
  have s1 := st.frm f1
  obtain ⟨d7, -⟩ := dcell s1.hg 7 (.map (some gn)) rfl
  have HS : Hid (Calls Tryd.prog 25 #[.map (some gn)] W1 fun e w' => ∃ p l c, e = .returned (.slice p l c) ∧ w'.ownsRow W1.heap.size 9 1 (.slice p l c) (SS D).length ((SS D).map Go.Proofs.encStr) ∧ Below W1.heap.size W1 w') := sorted_gen gn c D W1 s1.hn hc0
  have SV : Hid (FD W0 w g gp gn gd ops ch c D ∧ Frm w W1 (fun _ => False) ∧ W1.ownsRow w.heap.size 34 8 (.slice (some ⟨w.heap.size, 0, none⟩) 0 m) 0 []) := ⟨st, f1, m2⟩
  have HM : Hid ((SS D).length = m) := hm
  clear m2 m3 f1 s1 st hm hsz
  go_enter Tryd.func10, Tryd.ntmps10
  go_wp2_with (go_at_call 26; refine (made_any g _ c0).mono ?_; rintro e1 w1 ⟨rfl, hw1⟩; subst w1)
  refine HS.out.mono ?_
  rintro e2 w2 ⟨np, nl, nc, rfl, hrow, hb2⟩
  obtain ⟨st, f1, ow1⟩ := SV.out
  have f2 : Frm W1 w2 (fun _ => False) := Frm.of_below hb2
  have ow2 : w2.ownsRow w.heap.size 34 8 (.slice (some ⟨w.heap.size, 0, none⟩) 0 m) 0 [] := row_frm ow1 f2 (fun _ _ e => e)
  have fw2 : Frm w w2 (fun _ => False) := f1.trans f2 (fun k _ e => e)
  have lw1 : w.heap.size < W1.heap.size := (ow1.lt w.heap.size rfl).2
  rw [HM.out] at hrow
  rcases hrow.2 with ⟨e0, h0⟩ | ⟨nb, ncap, ncu, e0, hnb, _⟩
  · omega
  injection e0 with e1 e2 e3
  subst e1 e2 e3
  have H2 : Hid (w2.ownsRow w.heap.size 34 8 (.slice (some ⟨w.heap.size, 0, none⟩) 0 nl) 0 [] ∧ Frm w w2 (fun _ => False) ∧ w2.ownsRow W1.heap.size 9 1 (.slice (some ⟨nb, 0, none⟩) nl nc) nl ((SS D).map Go.Proofs.encStr) ∧ FD W0 w g gp gn gd ops ch c D ∧ w.heap.size < nb) := ⟨ow2, fw2, hrow, st, by omega⟩
  clear ow2 fw2 hrow st f1 ow1 f2 hb2 SV HS hnb lw1 d7 mk hl0 c7 c0
  go_wp2_with (fail)
  go_loopw [23, 3, 5, 6, 7] (fun i l _ _ _ wr => ∃ k : Nat, i = .int .i64 k ∧ k ≤ nl ∧ l = .slice (some ⟨w.heap.size, 0, none⟩) k nl ∧ Hid (wr.ownsRow w.heap.size 34 8 (.slice (some ⟨w.heap.size, 0, none⟩) k nl) k (vss ((SS D).take k)) ∧ Frm w2 wr (fun j => j = w.heap.size))) (fun i _ _ _ _ _ => nl - (intOf i).toNat)
  case atStart => exact ⟨0, rfl, by omega, rfl, ⟨H2.out.1, Frm.refl _ _⟩⟩
  case round =>
    obtain ⟨k, rfl, hk, rfl, h3⟩ := hrel
    by_cases hkl : k < nl
    · obtain ⟨x1, x2⟩ := h3.out
      obtain ⟨-, fw2, hrow, st, hnb⟩ := H2.out
      have fwr : Frm w wr (fun _ => False) := fw2.trans' x2 (fun k _ e => e.elim) (fun k hk e => by have e : k = _ := e; omega)
      have swr := st.frm fwr
      have hxl : k < (SS D).length := by rw [HM.out]; exact hkl
      have rowr := row_frm hrow x2 (fun j hj e => by simp [Value.ownBlock] at hj; omega)
      have cn : wr.cell? ⟨nb, k, none⟩ = some (.string (nm (SS D)[k])) := by
        rw [rowr.cellAt k (by omega), List.getElem?_map, List.getElem?_eq_getElem hxl]
        rfl
      obtain ⟨gf, hfb, -, hfile⟩ := swr.fs _ ((SS_mem swr.hn _).1 (List.getElem_mem hxl))
      have hlk := look_max swr.hn _ (SS_le swr.hn _ (List.getElem_mem hxl)) gf hfb
      have hvt := vss_take (SS D) k hxl
      obtain ⟨sx, hsx⟩ : ∃ sx, nm (SS D)[k] = sx := ⟨_, rfl⟩
      have HVT : Hid (vss ((SS D).take (k + 1)) = vss ((SS D).take k) ++ [.string sx, .int .i64 0, .int .i64 0, .int .i64 0, .int .i64 0, .int .i64 0, .int .i64 0, .int .i64 0]) := by rw [hvt]; unfold vs; rw [hsx]; exact rfl
      rw [hsx] at cn hlk
      obtain ⟨e7, -⟩ := dcell swr.hg 7 (.map (some gn)) rfl
      obtain ⟨y1, -⟩ := dcell hfile 1 (.int .i64 0) rfl
      obtain ⟨y3, -⟩ := dcell hfile 3 (.string ⟨#[]⟩) rfl
      obtain ⟨y4, -⟩ := dcell hfile 4 (.int .i64 0) rfl
      obtain ⟨y5, -⟩ := dcell hfile 5 (.int .i64 0) rfl
      obtain ⟨y6, -⟩ := dcell hfile 6 (.int .i64 0) rfl
      obtain ⟨y7, -⟩ := dcell hfile 7 (.int .i64 0) rfl
      obtain ⟨y8, -⟩ := dcell hfile 8 (.int .i64 0) rfl
      obtain ⟨y9, -⟩ := dcell hfile 9 (.int .i64 0) rfl
      obtain ⟨y10, -⟩ := dcell hfile 10 (.int .i64 0) rfl
      have KEEP : Hid (wr.heap[gf]? = some (.cells fl0 79 (0, 0))) := hfile
      clear x1 x2 fw2 hrow st fwr swr rowr hfb hfile hvt hsx hxl hnb
      go_wp2_with (fail)
      obtain ⟨V, hV, lV, fV⟩ : ∃ V, wr.alloc (.cells #[.string ⟨#[]⟩, .int .i64 0, .int .i64 0, .int .i64 0, .int .i64 0, .int .i64 0, .int .i64 0, .int .i64 0] 34) = V ∧ V.heap[wr.heap.size]? = some (.cells #[.string ⟨#[]⟩, .int .i64 0, .int .i64 0, .int .i64 0, .int .i64 0, .int .i64 0, .int .i64 0, .int .i64 0] 34 (0, 0)) ∧ Frm wr V (fun _ => False) := ⟨_, rfl, heap_alloc_last wr _, Frm.of_below ((Below.refl _ _).alloc (Nat.le_refl _) _)⟩
      rw [hV]
      clear hV
      have hfV : V.heap[gf]? = some (.cells fl0 79 (0, 0)) := (fV.block gf (Array.getElem?_eq_some_iff.1 KEEP.out).1 (fun e => e)).trans KEEP.out
      obtain ⟨tb, htb⟩ : ∃ tb, tb = wr.heap.size := ⟨_, rfl⟩
      have HTB : Hid (tb = wr.heap.size) := htb
      rw [← htb] at lV ⊢
      clear htb
      clear y1 y3 y4 y5 y6 y7 y8 y9 y10
      obtain ⟨y0, y0'⟩ := dcell lV 0 (.string ⟨#[]⟩) rfl
      obtain ⟨y1, y1'⟩ := dcell lV 1 (.int .i64 0) rfl
      obtain ⟨y2, y2'⟩ := dcell lV 2 (.int .i64 0) rfl
      obtain ⟨z1, -⟩ := dcell hfV 1 (.int .i64 0) rfl
      have hne : tb ≠ gf := cc_ne lV hfV (by decide)
      have hne2 : gf ≠ tb := Ne.symm hne
      have HSZ : Hid (∀ W, Frm V W (fun k => k = tb) → Calls Tryd.prog 27 #[.pointer (some ⟨gf, 0, none⟩)] W fun e w' => e = .returned (.int .i64 0) ∧ w' = W) := by
        intro W h
        exact size_any 0 gf _ (.slice none 0 0) [] W ((h.block gf (Array.getElem?_eq_some_iff.1 hfV).1 hne2).trans hfV) rfl ⟨rfl, .inl ⟨rfl, rfl⟩⟩ (by simp)
      have KV : Hid (Frm wr V (fun _ => False) ∧ V.heap[tb]? = some (.cells #[.string ⟨#[]⟩, .int .i64 0, .int .i64 0, .int .i64 0, .int .i64 0, .int .i64 0, .int .i64 0, .int .i64 0] 34 (0, 0))) := ⟨fV, lV⟩
      have FT : Hid (∀ a b c, Frm V (((V.setCell ⟨tb, 0, none⟩ a).setCell ⟨tb, 1, none⟩ b).setCell ⟨tb, 2, none⟩ c).drew (fun k => k = tb)) := by
        intro a b c
        have h : Frm V (((V.setCell ⟨tb, 0, none⟩ a).setCell ⟨tb, 1, none⟩ b).setCell ⟨tb, 2, none⟩ c) (fun k => k = tb) := ((Frm.setCell V ⟨tb, 0, none⟩ a).trans (Frm.setCell _ ⟨tb, 1, none⟩ b) (fun k _ e => e)).trans (Frm.setCell _ ⟨tb, 2, none⟩ c) (fun k _ e => e)
        exact h.trans (frm_drewN _ 1) (fun k _ e => e.elim)
      clear hfV lV fV hlk e7 cn
      apply Pb.wp_cut (fun w' => w'.heap[tb]? = some (.cells #[.string sx, .int .i64 0, .int .i64 0, .int .i64 0, .int .i64 0, .int .i64 0, .int .i64 0, .int .i64 0] 34 (0, 0)) ∧ Frm V w' (fun k => k = tb))
      case h =>
        go_region_with ((go_at_call 27; refine (HSZ.out _ (by first | exact ⟨rfl, rfl, rfl, Nat.le_refl _, fun _ _ _ => rfl⟩ | exact Frm.setCell _ _ _)).mono ?_; rintro e5 w5 ⟨rfl, h5⟩; subst w5))
        all_goals exact ⟨rfl, sc (sc (sc KV.out.2 0 _) 1 _) 2 _, FT.out _ _ _⟩
      case hq =>
        rintro W ⟨hW, fW⟩
        obtain ⟨fV, lV⟩ := KV.out
        obtain ⟨p0, -⟩ := dcell hW 0 (.string sx) rfl
        obtain ⟨p1, -⟩ := dcell hW 1 (.int .i64 0) rfl
        obtain ⟨p2, -⟩ := dcell hW 2 (.int .i64 0) rfl
        obtain ⟨p3, -⟩ := dcell hW 3 (.int .i64 0) rfl
        obtain ⟨p4, -⟩ := dcell hW 4 (.int .i64 0) rfl
        obtain ⟨p5, -⟩ := dcell hW 5 (.int .i64 0) rfl
        obtain ⟨p6, -⟩ := dcell hW 6 (.int .i64 0) rfl
        obtain ⟨p7, -⟩ := dcell hW 7 (.int .i64 0) rfl
        obtain ⟨x1, x2⟩ := h3.out
        have hlw : w.heap.size < wr.heap.size := (x1.lt w.heap.size rfl).2
        have htw := HTB.out
        obtain ⟨U, hU, lU, fU⟩ : ∃ U, W.alloc (.cells #[.string sx, .int .i64 0, .int .i64 0, .int .i64 0, .int .i64 0, .int .i64 0, .int .i64 0, .int .i64 0] 34) = U ∧ U.heap[W.heap.size]? = some (.cells #[.string sx, .int .i64 0, .int .i64 0, .int .i64 0, .int .i64 0, .int .i64 0, .int .i64 0, .int .i64 0] 34 (0, 0)) ∧ Frm W U (fun _ => False) := ⟨_, rfl, heap_alloc_last W _, Frm.of_below ((Below.refl _ _).alloc (Nat.le_refl _) _)⟩
        have fX : Frm wr U (fun k => k = tb) := (fV.trans' fW (S := fun k => k = tb) (fun k _ e => e.elim) (fun k _ e => e)).trans' fU (fun k _ e => e) (fun k _ e => e.elim)
        have owX : U.ownsRow w.heap.size 34 8 (.slice (some ⟨w.heap.size, 0, none⟩) k nl) k (vss ((SS D).take k)) := row_frm x1 fX (fun j hj e => by simp [Value.ownBlock] at hj; have e : j = tb := e; omega)
        obtain ⟨Z, hr, owZ, grZ⟩ := run_append_fits (P := Tryd.prog) (w := U) w.heap.size 31 31 34 i0 8 Tryd.underlying31 hi hs1 w.heap.size k nl _ owX ⟨W.heap.size, 0, none⟩ 1 1 [.string sx, .int .i64 0, .int .i64 0, .int .i64 0, .int .i64 0, .int .i64 0, .int .i64 0, .int .i64 0] rfl (by
          intro j u hj
          rw [Addr.add_lit, cell_of_row _ W.heap.size _ _ 34 (0, 0) lU]
          simpa using hj) (by simp [Value.oneCell']) (by omega)
        have HR : Hid ((Builtin.append_ #[31, 31] 31 #[.slice (some ⟨w.heap.size, 0, none⟩) k nl, .slice (some ⟨W.heap.size, 0, none⟩) 1 1]).run Tryd.prog (W.alloc (.cells #[.string sx, .int .i64 0, .int .i64 0, .int .i64 0, .int .i64 0, .int .i64 0, .int .i64 0, .int .i64 0] 34)) = .ok (.slice (some ⟨w.heap.size, 0, none⟩) (k + 1) nl) Z) := by rw [hU]; exact hr
        have FZ : Hid (Z.ownsRow w.heap.size 34 8 (.slice (some ⟨w.heap.size, 0, none⟩) (k + 1) nl) (k + 1) (vss ((SS D).take (k + 1))) ∧ Frm w2 Z (fun j => j = w.heap.size)) := by
          refine ⟨by rw [HVT.out]; exact owZ, ?_⟩
          have f3 : Frm w2 Z (fun j => j = w.heap.size ∨ (w2.heap.size ≤ j)) := (x2.trans' fX (S := fun j => j = w.heap.size ∨ w2.heap.size ≤ j) (fun k _ e => .inl e) (fun k hk e => by have e : k = tb := e; have := x2.size; omega)).trans (Frm.of_grown grZ) (fun k _ e => .inl (by injection e with e; omega))
          exact f3.trans' (Frm.refl Z (fun _ => False)) (fun k hk e => e.elim id (fun e => by omega)) (fun k _ e => e.elim)
        clear HSZ KV y0 y1 y2 y0' y1' y2' z1 fX hU lU fU owX hr owZ grZ fV lV fW hW FT htw x1 x2 hlw
        go_wp2_with (at_builtin; refine wpList_append_eqT rfl _ _ 31 rfl rfl _ _ (.slice (some ⟨w.heap.size, 0, none⟩) (k + 1) nl) (by rfl) (by rfl) HR ?_)
        refine ⟨⟨k + 1, by first | rfl | simp, by omega, by first | rfl | simp, FZ⟩, ?_⟩
        simp [intOf]
        omega
    · obtain rfl : k = nl := by omega
      have HF : Hid (wr.ownsRow w.heap.size 34 8 (.slice (some ⟨w.heap.size, 0, none⟩) k k) k (vss (SS D)) ∧ Below w.heap.size w wr) := by
        obtain ⟨x1, x2⟩ := h3.out
        rw [List.take_of_length_le (by rw [HM.out]; exact Nat.le_refl _)] at x1
        refine ⟨x1, ?_⟩
        have f : Frm w wr (fun j => j = w.heap.size) := H2.out.2.1.trans' x2 (fun k _ e => e.elim) (fun k _ e => e)
        exact f.below (Below.refl _ _) (Nat.le_refl _) (fun j e => by have e : j = _ := e; omega)
      go_wp2
      go_ret
      exact ⟨_, rfl, Nat.le_refl _, HF.out⟩
end Pq
end Go.Proofs.YtiljdiagabepbaaDoor
