import Derived.Test.YtiljdiagabepbaaDoorPbM
namespace Go.Proofs.YtiljdiagabepbaaDoor
namespace Pb
open Go.RowKit
set_option linter.unusedVariables false
/-- What sorted tells of the directory with the one file f. -/
def SortedOne : Prop := ∀ (gn gf : Nat) (w : World), w.heap[gn]? = some (.map (m1 gf 0) 1) → Calls Tryd.prog 25 #[.map (some gn)] w fun e w' => ∃ b cap, e = .returned (.slice (some ⟨b, 0, none⟩) 1 cap) ∧ w.heap.size ≤ b ∧ w'.cell? ⟨b, 0, none⟩ = some (.string ⟨#[102]⟩) ∧ Below w.heap.size w w'
theorem infoVs : (Tryd.prog.info? 34).map (fun i => (i.zero, i.size, i.bytes)) = some (some (.agg #[.string ⟨#[]⟩, .int .i64 0, .int .i64 0, .int .i64 0, .int .i64 0, .int .i64 0, .int .i64 0, .int .i64 0]), 8, 72) := by kernel_rfl
theorem wpList_append_eqT {w W : World} {ops : Array Oper} {rest : List Oper} {o : Oper} {a : Act} {Q : Exit → Act → World → Prop} (hgd : o.guard = none) (s x : Operand) (t : TypeId)
    (ho : o.op = .call { callee := .builtin .append, args := #[s, x], argTypes := #[t, t] }) (hty : o.type = t) (v sv v' : Value) (hs : a.eval s = v) (hx : a.eval x = sv) (hr : Hid ((Builtin.append_ #[t, t] t #[v, sv]).run Tryd.prog w = .ok v' W))
    (h : wpList Tryd.prog ops Q rest (a.put o.dst v') W) : wpList Tryd.prog ops Q (o :: rest) a w := by
  refine wpList_plain hgd fun K hK => ?_
  unfold Oper.wp
  simp [execOp, ho, resolve, invoke, builtin, hs, hx, hty, hr.out, Result.andThen]
  exact hK _ _ h
set_option maxHeartbeats 1600000 in
set_option maxRecDepth 8000 in
theorem stats_one (HS0 : SortedOne) (w0 w : World) (g gp gn gd gf : Nat) (q ops used next writes wrote reads rb seeks : Int) (ch bv : Value) (xs : List Value) (st : ST w0 w g gp gn gd gf q ops used next writes wrote reads rb seeks ch bv xs) (hx : xs.length ≤ 1073741824) :
    Calls Tryd.prog 10 #[.pointer (some ⟨g, 0, none⟩)] w fun e w' => ∃ b cap, e = .returned (.slice (some ⟨b, 0, none⟩) 1 cap) ∧ w.heap.size ≤ b ∧ w'.cell? ⟨b, 4, none⟩ = some (.int .i64 rb) ∧ w'.cell? ⟨b, 7, none⟩ = some (.int .i64 seeks) ∧ Below w.heap.size w w' := by
  obtain ⟨c0, -⟩ := dcell st.hg 0 (.pointer (some ⟨g, 0, none⟩)) rfl
  obtain ⟨c7, -⟩ := dcell st.hg 7 (.map (some gn)) rfl
  have hlen : ∀ W : World, W.heap[gn]? = some (.map (m1 gf 0) 1) → (Builtin.len_ #[65] 3 #[.map (some gn)]).run Tryd.prog W = .ok (.int .i64 1) W := fun W h => by simp [Builtin.len_, get_map h]; rfl
  have hl0 := hlen w st.hn
  obtain ⟨i0, hi, hz, hs1, hs2⟩ : ∃ i, Tryd.prog.info? 34 = some i ∧ i.zero = some (.agg #[.string ⟨#[]⟩, .int .i64 0, .int .i64 0, .int .i64 0, .int .i64 0, .int .i64 0, .int .i64 0, .int .i64 0]) ∧ i.size = 8 ∧ i.bytes = 72 := by
    have h := infoVs
    cases hh : Tryd.prog.info? 34 with
    | none => rw [hh] at h; cases h
    | some i => rw [hh] at h; simp at h; exact ⟨i, rfl, h.1, h.2.1, h.2.2⟩
  obtain ⟨W1, m1', m2, m3⟩ := run_make_own (P := Tryd.prog) w w.heap.size 31 34 i0 _ 8 Tryd.underlying31 hi hz hs1 .i64 .i64 1 (by omega) (by decide) (Nat.le_refl _)
  have mk : (Instr.makeSlice 31 (.int .i64 0) (.int .i64 1)).run Tryd.prog w = .ok (.slice (some ⟨w.heap.size, 0, none⟩) 0 1) W1 := m1'
  have f1 : Frm w W1 (fun _ => False) := ⟨m3.os, m3.tape, m3.output, m3.size, fun k hk _ => m3.block k hk (by simp)⟩
  have s1 := st.frm f1
  obtain ⟨d7, -⟩ := dcell s1.hg 7 (.map (some gn)) rfl
  have HS : Hid (Calls Tryd.prog 25 #[.map (some gn)] W1 fun e w' => ∃ b cap, e = .returned (.slice (some ⟨b, 0, none⟩) 1 cap) ∧ W1.heap.size ≤ b ∧ w'.cell? ⟨b, 0, none⟩ = some (.string ⟨#[102]⟩) ∧ Below W1.heap.size W1 w') := HS0 gn gf W1 s1.hn
  have SV : Hid (ST w0 W1 g gp gn gd gf q ops used next writes wrote reads rb seeks ch bv xs ∧ Frm w W1 (fun _ => False) ∧ W1.ownsRow w.heap.size 34 8 (.slice (some ⟨w.heap.size, 0, none⟩) 0 1) 0 []) := ⟨s1, f1, m2⟩
  clear m1' m2 m3 f1 s1 HS0 hlen
  go_enter Tryd.func10, Tryd.ntmps10
  go_wp2_with (go_at_call 26; refine (made_any g _ c0).mono ?_; rintro e1 w1 ⟨rfl, hw1⟩; subst w1)
  refine HS.out.mono ?_
  rintro e2 w2 ⟨sb, scap, rfl, hsb, hsc, hb2⟩
  obtain ⟨s1, f1, ow1⟩ := SV.out
  have f2 : Frm W1 w2 (fun _ => False) := Frm.of_below hb2
  have s2 := s1.frm f2
  have ow2 : w2.ownsRow w.heap.size 34 8 (.slice (some ⟨w.heap.size, 0, none⟩) 0 1) 0 [] := ow1.kept (row := none) ⟨f2.os, f2.tape, f2.output, f2.size, fun k hk _ => f2.block k hk (fun e => e)⟩ (by simp [Value.ownBlock])
  have fw2 : Frm w w2 (fun _ => False) := f1.trans f2 (fun k _ e => e)
  go_wp2_with (fail)
  go_loopw [23, 3, 5, 6, 7] (fun i l _ _ _ wr => (i = .int .i64 0 ∧ l = .slice (some ⟨w.heap.size, 0, none⟩) 0 1 ∧ wr = w2) ∨ (i = .int .i64 1 ∧ l = .slice (some ⟨w.heap.size, 0, none⟩) 1 1 ∧ wr.cell? ⟨w.heap.size, 4, none⟩ = some (.int .i64 rb) ∧ wr.cell? ⟨w.heap.size, 7, none⟩ = some (.int .i64 seeks) ∧ Below w.heap.size w wr)) (fun i _ _ _ _ _ => 1 - (intOf i).toNat)
  case atStart => exact .inl ⟨rfl, rfl, rfl⟩
  case round =>
    rcases hrel with ⟨rfl, rfl, hwr⟩ | ⟨rfl, rfl, y4, y7, hB⟩
    · subst hwr
      obtain ⟨e7, -⟩ := dcell s2.hg 7 (.map (some gn)) rfl
      have hlk : (Instr.lookup 65 (.map (some gn)) (.string ⟨#[102]⟩) false).run Tryd.prog wr = .ok (.pointer (some ⟨gf, 0, none⟩)) wr := look_str gn 1 (m1 gf 0) ⟨#[102]⟩ _ wr s2.hn (find_m1 gf 0)
      obtain ⟨x1, -⟩ := dcell s2.hf 1 (.int .i64 0) rfl
      obtain ⟨x3, -⟩ := dcell s2.hf 3 (.string ⟨#[]⟩) rfl
      obtain ⟨x4, -⟩ := dcell s2.hf 4 (.int .i64 0) rfl
      obtain ⟨x5, -⟩ := dcell s2.hf 5 (.int .i64 0) rfl
      obtain ⟨x6, -⟩ := dcell s2.hf 6 (.int .i64 reads) rfl
      obtain ⟨x7, -⟩ := dcell s2.hf 7 (.int .i64 rb) rfl
      obtain ⟨x8, -⟩ := dcell s2.hf 8 (.int .i64 writes) rfl
      obtain ⟨x9, -⟩ := dcell s2.hf 9 (.int .i64 wrote) rfl
      obtain ⟨x10, -⟩ := dcell s2.hf 10 (.int .i64 seeks) rfl
      have KEEP : Hid (ST w0 wr g gp gn gd gf q ops used next writes wrote reads rb seeks ch bv xs ∧ Frm w wr (fun _ => False) ∧ wr.ownsRow w.heap.size 34 8 (.slice (some ⟨w.heap.size, 0, none⟩) 0 1) 0 []) := ⟨s2, fw2, ow2⟩
      clear s1 f1 ow1 hb2 f2 s2 ow2 fw2 SV HS mk d7 c7 c0 hl0 st
      go_wp2_with (fail)
      obtain ⟨s2, fw2, ow2⟩ := KEEP.out
      obtain ⟨V, hV, lV, fV⟩ : ∃ V, wr.alloc (.cells #[.string ⟨#[]⟩, .int .i64 0, .int .i64 0, .int .i64 reads, .int .i64 rb, .int .i64 writes, .int .i64 wrote, .int .i64 seeks] 34) = V ∧ V.heap[wr.heap.size]? = some (.cells #[.string ⟨#[]⟩, .int .i64 0, .int .i64 0, .int .i64 reads, .int .i64 rb, .int .i64 writes, .int .i64 wrote, .int .i64 seeks] 34 (0, 0)) ∧ Frm wr V (fun _ => False) := ⟨_, rfl, heap_alloc_last wr _, Frm.of_below ((Below.refl _ _).alloc (Nat.le_refl _) _)⟩
      rw [hV]
      clear hV
      have sV := s2.frm fV
      obtain ⟨tb, htb⟩ : ∃ tb, tb = wr.heap.size := ⟨_, rfl⟩
      have HTB : Hid (tb = wr.heap.size) := htb
      rw [← htb] at lV ⊢
      clear htb
      obtain ⟨y0, y0'⟩ := dcell lV 0 (.string ⟨#[]⟩) rfl
      obtain ⟨y1, y1'⟩ := dcell lV 1 (.int .i64 0) rfl
      obtain ⟨y2, y2'⟩ := dcell lV 2 (.int .i64 0) rfl
      obtain ⟨z1, -⟩ := dcell sV.hf 1 (.int .i64 0) rfl
      have hne : tb ≠ gf := cc_ne lV sV.hf (by decide)
      have hne2 : gf ≠ tb := Ne.symm hne
      have HSZ : Hid (∀ W, Frm V W (fun k => k = tb) → Calls Tryd.prog 27 #[.pointer (some ⟨gf, 0, none⟩)] W fun e w' => e = .returned (.int .i64 xs.length) ∧ w' = W) := by
        intro W h
        exact size_any w0.heap.size gf _ bv xs W ((h.block gf (Array.getElem?_eq_some_iff.1 sV.hf).1 hne2).trans sV.hf) rfl (own_frm sV.ho h (fun k hk e => own_ne sV.ho lV (by decide) (e ▸ hk))) hx
      have KV : Hid (Frm wr V (fun _ => False) ∧ V.heap[tb]? = some (.cells #[.string ⟨#[]⟩, .int .i64 0, .int .i64 0, .int .i64 reads, .int .i64 rb, .int .i64 writes, .int .i64 wrote, .int .i64 seeks] 34 (0, 0))) := ⟨fV, lV⟩
      have FT : Hid (∀ a b c, Frm V (((V.setCell ⟨tb, 0, none⟩ a).setCell ⟨tb, 1, none⟩ b).setCell ⟨tb, 2, none⟩ c).drew (fun k => k = tb)) := by
        intro a b c
        have h : Frm V (((V.setCell ⟨tb, 0, none⟩ a).setCell ⟨tb, 1, none⟩ b).setCell ⟨tb, 2, none⟩ c) (fun k => k = tb) := ((Frm.setCell V ⟨tb, 0, none⟩ a).trans (Frm.setCell _ ⟨tb, 1, none⟩ b) (fun k _ e => e)).trans (Frm.setCell _ ⟨tb, 2, none⟩ c) (fun k _ e => e)
        exact h.trans (frm_drewN _ 1) (fun k _ e => e.elim)
      clear sV lV fV s2 fw2 ow2 x1 x3 x4 x5 x6 x7 x8 x9 x10 hlk e7
      apply wp_cut (fun w' => w'.heap[tb]? = some (.cells #[.string ⟨#[102]⟩, .int .i64 xs.length, .int .i64 0, .int .i64 reads, .int .i64 rb, .int .i64 writes, .int .i64 wrote, .int .i64 seeks] 34 (0, 0)) ∧ Frm V w' (fun k => k = tb))
      case h =>
        go_region_with ((go_at_call 27; refine (HSZ.out _ (by first | exact ⟨rfl, rfl, rfl, Nat.le_refl _, fun _ _ _ => rfl⟩ | exact Frm.setCell _ _ _)).mono ?_; rintro e5 w5 ⟨rfl, h5⟩; subst w5))
        all_goals exact ⟨rfl, sc (sc (sc KV.out.2 0 _) 1 _) 2 _, FT.out _ _ _⟩
      case hq =>
        rintro W ⟨hW, fW⟩
        obtain ⟨fV, lV⟩ := KV.out
        obtain ⟨s2, fw2, ow2⟩ := KEEP.out
        obtain ⟨p0, -⟩ := dcell hW 0 (.string ⟨#[102]⟩) rfl
        obtain ⟨p1, -⟩ := dcell hW 1 (.int .i64 xs.length) rfl
        obtain ⟨p2, -⟩ := dcell hW 2 (.int .i64 0) rfl
        obtain ⟨p3, -⟩ := dcell hW 3 (.int .i64 reads) rfl
        obtain ⟨p4, -⟩ := dcell hW 4 (.int .i64 rb) rfl
        obtain ⟨p5, -⟩ := dcell hW 5 (.int .i64 writes) rfl
        obtain ⟨p6, -⟩ := dcell hW 6 (.int .i64 wrote) rfl
        obtain ⟨p7, -⟩ := dcell hW 7 (.int .i64 seeks) rfl
        have hlw : w.heap.size < wr.heap.size := (ow2.lt w.heap.size rfl).2
        have htw := HTB.out
        have fX : Frm wr (W.alloc (.cells #[.string ⟨#[102]⟩, .int .i64 xs.length, .int .i64 0, .int .i64 reads, .int .i64 rb, .int .i64 writes, .int .i64 wrote, .int .i64 seeks] 34)) (fun k => k = tb) := (fV.trans' fW (S := fun k => k = tb) (fun k _ e => e.elim) (fun k _ e => e)).trans' (S2 := fun _ => False) (Frm.of_below ((Below.refl _ _).alloc (Nat.le_refl _) _)) (fun k _ e => e) (fun k _ e => e.elim)
        have hX1 : (W.alloc (.cells #[.string ⟨#[102]⟩, .int .i64 xs.length, .int .i64 0, .int .i64 reads, .int .i64 rb, .int .i64 writes, .int .i64 wrote, .int .i64 seeks] 34)).heap[W.heap.size]? = some (.cells #[.string ⟨#[102]⟩, .int .i64 xs.length, .int .i64 0, .int .i64 reads, .int .i64 rb, .int .i64 writes, .int .i64 wrote, .int .i64 seeks] 34 (0, 0)) := heap_alloc_last W _
        have owX : (W.alloc (.cells #[.string ⟨#[102]⟩, .int .i64 xs.length, .int .i64 0, .int .i64 reads, .int .i64 rb, .int .i64 writes, .int .i64 wrote, .int .i64 seeks] 34)).ownsRow w.heap.size 34 8 (.slice (some ⟨w.heap.size, 0, none⟩) 0 1) 0 [] := by
          refine ow2.kept (row := some tb) ⟨fX.os, fX.tape, fX.output, fX.size, fun k hk hn => fX.block k hk (fun e => hn (by rw [e]))⟩ (.inr ?_)
          simp only [Value.ownBlock]
          intro e
          injection e with e
          omega
        obtain ⟨Z, hr, owZ, grZ⟩ := run_append_fits (P := Tryd.prog) (W.alloc (.cells #[.string ⟨#[102]⟩, .int .i64 xs.length, .int .i64 0, .int .i64 reads, .int .i64 rb, .int .i64 writes, .int .i64 wrote, .int .i64 seeks] 34)) w.heap.size 31 31 34 i0 8 Tryd.underlying31 hi hs1 w.heap.size 0 1 [] owX ⟨W.heap.size, 0, none⟩ 1 1 [.string ⟨#[102]⟩, .int .i64 xs.length, .int .i64 0, .int .i64 reads, .int .i64 rb, .int .i64 writes, .int .i64 wrote, .int .i64 seeks] rfl (by
          intro j u hj
          rw [Addr.add_lit]
          rw [cell_of_row _ W.heap.size _ _ 34 (0, 0) hX1]
          simpa using hj) (by simp [Value.oneCell']) (by omega)
        have HR : Hid ((Builtin.append_ #[31, 31] 31 #[.slice (some ⟨w.heap.size, 0, none⟩) 0 1, .slice (some ⟨W.heap.size, 0, none⟩) 1 1]).run Tryd.prog (W.alloc (.cells #[.string ⟨#[102]⟩, .int .i64 xs.length, .int .i64 0, .int .i64 reads, .int .i64 rb, .int .i64 writes, .int .i64 wrote, .int .i64 seeks] 34)) = .ok (.slice (some ⟨w.heap.size, 0, none⟩) 1 1) Z) := hr
        have FZ : Hid (Z.cell? ⟨w.heap.size, 4, none⟩ = some (.int .i64 rb) ∧ Z.cell? ⟨w.heap.size, 7, none⟩ = some (.int .i64 seeks) ∧ Below w.heap.size w Z) := by
          refine ⟨owZ.cellAt 4 (by omega), owZ.cellAt 7 (by omega), ?_⟩
          have f3 : Frm w Z (fun k => k = tb ∨ k = w.heap.size) := (fw2.trans' fX (S := fun k => k = tb ∨ k = w.heap.size) (fun k _ e => e.elim) (fun k _ e => .inl e)).trans (Frm.of_grown grZ) (fun k _ e => .inr (by injection e with e; omega))
          exact f3.below (Below.refl _ _) (Nat.le_refl _) (fun k e => e.elim (fun e => by omega) (fun e => by omega))
        clear HSZ KV y0 y1 y2 y0' y1' y2' z1 fX hX1 owX hr owZ grZ fV lV s2 fw2 ow2 fW hW FT htw
        go_wp2_with (at_builtin; refine wpList_append_eqT rfl _ _ 31 rfl rfl _ _ (.slice (some ⟨w.heap.size, 0, none⟩) 1 1) (by rfl) (by rfl) HR ?_)
        exact ⟨.inr ⟨rfl, rfl, FZ.out⟩, by simp [intOf]⟩
    · go_wp2
      go_ret
      exact ⟨_, _, rfl, Nat.le_refl _, y4, y7, hB⟩
end Pb
end Go.Proofs.YtiljdiagabepbaaDoor
