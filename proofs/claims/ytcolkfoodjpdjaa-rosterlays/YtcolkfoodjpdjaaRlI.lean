import Derived.Test.YtcolkfoodjpdjaaRlH
namespace Go.Proofs.Ytcolkfoodjpdjaa
namespace Rl
open Go.RowKit Ra
set_option linter.unusedVariables false
/-- What stands while the document's answer lays sections. -/
def RS (w : World) (v : Value) (R : List Sc) (xs : List Value) (wr : World) : Prop := SL wr w.heap.size v R xs ∧ Below w.heap.size w wr
theorem RS.on {w wr W : World} {v : Value} {R : List Sc} {xs : List Value} (h : RS w v R xs wr) (hb : Below wr.heap.size wr W) : RS w v R xs W := ⟨h.1.on hb, h.2.trans (hb.mono h.2.size)⟩
theorem RS.step {w wr X w4 : World} {n : Nat} {v v' u : Value} {R : List Sc} {xs : List Value} {nm : ByteArray} {es : List En} (h : RS w v R xs wr) (hn : R.length = n) (hB : Below wr.heap.size wr X) (hu : LR X wr.heap.size u es) (hg : X.grownBy w4 v.ownBlock)
    (hown : w4.ownsRow w.heap.size 37 2 v' (n + 1) (xs ++ [.string nm, u])) : RS w v' (R ++ [(nm, es)]) (xs ++ [.string nm, u]) w4 := by
  have hX := h.on hB
  exact ⟨h.1.step hn hB h.2.size hu hg hown, hX.2.grown hg hX.2.size (fun j hj => (World.ownsRow.lt hX.1.1 j hj).1)⟩
/-- A section's and an entry's cells. -/
abbrev C6 (x z : Addr) (k n : Nat) (nm : ByteArray) (a : Option Addr) (l c : Nat) (e : En) (W : World) : Prop :=
  W.cell? (x.add (k * 2)) = some (.string nm) ∧ W.cell? ⟨(x.add (k * 2)).block, (x.add (k * 2)).off + 1, none⟩ = some (.slice a l c) ∧
  W.cell? (z.add (n * 2)) = some (.string e.1) ∧ W.cell? ⟨(z.add (n * 2)).block, (z.add (n * 2)).off + 1, none⟩ = some (.string e.2)
abbrev C7 (x z : Addr) (k n : Nat) (nm : ByteArray) (a : Option Addr) (l c : Nat) (e : En) (M mj d : Nat) (W : World) : Prop :=
  W.cell? (x.add (k * 2)) = some (.string nm) ∧ W.cell? ⟨(x.add (k * 2)).block, (x.add (k * 2)).off + 1, none⟩ = some (.slice a l c) ∧
  W.cell? (z.add (n * 2)) = some (.string e.1) ∧ W.cell? ⟨(z.add (n * 2)).block, (z.add (n * 2)).off + 1, none⟩ = some (.string e.2) ∧ W.cell? ⟨M, 1, none⟩ = some (.slice (some z) mj d)
theorem len_own {w : World} {B n : Nat} {v : Value} {L : List En} (hn : L.length = n) (h : LR w B v L) : w.ownsRow B 31 2 v n (lc L) := by subst hn; exact h
set_option maxHeartbeats 6400000 in
set_option maxRecDepth 8000 in
theorem rlay_any (a b : Option Addr) (l c m d : Nat) (D O : Nat → Dt) (w : World) (hl : cnt D l ≤ 100000) (hm : cnt O m ≤ 100000) (h1 : SRow w a l D) (h2 : SRow w b m O) :
    Calls Try.prog 10 #[.slice a l c, .slice b m d] w fun e w' => ∃ v xs, e = .returned v ∧ SL w' w.heap.size v (layS D l O m) xs ∧ Below w.heap.size w w' := by
  have hll := cnt_ge D l
  have hmm := cnt_ge O m
  have H1 : Hid (SRow w a l D) := h1
  have H2 : Hid (SRow w b m O) := h2
  clear h1 h2
  go_enter Try.func10, Try.ntmps10
  go_wp2
  go_loopw [5, 6] (fun v i wr => ∃ (k : Nat) (xs : List Value), k ≤ l ∧ i = .int .i64 k ∧ RS w v (s1 D O m k) xs wr) (fun _ i _ => l - (intOf i).toNat)
  case atStart => exact ⟨0, [], Nat.zero_le _, rfl, SL.nil _ _, Below.refl _ _⟩
  case round =>
    obtain ⟨k, xs, hk, rfl, hRS⟩ := hrel
    by_cases hlt : k < l
    · obtain ⟨x, rfl, hx⟩ := H1.out (by omega)
      have hBw := hRS.2
      have hsz := hBw.size
      have hxw := hx.on hBw
      obtain ⟨p0, a1, c1, p1', hn1, e1⟩ := hxw.2 k hlt
      obtain ⟨P0, P1⟩ := cells2 ⟨p0, p1'⟩
      have hck := cnt_at D hlt
      have hp := s1_len D O m k
      have hxb := hxw.1
      clear hx hxw p0 p1'
      have HRS : Hid (RS w u5 (s1 D O m k) xs wr) := hRS
      clear hRS
      have hBm : Below wr.heap.size wr (wr.alloc (.cells #[.string ⟨#[]⟩, .slice none 0 0] 37)) := (Below.refl _ _).alloc (Nat.le_refl _) _
      have P0m := (hBm.cell (p := x.add (k * 2)) (by rw [add_block]; exact hxb)).trans P0
      go_wp2_with (fail)
      refine (find_any b m d O (D k).nm _ (by omega) (fun h0 => by obtain ⟨y, rfl, hy⟩ := H2.out h0; exact ⟨y, rfl, (hy.on hBw).on hBm⟩)).mono ?_
      rintro e3 w3 ⟨rfl, hw3⟩
      subst w3
      cases hf : fsti (fun j => (O j).nm) m (D k).nm with
      | none =>
        have HU : Hid (sec1 D O m k = ((D k).nm, layE (D k).E (D k).l (fun _ => (⟨#[]⟩, ⟨#[]⟩)) 0)) := by
          show ((D k).nm, _) = _
          rw [hf, layE_zero]
        simp only [plc]
        go_wp2
        obtain ⟨M, hM⟩ : ∃ M, M = wr.heap.size := ⟨_, rfl⟩
        obtain ⟨WT, hWT⟩ : ∃ WT, (wr.alloc (.cells #[.string ⟨#[]⟩, .slice none 0 0] 37)).alloc (.cells #[.string (D k).nm, .slice none 0 0] 37) = WT := ⟨_, rfl⟩
        have pk : ∃ (mnm : ByteArray) (b1 : Option Addr) (mj d1 : Nat) (F : Nat → En), IL wr M (D k).nm mnm b1 mj d1 [] (.slice none 0 0) WT ∧ ERow wr b1 mj F ∧ mj ≤ 100000 ∧ sec1 D O m k = ((D k).nm, layE (D k).E (D k).l F mj) := by
          refine ⟨⟨#[]⟩, none, 0, 0, _, ⟨?_, ?_, World.ownsRow_nil _ _ _ _, ?_⟩, (fun h => by omega), by omega, HU.out⟩
          · rw [← hWT, hM]
            have := B2.new (wr.alloc (.cells #[.string ⟨#[]⟩, .slice none 0 0] 37)) (.string (D k).nm) (.slice none 0 0) 37
            rwa [World.size_alloc] at this
          · rw [← hWT, hM]; exact (B2.new wr _ _ _).alloc _
          · rw [← hWT, hM]; exact hBm.alloc (by simp) _
        obtain ⟨mnm, b1, mj, d1, F, hIL, f1, hmj, hU⟩ := pk
        rw [hWT, ← hM]
        clear hWT HU
        have HU : Hid (sec1 D O m k = ((D k).nm, layE (D k).E (D k).l F mj)) := hU
        clear hU
        obtain ⟨W0, rfl⟩ : ∃ W0, W0 = wr := ⟨_, rfl⟩
        have HIL : Hid (IL W0 M (D k).nm mnm b1 mj d1 [] (.slice none 0 0) WT) := hIL
        have HE : Hid (ERow W0 a1 (D k).l (D k).E) := e1
        have HF : Hid (ERow W0 b1 mj F) := f1
        have HP : Hid ((W0.cell? (x.add (k * 2)) = some (.string (D k).nm) ∧ W0.cell? ⟨(x.add (k * 2)).block, (x.add (k * 2)).off + 1, none⟩ = some (.slice a1 (D k).l c1)) ∧ x.block < W0.heap.size) := ⟨⟨P0, P1⟩, hxb⟩
        have HMM : Hid (M = W0.heap.size) := hM
        have HB0 : Hid (Below w.heap.size w W0) := hBw
        have P1T := ((by have := hIL.b; rw [hM] at this; exact this : Below W0.heap.size W0 WT).cell (p := ⟨(x.add (k * 2)).block, (x.add (k * 2)).off + 1, none⟩) (by rw [add_block]; exact hxb)).trans P1
        clear hIL e1 f1 P0 P1 P0m hM hBm hf hBw hn1
        go_loopw [10] (fun j wi => ∃ (n : Nat) (v : Value), n ≤ (D k).l ∧ j = .int .i64 n ∧ IL W0 M (D k).nm mnm b1 mj d1 (p1 (D k).E F mj n) v wi) (fun j _ => (D k).l - (intOf j).toNat)
        case atStart => exact ⟨0, _, Nat.zero_le _, rfl, HIL.out⟩
        case round =>
          clear P1T HIL
          obtain ⟨n, v, hn, rfl, hI⟩ := hrel
          have hb := hI.b
          rw [HMM.out] at hb
          have Pi := (hb.cell (p := ⟨(x.add (k * 2)).block, (x.add (k * 2)).off + 1, none⟩) (by rw [add_block]; exact HP.out.2)).trans HP.out.1.2
          by_cases hnl : n < (D k).l
          · obtain ⟨z, rfl, hz⟩ := HE.out (by omega)
            obtain ⟨Z0, Z1⟩ := cells2 ((hz.on hb).2 n hnl)
            have hpl := p1_len (D k).E F mj n
            obtain ⟨en, HEN⟩ : ∃ en, Hid ((D k).E n = en) := ⟨_, rfl⟩
            rw [HEN.out] at Z0 Z1
            have hsi := hI.size
            have M0 := (hI.m.alloc (.cells #[.string en.1, .string en.2] 31)).c0
            have M1 := (hI.m.alloc (.cells #[.string en.1, .string en.2] 31)).c1
            have hI2 := (hI.alloc (.cells #[.string en.1, .string en.2] 31)).alloc (.cells #[.string mnm, .slice b1 mj d1] 37)
            have x2 : B2 ((wr.alloc (.cells #[.string en.1, .string en.2] 31)).alloc (.cells #[.string mnm, .slice b1 mj d1] 37)) wr.heap.size (.string en.1) (.string en.2) 31 := (B2.new wr _ _ _).alloc _
            have f2 := (HF.out.on hb).on ((Below.refl _ _).alloc (Nat.le_refl _) (.cells #[.string en.1, .string en.2] 31))
            have f3 := f2.on ((Below.refl _ _).alloc (Nat.le_refl _) (.cells #[.string mnm, .slice b1 mj d1] 37))
            have hxo : some wr.heap.size ≠ v.ownBlock := fun e => by have := (World.ownsRow.lt hI.r _ e.symm).2; omega
            clear hz
            go_wp2_with (fail)
            refine (has_any mnm b1 mj d1 F en.1 _ hmj f2).mono ?_
            rintro e4 w4 ⟨rfl, hw4⟩
            subst w4
            have HI2 := hid hI2
            have HX2 := hid x2
            have HT := hid HMM.out
            cases hg : fsti (fun i => (F i).1) mj en.1 with
            | none =>
              have HUp : Hid (upd (D k).E F mj n = en) := by show (((D k).E n).1, _) = _; rw [HEN.out, hg]
              simp only [plc]
              have T1 := hI2.t.c1
              have X0 := x2.c0
              have X1 := x2.c1
              have HO := hid hI2.r
              clear hI2 x2 f2 f3 hb hI hg M0 M1
              go_wp2_with (at_builtin; refine wpList_append2 tpE rfl _ _ rfl M v _ n 1 (lc (p1 (D k).E F mj n)) [.string en.1, .string en.2] rfl (World.ownsRow.alloc (len_own hpl HO.out) _) rfl (src_at _ _ (by simp) _ _ _ rfl rfl _) (by omega) (by simp; omega) ?_)
              intro v' w5 hown5 hgr5 _
              obtain ⟨g', cap', rfl⟩ := ownsRow_succ hown5
              obtain ⟨⟨hc1, hf1⟩, hI5⟩ := IL.step HT.out (HI2.out.alloc _) hpl hown5 hgr5
              have hpn : p1 (D k).E F mj (n + 1) = p1 (D k).E F mj n ++ [en] := by show p1 (D k).E F mj n ++ [upd (D k).E F mj n] = _; rw [HUp.out]
              rw [← hpn] at hI5
              have HI5 := hid hI5
              clear hown5 hgr5 hI5 HO hpn
              go_wp2
              go_roundw
              case rel => exact ⟨n + 1, _, by omega, by go_num, HI5.out⟩
              case measure => simp [intOf]; omega
            | some q =>
              have hq := fsti_lt hg
              obtain ⟨y, rfl, hy⟩ := f3 (by omega)
              obtain ⟨_, Q1⟩ := cells2 (hy.2 q hq)
              obtain ⟨fq, HFQ⟩ : ∃ fq, Hid (F q = fq) := ⟨_, rfl⟩
              have HUp : Hid (upd (D k).E F mj n = (en.1, fq.2)) := by show (((D k).E n).1, _) = _; rw [HEN.out, hg, ← HFQ.out]
              rw [HFQ.out] at Q1
              simp only [plc]
              have M2 := hI2.m.c1
              have X1 := x2.c1
              have XF := x2.f1
              have hI3 := (hI.alloc (.cells #[.string en.1, .string fq.2] 31)).alloc (.cells #[.string mnm, .slice (some y) mj d1] 37)
              have x3 : B2 ((wr.alloc (.cells #[.string en.1, .string fq.2] 31)).alloc (.cells #[.string mnm, .slice (some y) mj d1] 37)) wr.heap.size (.string en.1) (.string fq.2) 31 := (B2.new wr _ _ _).alloc _
              have T1 := hI3.t.c1
              have Y0 := x3.c0
              have Y1 := x3.c1
              have HI3 := hid hI3
              have HO := hid hI3.r
              clear hI2 x2 f2 f3 hb hI hg M0 M1 hy hI3 x3
              go_wp2_with (at_builtin; refine wpList_append2 tpE rfl _ _ rfl M v _ n 1 (lc (p1 (D k).E F mj n)) [.string en.1, .string fq.2] rfl (World.ownsRow.alloc (len_own hpl HO.out) _) rfl (src_at _ _ (by simp) _ _ _ rfl rfl _) (by omega) (by simp; omega) ?_)
              intro v' w5 hown5 hgr5 _
              obtain ⟨g', cap', rfl⟩ := ownsRow_succ hown5
              obtain ⟨⟨hc1, hf1⟩, hI5⟩ := IL.step (x := (en.1, fq.2)) HT.out (HI3.out.alloc _) hpl hown5 hgr5
              have hpn : p1 (D k).E F mj (n + 1) = p1 (D k).E F mj n ++ [(en.1, fq.2)] := by show p1 (D k).E F mj n ++ [upd (D k).E F mj n] = _; rw [HUp.out]
              rw [← hpn] at hI5
              have HI5 := hid hI5
              clear hown5 hgr5 hI5 HO hpn
              go_wp2
              go_roundw
              case rel => exact ⟨n + 1, _, by omega, by go_num, HI5.out⟩
              case measure => simp [intOf]; omega
          · obtain rfl : n = (D k).l := by omega
            have HI1 := hid hI
            have hpl := p1_len (D k).E F mj (D k).l
            clear hI hb hnl
            go_wp2
            go_loopw [13] (fun j wi => ∃ (n : Nat) (v : Value), n ≤ mj ∧ j = .int .i64 n ∧ IL W0 M (D k).nm mnm b1 mj d1 (p1 (D k).E F mj (D k).l ++ p2 (D k).E F (D k).l n) v wi) (fun j _ => mj - (intOf j).toNat)
            case atStart => exact ⟨0, _, Nat.zero_le _, rfl, by simpa [p2] using HI1.out⟩
            case round =>
              clear HI1 Pi
              obtain ⟨n, v, hn, rfl, hI⟩ := hrel
              have hb := hI.b
              rw [HMM.out] at hb
              have M1 := hI.m.c1
              by_cases hnl : n < mj
              · obtain ⟨z, rfl, hz⟩ := HF.out (by omega)
                have HZ : Hid (∀ W, Below W0.heap.size W0 W → C6 x z k n (D k).nm a1 (D k).l c1 (F n) W) := fun W hW =>
                  ⟨(hW.cell (p := x.add (k * 2)) (by rw [add_block]; exact HP.out.2)).trans HP.out.1.1, (hW.cell (p := ⟨(x.add (k * 2)).block, (x.add (k * 2)).off + 1, none⟩) (by rw [add_block]; exact HP.out.2)).trans HP.out.1.2, (cells2 ((hz.on hW).2 n hnl)).1, (cells2 ((hz.on hW).2 n hnl)).2⟩
                have hp2 := p2_len (D k).E F (D k).l n
                obtain ⟨fn, HFN⟩ : ∃ fn, Hid (F n = fn) := ⟨_, rfl⟩
                rw [HFN.out] at HZ
                have HH : Hid (∀ W, Below W0.heap.size W0 W → Calls Try.prog 16 #[.agg #[.string (D k).nm, .slice a1 (D k).l c1], .string fn.1] W fun e w' => e = .returned (.int .i64 (plc (fsti (fun i => ((D k).E i).1) (D k).l fn.1))) ∧ w' = W.alloc (.cells #[.string (D k).nm, .slice a1 (D k).l c1] 37)) := fun W hW => has_any (D k).nm a1 (D k).l c1 (D k).E fn.1 _ (by omega) (HE.out.on hW)
                have HBB := hid hb
                have HI0 := hid hI
                have hsb := hb.size
                have HS : Hid (∀ W, Below wr.heap.size wr W → C7 x z k n (D k).nm a1 (D k).l c1 fn M mj d1 W) := fun W hW => by
                  obtain ⟨q0, q1, q2, q3⟩ := HZ.out W (hb.trans (hW.mono hsb))
                  exact ⟨q0, q1, q2, q3, (HI0.out.m.on hW).c1⟩
                have hlq : (p1 (D k).E F mj (D k).l ++ p2 (D k).E F (D k).l n).length = (D k).l + (p2 (D k).E F (D k).l n).length := by rw [List.length_append, hpl]
                clear hI hb hz HZ
                have HBA : Hid (Below wr.heap.size wr ((wr.drewN 1).alloc (.cells #[.string (D k).nm, .slice a1 (D k).l c1] 37))) := (below_drew (Below.refl wr.heap.size wr) 1).alloc (by simp) _
                cases hg : fsti (fun i => ((D k).E i).1) (D k).l fn.1 with
                | some q =>
                  rw [hg] at HH
                  have hpn : p2 (D k).E F (D k).l (n + 1) = p2 (D k).E F (D k).l n := by unfold p2; rw [HFN.out, hg]; cases n <;> rfl
                  rw [← hpn] at HI0
                  clear hpn hlq
                  simp only [plc] at HH
                  go_wp2_with (fail)
                  go_region_held3 (C7 x z k n (D k).nm a1 (D k).l c1 fn M mj d1) ((first | exact HS.out _ HBA.out | exact HS.out _ (below_drew (Below.refl _ _) 1)))
                    ((go_at_call 16; refine (HH.out _ (below_drew HBB.out 1)).mono ?_; rintro e6 w6 ⟨rfl, h6⟩; subst w6))
                  obtain ⟨w6, h6⟩ : ∃ w6, (wr.drewN 1).alloc (.cells #[.string (D k).nm, .slice a1 (D k).l c1] 37) = w6 := ⟨_, rfl⟩
                  have hB6 : Below wr.heap.size wr w6 := by rw [← h6]; exact HBA.out
                  rw [h6]
                  have HI6 := hid ((HI0.out.drawn 1).alloc (.cells #[.string (D k).nm, .slice a1 (D k).l c1] 37))
                  have HI7 : Hid (IL W0 M (D k).nm mnm (some z) mj d1 (p1 (D k).E F mj (D k).l ++ p2 (D k).E F (D k).l (n + 1)) v w6) := by rw [← h6]; exact HI6.out
                  clear HI6 HI0 h6 hB6 HH HS
                  go_wp2
                  go_roundw
                  case rel => exact ⟨n + 1, _, by omega, by go_num, HI7.out⟩
                  case measure => simp [intOf]; omega
                | none =>
                  rw [hg] at HH
                  have hpn : p2 (D k).E F (D k).l (n + 1) = p2 (D k).E F (D k).l n ++ [fn] := by conv => lhs; unfold p2; rw [HFN.out, hg]
                  simp only [plc] at HH
                  go_wp2_with (fail)
                  go_region_held3 (C7 x z k n (D k).nm a1 (D k).l c1 fn M mj d1) ((first | exact HS.out _ HBA.out | exact HS.out _ (below_drew (Below.refl _ _) 1)))
                    ((go_at_call 16; refine (HH.out _ (below_drew HBB.out 1)).mono ?_; rintro e6 w6 ⟨rfl, h6⟩; subst w6))
                  obtain ⟨w6, h6⟩ : ∃ w6, (wr.drewN 1).alloc (.cells #[.string (D k).nm, .slice a1 (D k).l c1] 37) = w6 := ⟨_, rfl⟩
                  have hB6 : Below wr.heap.size wr w6 := by rw [← h6]; exact HBA.out
                  rw [h6]
                  have HI6 : Hid (IL W0 M (D k).nm mnm (some z) mj d1 (p1 (D k).E F mj (D k).l ++ p2 (D k).E F (D k).l n) v w6) := by
                    have h9 := (HI0.out.drawn 1).alloc (.cells #[.string (D k).nm, .slice a1 (D k).l c1] 37)
                    rw [← h6]; exact h9
                  obtain ⟨_, _, q2, q3, q4⟩ := HS.out _ hB6
                  have T1 := HI6.out.t.c1
                  have TF := HI6.out.t.f1
                  have hs6 := HI6.out.size
                  have T1a := (HI6.out.alloc (.cells #[.string fn.1, .string fn.2] 31)).t.c1
                  have HO := hid (len_own hlq HI6.out.r)
                  clear HI0 h6 hB6 HH HS hg HBB HBA
                  go_wp2_with (fail)
                  go_region_law ((refine step_append2 tpE (by rfl) _ _ (by rfl) M v _ ((D k).l + (p2 (D k).E F (D k).l n).length) 1 (lc (p1 (D k).E F mj (D k).l ++ p2 (D k).E F (D k).l n)) [.string fn.1, .string fn.2] (by rfl) (HO.out.alloc _) (by rfl) (src_new _ _ _ _ rfl rfl _) (by omega) (by simp; omega) ?_; intro v7 w7 hown7 hgr7 hat7; obtain ⟨g', cap', hv7⟩ := ownsRow_succ hown7; subst hv7; obtain ⟨⟨hc1, hf1⟩, hI7⟩ := IL.step HMM.out ((HI6.out.alloc _).drawn 1) hlq hown7 hgr7))
                  all_goals
                    rw [List.append_assoc, ← hpn] at hI7
                    have HI8 := hid hI7
                    clear hI7 hown7 hgr7 hat7 HO T1a
                    go_wp2
                    go_roundw
                    case rel => exact ⟨n + 1, _, by omega, by go_num, HI8.out⟩
                    case measure => simp [intOf]; omega
              · obtain rfl : n = mj := by omega
                have hp2 := p2_len (D k).E F (D k).l n
                have hR := hI.r
                obtain ⟨va, vc, rfl⟩ := lr_shape hR
                have T0 := hI.t.c0
                have T1 := hI.t.c1
                have hs6 := hI.size
                have hsb := hb.size
                have HB9 := hid hb
                have HR9 : Hid (LR wr W0.heap.size (.slice va (p1 (D k).E F n (D k).l ++ p2 (D k).E F (D k).l n).length vc) (layE (D k).E (D k).l F n)) := by rw [← HMM.out]; exact hR
                obtain ⟨es, HES⟩ : ∃ es, Hid (p1 (D k).E F n (D k).l ++ p2 (D k).E F (D k).l n = es) := ⟨_, rfl⟩
                have hes : es.length ≤ 200000 := by rw [← HES.out, List.length_append]; omega
                rw [show layE (D k).E (D k).l F n = es from HES.out] at HR9 HU
                rw [HES.out] at HR9 T1
                have HO := hid (HRS.out.on hb).1.1
                rw [hp] at HO
                have hs0 := HB0.out.size
                clear hI hb hR hnl hpl
                go_wp2_with (at_builtin; refine wpList_append2 tpS rfl _ _ rfl w.heap.size _ _ k 1 xs [.string (D k).nm, .slice va es.length vc] rfl (HO.out.alloc _) rfl (src_new _ _ _ _ rfl rfl _) (by omega) (by simp; omega) ?_)
                intro v' w7 hown' hgr' _
                have HNx : Hid (RS w v' (s1 D O m (k + 1)) (xs ++ [.string (D k).nm, .slice va es.length vc]) w7) := by
                  show RS _ _ (s1 D O m k ++ [sec1 D O m k]) _ _
                  rw [HU.out]
                  exact HRS.out.step hp (HB9.out.alloc hsb _) (World.ownsRow.alloc HR9.out _) hgr' hown'
                clear hown' hgr' HO HRS
                go_wp2
                go_roundw
                case rel => exact ⟨k + 1, _, by omega, by go_num, HNx.out⟩
                case measure => simp [intOf]; omega
      | some j =>
        have hj := fsti_lt hf
        have hcj := cnt_at O hj
        obtain ⟨y, rfl, hy⟩ := H2.out (by omega)
        have hyw := hy.on hBw
        obtain ⟨q0, b9, d9, q1, _, f9⟩ := hyw.2 j hj
        obtain ⟨Q0, Q1⟩ := cells2 ⟨q0, q1⟩
        have hyb := hyw.1
        have Q0m := (hBm.cell (p := y.add (j * 2)) (by rw [add_block]; exact hyb)).trans Q0
        have Q1m := (hBm.cell (p := ⟨(y.add (j * 2)).block, (y.add (j * 2)).off + 1, none⟩) (by rw [add_block]; exact hyb)).trans Q1
        have hBn : Below wr.heap.size wr (wr.alloc (.cells #[.string (O j).nm, .slice b9 (O j).l d9] 37)) := (Below.refl _ _).alloc (Nat.le_refl _) _
        have P0n := (hBn.cell (p := x.add (k * 2)) (by rw [add_block]; exact hxb)).trans P0
        have HU : Hid (sec1 D O m k = ((D k).nm, layE (D k).E (D k).l (O j).E (O j).l)) := by
          show ((D k).nm, _) = _
          rw [hf]
        clear hy hyw q0 q1 Q0 Q1
        simp only [plc]
        go_wp2
        obtain ⟨M, hM⟩ : ∃ M, M = wr.heap.size := ⟨_, rfl⟩
        obtain ⟨WT, hWT⟩ : ∃ WT, (wr.alloc (.cells #[.string (O j).nm, .slice b9 (O j).l d9] 37)).alloc (.cells #[.string (D k).nm, .slice none 0 0] 37) = WT := ⟨_, rfl⟩
        have pk : ∃ (mnm : ByteArray) (b1 : Option Addr) (mj d1 : Nat) (F : Nat → En), IL wr M (D k).nm mnm b1 mj d1 [] (.slice none 0 0) WT ∧ ERow wr b1 mj F ∧ mj ≤ 100000 ∧ sec1 D O m k = ((D k).nm, layE (D k).E (D k).l F mj) := by
          refine ⟨(O j).nm, b9, (O j).l, d9, (O j).E, ⟨?_, ?_, World.ownsRow_nil _ _ _ _, ?_⟩, f9, by omega, HU.out⟩
          · rw [← hWT, hM]
            have := B2.new (wr.alloc (.cells #[.string (O j).nm, .slice b9 (O j).l d9] 37)) (.string (D k).nm) (.slice none 0 0) 37
            rwa [World.size_alloc] at this
          · rw [← hWT, hM]; exact (B2.new wr _ _ _).alloc _
          · rw [← hWT, hM]; exact hBn.alloc (by simp) _
        obtain ⟨mnm, b1, mj, d1, F, hIL, f1, hmj, hU⟩ := pk
        rw [hWT, ← hM]
        clear hWT HU
        have HU : Hid (sec1 D O m k = ((D k).nm, layE (D k).E (D k).l F mj)) := hU
        clear hU Q0m Q1m P0n hBn f9 hyb
        obtain ⟨W0, rfl⟩ : ∃ W0, W0 = wr := ⟨_, rfl⟩
        have HIL : Hid (IL W0 M (D k).nm mnm b1 mj d1 [] (.slice none 0 0) WT) := hIL
        have HE : Hid (ERow W0 a1 (D k).l (D k).E) := e1
        have HF : Hid (ERow W0 b1 mj F) := f1
        have HP : Hid ((W0.cell? (x.add (k * 2)) = some (.string (D k).nm) ∧ W0.cell? ⟨(x.add (k * 2)).block, (x.add (k * 2)).off + 1, none⟩ = some (.slice a1 (D k).l c1)) ∧ x.block < W0.heap.size) := ⟨⟨P0, P1⟩, hxb⟩
        have HMM : Hid (M = W0.heap.size) := hM
        have HB0 : Hid (Below w.heap.size w W0) := hBw
        have P1T := ((by have := hIL.b; rw [hM] at this; exact this : Below W0.heap.size W0 WT).cell (p := ⟨(x.add (k * 2)).block, (x.add (k * 2)).off + 1, none⟩) (by rw [add_block]; exact hxb)).trans P1
        clear hIL e1 f1 P0 P1 P0m hM hBm hf hBw hn1
        go_loopw [10] (fun j wi => ∃ (n : Nat) (v : Value), n ≤ (D k).l ∧ j = .int .i64 n ∧ IL W0 M (D k).nm mnm b1 mj d1 (p1 (D k).E F mj n) v wi) (fun j _ => (D k).l - (intOf j).toNat)
        case atStart => exact ⟨0, _, Nat.zero_le _, rfl, HIL.out⟩
        case round =>
          clear P1T HIL
          obtain ⟨n, v, hn, rfl, hI⟩ := hrel
          have hb := hI.b
          rw [HMM.out] at hb
          have Pi := (hb.cell (p := ⟨(x.add (k * 2)).block, (x.add (k * 2)).off + 1, none⟩) (by rw [add_block]; exact HP.out.2)).trans HP.out.1.2
          by_cases hnl : n < (D k).l
          · obtain ⟨z, rfl, hz⟩ := HE.out (by omega)
            obtain ⟨Z0, Z1⟩ := cells2 ((hz.on hb).2 n hnl)
            have hpl := p1_len (D k).E F mj n
            obtain ⟨en, HEN⟩ : ∃ en, Hid ((D k).E n = en) := ⟨_, rfl⟩
            rw [HEN.out] at Z0 Z1
            have hsi := hI.size
            have M0 := (hI.m.alloc (.cells #[.string en.1, .string en.2] 31)).c0
            have M1 := (hI.m.alloc (.cells #[.string en.1, .string en.2] 31)).c1
            have hI2 := (hI.alloc (.cells #[.string en.1, .string en.2] 31)).alloc (.cells #[.string mnm, .slice b1 mj d1] 37)
            have x2 : B2 ((wr.alloc (.cells #[.string en.1, .string en.2] 31)).alloc (.cells #[.string mnm, .slice b1 mj d1] 37)) wr.heap.size (.string en.1) (.string en.2) 31 := (B2.new wr _ _ _).alloc _
            have f2 := (HF.out.on hb).on ((Below.refl _ _).alloc (Nat.le_refl _) (.cells #[.string en.1, .string en.2] 31))
            have f3 := f2.on ((Below.refl _ _).alloc (Nat.le_refl _) (.cells #[.string mnm, .slice b1 mj d1] 37))
            have hxo : some wr.heap.size ≠ v.ownBlock := fun e => by have := (World.ownsRow.lt hI.r _ e.symm).2; omega
            clear hz
            go_wp2_with (fail)
            refine (has_any mnm b1 mj d1 F en.1 _ hmj f2).mono ?_
            rintro e4 w4 ⟨rfl, hw4⟩
            subst w4
            have HI2 := hid hI2
            have HX2 := hid x2
            have HT := hid HMM.out
            cases hg : fsti (fun i => (F i).1) mj en.1 with
            | none =>
              have HUp : Hid (upd (D k).E F mj n = en) := by show (((D k).E n).1, _) = _; rw [HEN.out, hg]
              simp only [plc]
              have T1 := hI2.t.c1
              have X0 := x2.c0
              have X1 := x2.c1
              have HO := hid hI2.r
              clear hI2 x2 f2 f3 hb hI hg M0 M1
              go_wp2_with (at_builtin; refine wpList_append2 tpE rfl _ _ rfl M v _ n 1 (lc (p1 (D k).E F mj n)) [.string en.1, .string en.2] rfl (World.ownsRow.alloc (len_own hpl HO.out) _) rfl (src_at _ _ (by simp) _ _ _ rfl rfl _) (by omega) (by simp; omega) ?_)
              intro v' w5 hown5 hgr5 _
              obtain ⟨g', cap', rfl⟩ := ownsRow_succ hown5
              obtain ⟨⟨hc1, hf1⟩, hI5⟩ := IL.step HT.out (HI2.out.alloc _) hpl hown5 hgr5
              have hpn : p1 (D k).E F mj (n + 1) = p1 (D k).E F mj n ++ [en] := by show p1 (D k).E F mj n ++ [upd (D k).E F mj n] = _; rw [HUp.out]
              rw [← hpn] at hI5
              have HI5 := hid hI5
              clear hown5 hgr5 hI5 HO hpn
              go_wp2
              go_roundw
              case rel => exact ⟨n + 1, _, by omega, by go_num, HI5.out⟩
              case measure => simp [intOf]; omega
            | some q =>
              have hq := fsti_lt hg
              obtain ⟨y, rfl, hy⟩ := f3 (by omega)
              obtain ⟨_, Q1⟩ := cells2 (hy.2 q hq)
              obtain ⟨fq, HFQ⟩ : ∃ fq, Hid (F q = fq) := ⟨_, rfl⟩
              have HUp : Hid (upd (D k).E F mj n = (en.1, fq.2)) := by show (((D k).E n).1, _) = _; rw [HEN.out, hg, ← HFQ.out]
              rw [HFQ.out] at Q1
              simp only [plc]
              have M2 := hI2.m.c1
              have X1 := x2.c1
              have XF := x2.f1
              have hI3 := (hI.alloc (.cells #[.string en.1, .string fq.2] 31)).alloc (.cells #[.string mnm, .slice (some y) mj d1] 37)
              have x3 : B2 ((wr.alloc (.cells #[.string en.1, .string fq.2] 31)).alloc (.cells #[.string mnm, .slice (some y) mj d1] 37)) wr.heap.size (.string en.1) (.string fq.2) 31 := (B2.new wr _ _ _).alloc _
              have T1 := hI3.t.c1
              have Y0 := x3.c0
              have Y1 := x3.c1
              have HI3 := hid hI3
              have HO := hid hI3.r
              clear hI2 x2 f2 f3 hb hI hg M0 M1 hy hI3 x3
              go_wp2_with (at_builtin; refine wpList_append2 tpE rfl _ _ rfl M v _ n 1 (lc (p1 (D k).E F mj n)) [.string en.1, .string fq.2] rfl (World.ownsRow.alloc (len_own hpl HO.out) _) rfl (src_at _ _ (by simp) _ _ _ rfl rfl _) (by omega) (by simp; omega) ?_)
              intro v' w5 hown5 hgr5 _
              obtain ⟨g', cap', rfl⟩ := ownsRow_succ hown5
              obtain ⟨⟨hc1, hf1⟩, hI5⟩ := IL.step (x := (en.1, fq.2)) HT.out (HI3.out.alloc _) hpl hown5 hgr5
              have hpn : p1 (D k).E F mj (n + 1) = p1 (D k).E F mj n ++ [(en.1, fq.2)] := by show p1 (D k).E F mj n ++ [upd (D k).E F mj n] = _; rw [HUp.out]
              rw [← hpn] at hI5
              have HI5 := hid hI5
              clear hown5 hgr5 hI5 HO hpn
              go_wp2
              go_roundw
              case rel => exact ⟨n + 1, _, by omega, by go_num, HI5.out⟩
              case measure => simp [intOf]; omega
          · obtain rfl : n = (D k).l := by omega
            have HI1 := hid hI
            have hpl := p1_len (D k).E F mj (D k).l
            clear hI hb hnl
            go_wp2
            go_loopw [13] (fun j wi => ∃ (n : Nat) (v : Value), n ≤ mj ∧ j = .int .i64 n ∧ IL W0 M (D k).nm mnm b1 mj d1 (p1 (D k).E F mj (D k).l ++ p2 (D k).E F (D k).l n) v wi) (fun j _ => mj - (intOf j).toNat)
            case atStart => exact ⟨0, _, Nat.zero_le _, rfl, by simpa [p2] using HI1.out⟩
            case round =>
              clear HI1 Pi
              obtain ⟨n, v, hn, rfl, hI⟩ := hrel
              have hb := hI.b
              rw [HMM.out] at hb
              have M1 := hI.m.c1
              by_cases hnl : n < mj
              · obtain ⟨z, rfl, hz⟩ := HF.out (by omega)
                have HZ : Hid (∀ W, Below W0.heap.size W0 W → C6 x z k n (D k).nm a1 (D k).l c1 (F n) W) := fun W hW =>
                  ⟨(hW.cell (p := x.add (k * 2)) (by rw [add_block]; exact HP.out.2)).trans HP.out.1.1, (hW.cell (p := ⟨(x.add (k * 2)).block, (x.add (k * 2)).off + 1, none⟩) (by rw [add_block]; exact HP.out.2)).trans HP.out.1.2, (cells2 ((hz.on hW).2 n hnl)).1, (cells2 ((hz.on hW).2 n hnl)).2⟩
                have hp2 := p2_len (D k).E F (D k).l n
                obtain ⟨fn, HFN⟩ : ∃ fn, Hid (F n = fn) := ⟨_, rfl⟩
                rw [HFN.out] at HZ
                have HH : Hid (∀ W, Below W0.heap.size W0 W → Calls Try.prog 16 #[.agg #[.string (D k).nm, .slice a1 (D k).l c1], .string fn.1] W fun e w' => e = .returned (.int .i64 (plc (fsti (fun i => ((D k).E i).1) (D k).l fn.1))) ∧ w' = W.alloc (.cells #[.string (D k).nm, .slice a1 (D k).l c1] 37)) := fun W hW => has_any (D k).nm a1 (D k).l c1 (D k).E fn.1 _ (by omega) (HE.out.on hW)
                have HBB := hid hb
                have HI0 := hid hI
                have hsb := hb.size
                have HS : Hid (∀ W, Below wr.heap.size wr W → C7 x z k n (D k).nm a1 (D k).l c1 fn M mj d1 W) := fun W hW => by
                  obtain ⟨q0, q1, q2, q3⟩ := HZ.out W (hb.trans (hW.mono hsb))
                  exact ⟨q0, q1, q2, q3, (HI0.out.m.on hW).c1⟩
                have hlq : (p1 (D k).E F mj (D k).l ++ p2 (D k).E F (D k).l n).length = (D k).l + (p2 (D k).E F (D k).l n).length := by rw [List.length_append, hpl]
                clear hI hb hz HZ
                have HBA : Hid (Below wr.heap.size wr ((wr.drewN 1).alloc (.cells #[.string (D k).nm, .slice a1 (D k).l c1] 37))) := (below_drew (Below.refl wr.heap.size wr) 1).alloc (by simp) _
                cases hg : fsti (fun i => ((D k).E i).1) (D k).l fn.1 with
                | some q =>
                  rw [hg] at HH
                  have hpn : p2 (D k).E F (D k).l (n + 1) = p2 (D k).E F (D k).l n := by unfold p2; rw [HFN.out, hg]; cases n <;> rfl
                  rw [← hpn] at HI0
                  clear hpn hlq
                  simp only [plc] at HH
                  go_wp2_with (fail)
                  go_region_held3 (C7 x z k n (D k).nm a1 (D k).l c1 fn M mj d1) ((first | exact HS.out _ HBA.out | exact HS.out _ (below_drew (Below.refl _ _) 1)))
                    ((go_at_call 16; refine (HH.out _ (below_drew HBB.out 1)).mono ?_; rintro e6 w6 ⟨rfl, h6⟩; subst w6))
                  obtain ⟨w6, h6⟩ : ∃ w6, (wr.drewN 1).alloc (.cells #[.string (D k).nm, .slice a1 (D k).l c1] 37) = w6 := ⟨_, rfl⟩
                  have hB6 : Below wr.heap.size wr w6 := by rw [← h6]; exact HBA.out
                  rw [h6]
                  have HI6 := hid ((HI0.out.drawn 1).alloc (.cells #[.string (D k).nm, .slice a1 (D k).l c1] 37))
                  have HI7 : Hid (IL W0 M (D k).nm mnm (some z) mj d1 (p1 (D k).E F mj (D k).l ++ p2 (D k).E F (D k).l (n + 1)) v w6) := by rw [← h6]; exact HI6.out
                  clear HI6 HI0 h6 hB6 HH HS
                  go_wp2
                  go_roundw
                  case rel => exact ⟨n + 1, _, by omega, by go_num, HI7.out⟩
                  case measure => simp [intOf]; omega
                | none =>
                  rw [hg] at HH
                  have hpn : p2 (D k).E F (D k).l (n + 1) = p2 (D k).E F (D k).l n ++ [fn] := by conv => lhs; unfold p2; rw [HFN.out, hg]
                  simp only [plc] at HH
                  go_wp2_with (fail)
                  go_region_held3 (C7 x z k n (D k).nm a1 (D k).l c1 fn M mj d1) ((first | exact HS.out _ HBA.out | exact HS.out _ (below_drew (Below.refl _ _) 1)))
                    ((go_at_call 16; refine (HH.out _ (below_drew HBB.out 1)).mono ?_; rintro e6 w6 ⟨rfl, h6⟩; subst w6))
                  obtain ⟨w6, h6⟩ : ∃ w6, (wr.drewN 1).alloc (.cells #[.string (D k).nm, .slice a1 (D k).l c1] 37) = w6 := ⟨_, rfl⟩
                  have hB6 : Below wr.heap.size wr w6 := by rw [← h6]; exact HBA.out
                  rw [h6]
                  have HI6 : Hid (IL W0 M (D k).nm mnm (some z) mj d1 (p1 (D k).E F mj (D k).l ++ p2 (D k).E F (D k).l n) v w6) := by
                    have h9 := (HI0.out.drawn 1).alloc (.cells #[.string (D k).nm, .slice a1 (D k).l c1] 37)
                    rw [← h6]; exact h9
                  obtain ⟨_, _, q2, q3, q4⟩ := HS.out _ hB6
                  have T1 := HI6.out.t.c1
                  have TF := HI6.out.t.f1
                  have hs6 := HI6.out.size
                  have T1a := (HI6.out.alloc (.cells #[.string fn.1, .string fn.2] 31)).t.c1
                  have HO := hid (len_own hlq HI6.out.r)
                  clear HI0 h6 hB6 HH HS hg HBB HBA
                  go_wp2_with (fail)
                  go_region_law ((refine step_append2 tpE (by rfl) _ _ (by rfl) M v _ ((D k).l + (p2 (D k).E F (D k).l n).length) 1 (lc (p1 (D k).E F mj (D k).l ++ p2 (D k).E F (D k).l n)) [.string fn.1, .string fn.2] (by rfl) (HO.out.alloc _) (by rfl) (src_new _ _ _ _ rfl rfl _) (by omega) (by simp; omega) ?_; intro v7 w7 hown7 hgr7 hat7; obtain ⟨g', cap', hv7⟩ := ownsRow_succ hown7; subst hv7; obtain ⟨⟨hc1, hf1⟩, hI7⟩ := IL.step HMM.out ((HI6.out.alloc _).drawn 1) hlq hown7 hgr7))
                  all_goals
                    rw [List.append_assoc, ← hpn] at hI7
                    have HI8 := hid hI7
                    clear hI7 hown7 hgr7 hat7 HO T1a
                    go_wp2
                    go_roundw
                    case rel => exact ⟨n + 1, _, by omega, by go_num, HI8.out⟩
                    case measure => simp [intOf]; omega
              · obtain rfl : n = mj := by omega
                have hp2 := p2_len (D k).E F (D k).l n
                have hR := hI.r
                obtain ⟨va, vc, rfl⟩ := lr_shape hR
                have T0 := hI.t.c0
                have T1 := hI.t.c1
                have hs6 := hI.size
                have hsb := hb.size
                have HB9 := hid hb
                have HR9 : Hid (LR wr W0.heap.size (.slice va (p1 (D k).E F n (D k).l ++ p2 (D k).E F (D k).l n).length vc) (layE (D k).E (D k).l F n)) := by rw [← HMM.out]; exact hR
                obtain ⟨es, HES⟩ : ∃ es, Hid (p1 (D k).E F n (D k).l ++ p2 (D k).E F (D k).l n = es) := ⟨_, rfl⟩
                have hes : es.length ≤ 200000 := by rw [← HES.out, List.length_append]; omega
                rw [show layE (D k).E (D k).l F n = es from HES.out] at HR9 HU
                rw [HES.out] at HR9 T1
                have HO := hid (HRS.out.on hb).1.1
                rw [hp] at HO
                have hs0 := HB0.out.size
                clear hI hb hR hnl hpl
                go_wp2_with (at_builtin; refine wpList_append2 tpS rfl _ _ rfl w.heap.size _ _ k 1 xs [.string (D k).nm, .slice va es.length vc] rfl (HO.out.alloc _) rfl (src_new _ _ _ _ rfl rfl _) (by omega) (by simp; omega) ?_)
                intro v' w7 hown' hgr' _
                have HNx : Hid (RS w v' (s1 D O m (k + 1)) (xs ++ [.string (D k).nm, .slice va es.length vc]) w7) := by
                  show RS _ _ (s1 D O m k ++ [sec1 D O m k]) _ _
                  rw [HU.out]
                  exact HRS.out.step hp (HB9.out.alloc hsb _) (World.ownsRow.alloc HR9.out _) hgr' hown'
                clear hown' hgr' HO HRS
                go_wp2
                go_roundw
                case rel => exact ⟨k + 1, _, by omega, by go_num, HNx.out⟩
                case measure => simp [intOf]; omega
    · obtain rfl : k = l := by omega
      have HRS1 : Hid (RS w u5 (s1 D O m k) xs wr) := hRS
      have hp := s1_len D O m k
      clear hRS
      go_wp2
      go_loopw [5, 14] (fun v i wr => ∃ (j : Nat) (xs : List Value), j ≤ m ∧ i = .int .i64 j ∧ RS w v (s1 D O m k ++ s2 D O k j) xs wr) (fun _ i _ => m - (intOf i).toNat)
      case atStart => exact ⟨0, xs, Nat.zero_le _, rfl, by simpa [s2] using HRS1.out⟩
      case round =>
        clear HRS1
        obtain ⟨j, xs, hj, rfl, hRS⟩ := hrel
        by_cases hjm : j < m
        · obtain ⟨y, rfl, hy⟩ := H2.out (by omega)
          have hBw := hRS.2
          have hsz := hBw.size
          have hyw := hy.on hBw
          obtain ⟨p0, b1, d1, p1', hn1, e1⟩ := hyw.2 j hjm
          obtain ⟨P0, P1⟩ := cells2 ⟨p0, p1'⟩
          have hcj := cnt_at O hjm
          have hp2 := s2_len D O k j
          have hyb := hyw.1
          have HRS : Hid (RS w u5 (s1 D O m k ++ s2 D O k j) xs wr) := hRS
          have HFD : Hid (Calls Try.prog 15 #[.slice a k c, .string (O j).nm] wr fun e w' => e = .returned (.int .i64 (plc (fsti (fun i => (D i).nm) k (O j).nm))) ∧ w' = wr) := find_any a k c D (O j).nm wr (by omega) (H1.out.on hBw)
          clear hy hyw p0 p1' hRS
          cases hf : fsti (fun i => (D i).nm) k (O j).nm with
          | some i =>
            rw [hf] at HFD
            simp only [plc] at HFD
            have HU : s2 D O k (j + 1) = s2 D O k j := by unfold s2; rw [hf]; cases j <;> rfl
            rw [← HU] at HRS
            clear HU e1 hn1
            go_wp2_with (fail)
            refine HFD.out.mono ?_
            rintro e3 w3 ⟨rfl, hw3⟩
            subst w3
            go_wp2
            exact ⟨⟨j + 1, xs, by omega, by go_num, HRS.out⟩, by simp [intOf]; omega⟩
          | none =>
            rw [hf] at HFD
            simp only [plc] at HFD
            have HU : Hid (s2 D O k (j + 1) = s2 D O k j ++ [((O j).nm, el (O j).E (O j).l)]) := by show s2 D O k (j + 1) = _; conv => lhs; unfold s2; rw [hf]
            have hq : (s1 D O m k ++ s2 D O k j).length = k + (s2 D O k j).length := by rw [List.length_append, hp]
            have hB9 : Below wr.heap.size wr (wr.alloc (.cells #[.string (O j).nm, .slice none 0 0] 37)) := (Below.refl _ _).alloc (Nat.le_refl _) _
            have P1a := (hB9.cell (p := ⟨(y.add (j * 2)).block, (y.add (j * 2)).off + 1, none⟩) (by rw [add_block]; exact hyb)).trans P1
            have HSRC : Hid (Src (wr.alloc (.cells #[.string (O j).nm, .slice none 0 0] 37)) (.slice b1 (O j).l d1) (O j).l (ec (O j).E (O j).l)) := (e1.on hB9).src hn1
            have HT : Hid (B2 (wr.alloc (.cells #[.string (O j).nm, .slice none 0 0] 37)) wr.heap.size (.string (O j).nm) (.slice none 0 0) 37) := B2.new wr _ _ _
            have T1 := HT.out.c1
            clear e1 hn1 hf
            go_wp2_with (fail)
            refine HFD.out.mono ?_
            rintro e3 w3 ⟨rfl, hw3⟩
            subst w3
            clear HFD
            have HLE : Hid (lc (el (O j).E (O j).l) = ec (O j).E (O j).l ∧ (el (O j).E (O j).l).length = (O j).l) := ⟨lc_el _ _, el_len _ _⟩
            have HO9 : Hid (∀ X, Below wr.heap.size wr X → X.ownsRow w.heap.size 37 2 u5 (k + (s2 D O k j).length) xs) := fun X hX => by have h9 := (HRS.out.on hX).1.1; rw [hq] at h9; exact h9
            have HBD : Hid (Below wr.heap.size wr (wr.alloc (.cells #[.string (O j).nm, .slice none 0 0] 37)).drew) := below_drew hB9 1
            obtain ⟨es, HES⟩ : ∃ es, Hid (el (O j).E (O j).l = es) := ⟨_, rfl⟩
            rw [HES.out] at HLE HU
            clear hB9
            go_wp2_with (fail)
            go_region_law ((refine step_append2 tpE (by rfl) _ _ (by rfl) wr.heap.size (.slice none 0 0) _ 0 (O j).l [] (ec (O j).E (O j).l) (by rfl) (World.ownsRow_nil _ _ _ _) (by rfl) HSRC.out (by omega) (by simp) ?_; intro v7 w7 hown7 hgr7 hat7; have hl7 : LR w7 wr.heap.size v7 es := (by show w7.ownsRow _ _ _ _ _ _; rw [HLE.out.1, HLE.out.2]; simpa using hown7); obtain ⟨va, vc, hv7⟩ := lr_shape hl7; subst hv7; have t7 : B2 w7 wr.heap.size (.string (O j).nm) (.slice none 0 0) 37 := (hgr7.block wr.heap.size (by simp) (by simp [Value.ownBlock])).trans HT.out; have hc7 := t7.c1; have hf7 := t7.f1))
            all_goals
              have hB7 : Below wr.heap.size wr w7 := HBD.out.grown hgr7 (by simp) (fun j hj => by cases hj)
              have t8 := t7.set1 (.slice va es.length vc)
              have T8 := t8.c0
              have T9 := t8.c1
              have hB8 : Below wr.heap.size wr (w7.setCell ⟨wr.heap.size, 1, none⟩ (.slice va es.length vc)) := hB7.setCell (p := ⟨wr.heap.size, 1, none⟩) (Nat.le_refl _) _
              have HB8 := hid hB8
              have hs8 := hB8.size
              have hs7 := hB7.size
              have HL8 : Hid (LR (w7.setCell ⟨wr.heap.size, 1, none⟩ (.slice va es.length vc)) wr.heap.size (.slice va es.length vc) es) := own_setCell hl7 (t7.not_own (by decide) hl7)
              have HO := hid (HO9.out _ hB8)
              clear hown7 hgr7 hat7 hl7 hB7 t7 t8 hc7 hf7 hB8 HSRC HBD
              go_wp2_with (at_builtin; refine wpList_append2 tpS rfl _ _ rfl w.heap.size _ _ (k + (s2 D O k j).length) 1 xs [.string (O j).nm, .slice va es.length vc] rfl (HO.out.alloc _) rfl (src_at _ _ (by simp) _ _ _ rfl rfl _) (by omega) (by simp; omega) ?_)
              intro v' w9 hown' hgr' _
              have HNx : Hid (RS w v' (s1 D O m k ++ s2 D O k (j + 1)) (xs ++ [.string (O j).nm, .slice va es.length vc]) w9) := by
                show RS _ _ _ _ _
                rw [HU.out, ← List.append_assoc]
                exact HRS.out.step hq (HB8.out.alloc hs8 _) (World.ownsRow.alloc HL8.out _) hgr' hown'
              clear hown' hgr' HO
              go_wp2
              exact ⟨⟨j + 1, _, by omega, by go_num, HNx.out⟩, by simp [intOf]; omega⟩
        · obtain rfl : j = m := by omega
          go_wp2
          go_ret
          exact ⟨_, _, rfl, hRS.1, hRS.2⟩
end Rl
end Go.Proofs.Ytcolkfoodjpdjaa
