import Derived.Test.YtiljdiagabepbaaDoorPqB
import Derived.Deep.RegionLaw
namespace Go.Proofs.YtiljdiagabepbaaDoor
namespace Pq
open Go.RowKit Pb
set_option linter.unusedVariables false
theorem row_frm {w w' : World} {base : Nat} {e : TypeId} {size : Nat} {v : Value} {n : Nat} {xs : List Value} {S : Nat → Prop} (ho : w.ownsRow base e size v n xs) (hf : Frm w w' S) (hS : ∀ k, v.ownBlock = some k → ¬ S k) : w'.ownsRow base e size v n xs := by
  refine ⟨ho.1, ?_⟩
  rcases ho.2 with hn | ⟨g, cap, cur, rfl, hb, hgg, rest⟩
  · exact .inl hn
  · exact .inr ⟨g, cap, cur, rfl, hb, (hf.block g (Array.getElem?_eq_some_iff.1 hgg).1 (hS g rfl)).trans hgg, rest⟩
theorem row_nm {w : World} {base : Nat} {e : TypeId} {size : Nat} {v : Value} {n : Nat} {xs : List Value} (ho : w.ownsRow base e size v n xs) {b : Nat} {es : Array MapEntry} {c : Nat} (h : w.heap[b]? = some (.map es c)) : v.ownBlock ≠ some b := by
  rcases ho.2 with ⟨rfl, _⟩ | ⟨g', cap, cur', rfl, _, hg', _⟩
  · simp [Value.ownBlock]
  · simp only [Value.ownBlock]
    intro e
    injection e with e
    exact cm_ne hg' h e
theorem row_ne {w : World} {base : Nat} {e : TypeId} {size : Nat} {v : Value} {n : Nat} {xs : List Value} (ho : w.ownsRow base e size v n xs) {g : Nat} {cur : Array Value} {t : TypeId} {f : Nat × Nat} (hg : w.heap[g]? = some (.cells cur t f)) (ht : e ≠ t) : v.ownBlock ≠ some g := by
  rcases ho.2 with ⟨rfl, _⟩ | ⟨g', cap, cur', rfl, _, hg', _⟩
  · simp [Value.ownBlock]
  · simp only [Value.ownBlock]
    intro e
    injection e with e
    exact cc_ne hg' hg ht e
theorem row_slice {w : World} {base : Nat} {e : TypeId} {size : Nat} {v : Value} {n : Nat} {xs : List Value} (ho : w.ownsRow base e size v n xs) : ∃ p n c, v = .slice p n c := by
  rcases ho.2 with ⟨rfl, _⟩ | ⟨g', cap, cur, rfl, _⟩
  · exact ⟨_, _, _, rfl⟩
  · exact ⟨_, _, _, rfl⟩
theorem step_append_eq {w W : World} {ops : Array Oper} {o : Oper} {a : Act} {K : Act → World → Prop} {Q : Exit → Act → World → Prop} {E : Prop} (hgd : o.guard = none) (s x : Operand) (t : TypeId)
    (ho : o.op = .call { callee := .builtin .append, args := #[s, x], argTypes := #[t, t] }) (v sv v' : Value) (hs : a.eval s = v) (hx : a.eval x = sv) (hr : Hid (∀ ty, (Builtin.append_ #[t, t] ty #[v, sv]).run Tryd.prog w = .ok v' W))
    (h : K (a.put o.dst v') W) : if Region.wanted o (yielded ops a.tmps) = true then Oper.wp Tryd.prog o a w K Q else E := by
  have hw : Region.wanted o (yielded ops a.tmps) = true := by simp [Region.wanted, hgd]
  rw [if_pos hw]
  unfold Oper.wp execOp
  simp only [ho, resolve, invoke, builtin, Sem.run_bind, Sem.run_pure, Result.andThen_ok, List.map_toArray, List.map_cons, List.map_nil, hs, hx, hr.out]
  exact h
set_option maxHeartbeats 1600000 in
set_option maxRecDepth 8000 in
theorem alter_gen (W0 : World) (g gp gn gd gf n c : Nat) (ops : Int) (ch : Value) (ys : List Value) (D : DataW Unit) (s : ByteArray) (w : World) (hs : s.size ≤ 48) (hn0 : n ≤ 1000000) (hc0 : c ≤ 1000000) (hg : w.heap[g]? = some (.cells (dk g 1000 ops gp gn gd ch 0) 68 (0, 0))) (hn : w.ownsMap Tryd.prog 9 fR gn n D) (h0 : Maps.has D (.string []) = false) (h1 : Maps.has D (ky s) = false) (hch : w.ownsRow W0.heap.size 81 3 ch c ys) (hbw : W0.heap.size ≤ w.heap.size) :
    Calls Tryd.prog 23 #[.pointer (some ⟨g, 0, none⟩), .agg #[.string ⟨#[]⟩, .string s, .pointer (some ⟨gf, 0, none⟩)]] w fun e w' => e = .returned (.tuple #[]) ∧ ∃ ch' ys', w'.heap[g]? = some (.cells (dk g 1000 ops gp gn gd ch' 0) 68 (0, 0)) ∧ w'.ownsMap Tryd.prog 9 fR gn (n + 1) (D.put (ky s) (.lit (.int .i64 gf))) ∧ w'.ownsRow W0.heap.size 81 3 ch' (c + 1) ys' ∧ Frm w w' (fun k => k = gn ∨ k = g ∨ ch.ownBlock = some k) := by
  have lg := (Array.getElem?_eq_some_iff.1 hg).1
  have ln := hn.lt
  have hne : gn ≠ g := by
    rintro rfl
    obtain ⟨es, clock, hb, _⟩ := hn
    rw [hg] at hb; cases hb
  obtain ⟨v, hv, kv, sv, fv⟩ : ∃ v, w.alloc (.cells #[.string ⟨#[]⟩, .string s, .pointer (some ⟨gf, 0, none⟩)] 81) = v ∧ v.heap[w.heap.size]? = some (.cells #[.string ⟨#[]⟩, .string s, .pointer (some ⟨gf, 0, none⟩)] 81 (0, 0)) ∧ v.heap.size = w.heap.size + 1 ∧ Frm w v (fun _ => False) :=
    ⟨_, rfl, heap_alloc_last w _, by simp, Frm.of_below ((Below.refl _ _).alloc (Nat.le_refl _) _)⟩
  have gv : v.heap[g]? = some (.cells (dk g 1000 ops gp gn gd ch 0) 68 (0, 0)) := (fv.block g lg (fun e => e)).trans hg
  have nv := map_frm hn fv (fun e => e)
  obtain ⟨c7, -⟩ := dcell gv 7 (.map (some gn)) rfl
  obtain ⟨k0, -⟩ := dcell kv 0 (.string ⟨#[]⟩) rfl
  obtain ⟨k1, -⟩ := dcell kv 1 (.string s) rfl
  obtain ⟨k2, -⟩ := dcell kv 2 (.pointer (some ⟨gf, 0, none⟩)) rfl
  have l0 := look_not nv ⟨#[]⟩ (by decide) h0
  have l1 := look_not nv s hs h1
  have i0 := fun w => index0 (.string ⟨#[]⟩) (.string s) w
  have i1 := fun w => index1 (.string ⟨#[]⟩) (.string s) w
  have HN : Hid (v.ownsMap Tryd.prog 9 fR gn n D ∧ Maps.has D (.string []) = false ∧ Frm w v (fun _ => False) ∧ w.ownsRow W0.heap.size 81 3 ch c ys) := ⟨nv, h0, fv, hch⟩
  have hcn : ch.ownBlock ≠ some gn := by obtain ⟨es, clock, hb, _⟩ := hn; exact row_nm hch hb
  have hcg : ch.ownBlock ≠ some g := row_ne hch hg (by decide)
  clear nv fv hn h0 h1 hch
  go_enter Tryd.func23, Tryd.ntmps23
  go_wp2
  go_loop [12, 5, 6] (fun i _ _ => i = .int .i64 0 ∨ i = .int .i64 1 ∨ i = .int .i64 2) (fun i _ _ => 2 - (intOf i).toNat)
  case atStart => exact .inl rfl
  case round =>
    rcases hrel with rfl | rfl | rfl
    · go_wp2
      refine ⟨?_, by simp [intOf]⟩
      simp
    · go_wp2
      refine ⟨?_, by simp [intOf]⟩
      simp
    · obtain ⟨V2, hV2, kV2, fV2⟩ : ∃ V2, v.alloc (.cells #[.string ⟨#[]⟩, .string s, .pointer (some ⟨gf, 0, none⟩)] 81) = V2 ∧ V2.heap[v.heap.size]? = some (.cells #[.string ⟨#[]⟩, .string s, .pointer (some ⟨gf, 0, none⟩)] 81 (0, 0)) ∧ Frm v V2 (fun _ => False) :=
        ⟨_, rfl, heap_alloc_last v _, Frm.of_below ((Below.refl _ _).alloc (Nat.le_refl _) _)⟩
      rw [sv] at kV2
      have fV3 : Frm v V2.drew (fun _ => False) := fV2.trans (frm_drewN V2 1) (fun k _ e => e)
      have HAP : Hid (Calls Tryd.prog 51 #[.map (some gn), .slice (some ⟨w.heap.size + 1, 0, none⟩) 1 1] V2.drew fun e w' => e = .returned (.tuple #[]) ∧ w'.ownsMap Tryd.prog 9 fR gn (n + 1) (D.put (ky s) (.lit (.int .i64 gf))) ∧ Frm V2.drew w' (fun k => k = gn)) := apply_gen gn gf (w.heap.size + 1) n D s V2.drew hs hn0 (map_frm HN.out.1 fV3 (fun e => e)) HN.out.2.1 kV2
      have HV2 : Hid (v.alloc (.cells #[.string ⟨#[]⟩, .string s, .pointer (some ⟨gf, 0, none⟩)] 81) = V2 ∧ Frm v V2.drew (fun _ => False)) := ⟨hV2, fV3⟩
      clear hv hV2 fV2 fV3
      go_wp2
      apply Pb.wp_cut (fun w' => w'.ownsMap Tryd.prog 9 fR gn (n + 1) (D.put (ky s) (.lit (.int .i64 gf))) ∧ Frm V2.drew w' (fun k => k = gn))
      case h =>
       go_region_with ((go_at_call 51; rw [HV2.out.1]; refine HAP.out.mono ?_; rintro e5 w5 ⟨rfl, n5, f5⟩))
       all_goals exact ⟨rfl, n5, f5⟩
      case hq =>
       rintro W ⟨n6, f6⟩
       have fW : Frm w W (fun k => k = gn) := (HN.out.2.2.1.trans' HV2.out.2 (S := fun k => k = gn) (fun k _ e => e.elim) (fun k _ e => e.elim)).trans f6 (fun k _ e => e)
       have fvW : Frm v W (fun k => k = gn) := HV2.out.2.trans' f6 (fun k _ e => e.elim) (fun k _ e => e)
       have g6 : W.heap[g]? = some (.cells (dk g 1000 ops gp gn gd ch 0) 68 (0, 0)) := (fW.block g lg (Ne.symm hne)).trans hg
       have k6 : W.heap[w.heap.size]? = some (.cells #[.string ⟨#[]⟩, .string s, .pointer (some ⟨gf, 0, none⟩)] 81 (0, 0)) := (fvW.block _ (Array.getElem?_eq_some_iff.1 kv).1 (by omega)).trans kv
       clear l0 l1 i0 i1 k0 k1 k2 c7 gv kv HAP
       obtain ⟨c9, f9⟩ := dcell g6 9 ch rfl
       obtain ⟨k0, -⟩ := dcell k6 0 (.string ⟨#[]⟩) rfl
       obtain ⟨k1, -⟩ := dcell k6 1 (.string s) rfl
       obtain ⟨k2, -⟩ := dcell k6 2 (.pointer (some ⟨gf, 0, none⟩)) rfl
       obtain ⟨i0, hi, hz, hs1, hs2⟩ := info_ch
       have own6 : W.ownsRow W0.heap.size 81 3 ch c ys := row_frm HN.out.2.2.2 fW (fun k hk e => hcn (e ▸ hk))
       obtain ⟨X, hX, hX2, xl, fX⟩ : ∃ X, (W.alloc (.cells #[.string ⟨#[]⟩, .string s, .pointer (some ⟨gf, 0, none⟩)] 81)).drew = X ∧ (W.drew.alloc (.cells #[.string ⟨#[]⟩, .string s, .pointer (some ⟨gf, 0, none⟩)] 81)) = X ∧ X.heap[W.heap.size]? = some (.cells #[.string ⟨#[]⟩, .string s, .pointer (some ⟨gf, 0, none⟩)] 81 (0, 0)) ∧ Frm W X (fun _ => False) :=
         ⟨_, rfl, rfl, heap_alloc_last W _, (Frm.of_below ((Below.refl _ _).alloc (Nat.le_refl _) _)).trans (frm_drewN _ 1) (fun k _ e => e)⟩
       obtain ⟨v', Z, r1, r2, r3, -, r5⟩ := run_append_own_at (P := Tryd.prog) (w := X) W0.heap.size 66 66 81 i0 _ 3 40 Tryd.underlying66 hi hz hs1 hs2 rfl (by decide) ch c ys (row_frm own6 fX (fun _ _ e => e)) ⟨W.heap.size, 0, none⟩ 1 1 [.string ⟨#[]⟩, .string s, .pointer (some ⟨gf, 0, none⟩)] rfl (by
         intro j u hj
         rw [Addr.add_lit, cell_of_row _ W.heap.size _ _ 81 (0, 0) xl]
         simpa using hj) (by simp [Value.oneCell']) (by simp only [maxLen]; omega) (by omega) (by have := fX.size; have := fW.size; omega)
       obtain ⟨sp, sn, sc0, rfl⟩ := row_slice r2
       have R1 : Hid (∀ ty, (Builtin.append_ #[66, 66] ty #[ch, .slice (some ⟨W.heap.size, 0, none⟩) 1 1]).run Tryd.prog (W.alloc (.cells #[.string ⟨#[]⟩, .string s, .pointer (some ⟨gf, 0, none⟩)] 81)).drew = .ok (.slice sp sn sc0) Z) := fun ty => by rw [hX]; exact r1
       have fZ : Frm W Z (fun k => ch.ownBlock = some k) := fX.trans' (Frm.of_grown r3) (fun k _ e => e.elim) (fun k _ e => e)
       have gZ : Z.heap[g]? = some (.cells (dk g 1000 ops gp gn gd ch 0) 68 (0, 0)) := (fZ.block g (Array.getElem?_eq_some_iff.1 g6).1 hcg).trans g6
       obtain ⟨z9, zf9⟩ := dcell gZ 9 ch rfl
       have lW := (Array.getElem?_eq_some_iff.1 g6).1
       have fS : Frm Z (Z.setCell ⟨g, 9, none⟩ (.slice sp sn sc0)) (fun k => k = g) := Frm.setCell Z ⟨g, 9, none⟩ _
       have HR : Hid (∃ ch' ys', (Z.setCell ⟨g, 9, none⟩ (.slice sp sn sc0)).heap[g]? = some (.cells (dk g 1000 ops gp gn gd ch' 0) 68 (0, 0)) ∧ (Z.setCell ⟨g, 9, none⟩ (.slice sp sn sc0)).ownsMap Tryd.prog 9 fR gn (n + 1) (D.put (ky s) (.lit (.int .i64 gf))) ∧ (Z.setCell ⟨g, 9, none⟩ (.slice sp sn sc0)).ownsRow W0.heap.size 81 3 ch' (c + 1) ys' ∧ Frm w (Z.setCell ⟨g, 9, none⟩ (.slice sp sn sc0)) (fun k => k = gn ∨ k = g ∨ ch.ownBlock = some k)) :=
         ⟨_, _, sc gZ 9 _, map_frm (map_frm n6 fZ hcn) fS hne, row_frm r2 fS (fun k hk e => row_ne r2 gZ (by decide) (e ▸ hk)), (fW.trans' fZ (S := fun k => k = gn ∨ k = g ∨ ch.ownBlock = some k) (fun k _ e => .inl e) (fun k _ e => .inr (.inr e))).trans fS (fun k _ e => .inr (.inl e))⟩
       clear fS hX hX2 xl fX r1 r2 r3 r5 own6 fZ n6 gZ f6 fW fvW g6 k6 hi hz hs1 hs2
       go_wp2
       go_region_law ((refine step_append_eq rfl _ _ 66 rfl ch (.slice (some ⟨W.heap.size, 0, none⟩) 1 1) (.slice sp sn sc0) rfl rfl (by exact R1) ?_))
       all_goals
         go_wp2
         go_returns
         exact ⟨rfl, HR.out⟩
end Pq
end Go.Proofs.YtiljdiagabepbaaDoor
