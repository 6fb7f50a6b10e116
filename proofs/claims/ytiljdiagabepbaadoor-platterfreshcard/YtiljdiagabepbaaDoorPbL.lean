import Derived.Test.YtiljdiagabepbaaDoorPbJ
import Derived.Laws.CopyOwn
namespace Go.Proofs.YtiljdiagabepbaaDoor
namespace Pb
open Go.RowKit
set_option linter.unusedVariables false
theorem size5 : (Tryd.prog.info? 5).map (·.size) = some 1 := by kernel_rfl
theorem copy_eq (w : World) (gb m : Nat) (cur ys : List Value) (sp : Option Addr) (sn sc : Nat) (hb : w.heap[gb]? = some (.cells cur.toArray 5 (0, 0))) (hn : ys.length = min sn m) (hpos : 0 < ys.length → ∃ ad, sp = some ad ∧ ∀ j v, ys[j]? = some v → w.cell? (ad.add j) = some v) (hfit : ys.length ≤ cur.length) (h1 : ∀ v ∈ ys, v.oneCell' = true) (ty : TypeId) :
    (Builtin.copy_ #[37, 37] ty #[.slice (some ⟨gb, 0, none⟩) m m, .slice sp sn sc]).run Tryd.prog w = .ok (.int .i64 ys.length) (w.setRow gb (splice cur 0 ys).toArray) := by
  by_cases h0 : ys.length = 0
  · obtain rfl : ys = [] := List.eq_nil_of_length_eq_zero h0
    have hr := run_copy_none (P := Tryd.prog) w 37 37 ty 5 (some ⟨gb, 0, none⟩) sp m m sn sc Tryd.underlying37 size5 (by simpa using hn.symm)
    rw [hr]
    have e : (splice cur 0 ([] : List Value)).toArray = cur.toArray := by simp [splice]
    rw [e, setRow_self w gb _ 5 _ hb]
    rfl
  · obtain ⟨ad, rfl, hsrc⟩ := hpos (by omega)
    have hr := run_copy_row (P := Tryd.prog) w 37 37 ty 5 gb 0 m m ad sn sc cur.toArray 5 ys Tryd.underlying37 size5 hb hn hsrc (by simpa using hfit) h1
    rw [hr]
    have e : (splice cur 0 ys).toArray = (cur.toArray.toList.take 0 ++ ys ++ cur.toArray.toList.drop (0 + ys.length)).toArray := by simp [splice]
    rw [e]
    rfl
theorem wpList_copy_eq {w W : World} {ops : Array Oper} {rest : List Oper} {o : Oper} {a : Act} {Q : Exit → Act → World → Prop} (hgd : o.guard = none) (s x : Operand)
    (ho : o.op = .call { callee := .builtin .copy, args := #[s, x], argTypes := #[37, 37] }) (v sv v' : Value) (hs : a.eval s = v) (hx : a.eval x = sv) (hr : ∀ ty, (Builtin.copy_ #[37, 37] ty #[v, sv]).run Tryd.prog w = .ok v' W)
    (h : wpList Tryd.prog ops Q rest (a.put o.dst v') W) : wpList Tryd.prog ops Q (o :: rest) a w := by
  refine wpList_plain hgd fun K hK => ?_
  unfold Oper.wp
  simp [execOp, ho, resolve, invoke, builtin, hs, hx, hr, Result.andThen]
  exact hK _ _ h
theorem frm_setRow (w : World) (g : Nat) (cs : Array Value) : Frm w (w.setRow g cs) (fun k => k = g) := ⟨rfl, rfl, rfl, by simp [World.setRow], fun k hk hn => setRow_other w g k cs hn⟩
set_option maxHeartbeats 1600000 in
set_option maxRecDepth 8000 in
theorem read_any (base gf gb k m : Nat) (next writes wrote reads rb seeks : Int) (bv : Value) (xs cur : List Value) (w : World) (hf : w.heap[gf]? = some (.cells (fl bv next writes wrote reads rb seeks) 79 (0, 0))) (ho : w.ownsRow base 5 1 bv xs.length xs) (hb : w.heap[gb]? = some (.cells cur.toArray 5 (0, 0))) (hm : cur.length = m) (hgb : bv.ownBlock ≠ some gb) (hk : k ≤ xs.length) (hx : xs.length ≤ 1073741824) (hm1 : m ≤ 1073741824) (hn : next = k) (h1 : ∀ v ∈ xs, v.oneCell' = true)
    (a0 : 0 ≤ reads) (a1 : reads < 4611686018427387904) (b0 : 0 ≤ rb) (b1 : rb < 4611686018427387904) :
    Calls Tryd.prog 33 #[.pointer (some ⟨gf, 0, none⟩), .int .i64 k, .slice (some ⟨gb, 0, none⟩) m m] w fun e w' => e = .returned (.int .i64 ((xs.drop k).take m).length) ∧ w'.heap[gf]? = some (.cells (fl bv (k + ((xs.drop k).take m).length) writes wrote (reads + 1) (rb + ((xs.drop k).take m).length) seeks) 79 (0, 0)) ∧ w'.heap[gb]? = some (.cells (splice cur 0 ((xs.drop k).take m)).toArray 5 (0, 0)) ∧ Frm w w' (fun k => k = gf ∨ k = gb) := by
  subst hn
  have hgf : gf ≠ gb := cc_ne hf hb (by decide)
  obtain ⟨x0, y0⟩ := dcell hf 0 bv rfl
  obtain ⟨ys, hys⟩ : ∃ ys, ys = (xs.drop k).take m := ⟨_, rfl⟩
  have hyl : ys.length = min m (xs.length - k) := by subst hys; simp
  have HY : Hid (ys = (xs.drop k).take m) := hys
  rw [← hys]
  clear hys
  have HYL : Hid (ys.length = min m (xs.length - k)) := hyl
  have hgw : (w.setRow gb (splice cur 0 ys).toArray).heap[gf]? = some (.cells (fl bv k writes wrote reads rb seeks) 79 (0, 0)) := ((frm_setRow w gb _).block gf (Array.getElem?_eq_some_iff.1 hf).1 hgf).trans hf
  have hbw : (w.setRow gb (splice cur 0 ys).toArray).heap[gb]? = some (.cells (splice cur 0 ys).toArray 5 (0, 0)) := setRow_heap w gb _ _ 5 _ hb
  have FW : Hid (Frm w (w.setRow gb (splice cur 0 ys).toArray) (fun k => k = gb)) := frm_setRow w gb _
  have hy1 : ∀ v ∈ ys, v.oneCell' = true := fun v hv => h1 v (by rw [HY.out] at hv; exact List.mem_of_mem_drop (List.mem_of_mem_take hv))
  have HC : Hid (∀ sp sn sc, sn = xs.length - k → (0 < ys.length → ∃ ad, sp = some ad ∧ ∀ j v, ys[j]? = some v → w.cell? (ad.add j) = some v) → ∀ ty, (Builtin.copy_ #[37, 37] ty #[.slice (some ⟨gb, 0, none⟩) m m, .slice sp sn sc]).run Tryd.prog w = .ok (.int .i64 ys.length) (w.setRow gb (splice cur 0 ys).toArray)) :=
    fun sp sn sc h1 h2 ty => copy_eq w gb m cur ys sp sn sc hb (by rw [h1, hyl]; omega) h2 (by omega) hy1 ty
  obtain ⟨W, hW⟩ : ∃ W, W = w.setRow gb (splice cur 0 ys).toArray := ⟨_, rfl⟩
  rw [← hW] at hgw hbw FW HC
  clear hW
  obtain ⟨z2, z2'⟩ := dcell hgw 2 (.int .i64 k) rfl
  obtain ⟨z6, z6'⟩ := dcell hgw 6 (.int .i64 reads) rfl
  obtain ⟨z7, z7'⟩ := dcell hgw 7 (.int .i64 rb) rfl
  have FIN : Hid (∀ a b c, Frm w (((W.setCell ⟨gf, 2, none⟩ a).setCell ⟨gf, 6, none⟩ b).setCell ⟨gf, 7, none⟩ c) (fun k => k = gf ∨ k = gb)) := fun a b c =>
    ((FW.out.trans' (Frm.setCell W _ _) (S := fun k => k = gf ∨ k = gb) (fun k _ e => .inr e) (fun k _ e => .inl e)).trans (Frm.setCell _ _ _) (fun k _ e => .inl e)).trans (Frm.setCell _ _ _) (fun k _ e => .inl e)
  have hLb : ys.length ≤ 1073741824 := by omega
  clear hyl
  obtain ⟨L, hL⟩ : ∃ L, L = ys.length := ⟨_, rfl⟩
  have HL : Hid (L = ys.length) := hL
  rw [← hL] at HC hLb HYL ⊢
  clear hL
  rcases ho.2 with ⟨rfl, h0⟩ | ⟨gB, cap, cu, rfl, hbg, hgB, hnc, hcm, hcs, htake⟩
  · have hx0 : xs.length = 0 := h0
    obtain rfl : k = 0 := by omega
    have E1 := HC.out none 0 0 (by omega) (fun h => by have := HYL.out; have := HL.out; omega)
    clear HC hk ho h0
    go_enter Tryd.func33, Tryd.ntmps33
    go_wp2
    go_ret
    rw [show ((0 : Nat) : Int) + (L : Int) = L by omega]
    exact ⟨rfl, sc (sc (sc hgw 2 _) 6 _) 7 _, so (so (so hbw (Ne.symm hgf) 2 _) (Ne.symm hgf) 6 _) (Ne.symm hgf) 7 _, FIN.out _ _ _⟩
  · have hcells := ho.cells (g := gB) rfl
    have HS : Hid (∀ ad : Addr, (ad = ⟨gB, k, none⟩) → ∀ j v, ys[j]? = some v → w.cell? (ad.add j) = some v) := by
      rintro ad rfl j v hj
      rw [HY.out, List.getElem?_take] at hj
      split at hj
      · rw [List.getElem?_drop] at hj
        have := hcells (k + j) v hj
        rw [Addr.add_lit] at this ⊢
        simpa using this
      · cases hj
    clear hcells hgB hcs htake ho
    by_cases hkc : k = cap
    · subst hkc
      have E1 := HC.out (some ⟨gB, 0, none⟩) 0 0 (by omega) (fun h => by have := HYL.out; have := HL.out; omega)
      clear HC HS
      go_enter Tryd.func33, Tryd.ntmps33
      go_wp2
      go_ret
      exact ⟨rfl, sc (sc (sc hgw 2 _) 6 _) 7 _, so (so (so hbw (Ne.symm hgf) 2 _) (Ne.symm hgf) 6 _) (Ne.symm hgf) 7 _, FIN.out _ _ _⟩
    · have E1 := HC.out (some ⟨gB, k, none⟩) (xs.length - k) (cap - k) rfl (fun h => ⟨_, rfl, HS.out _ rfl⟩)
      clear HC HS
      go_enter Tryd.func33, Tryd.ntmps33
      go_wp2
      go_ret
      exact ⟨rfl, sc (sc (sc hgw 2 _) 6 _) 7 _, so (so (so hbw (Ne.symm hgf) 2 _) (Ne.symm hgf) 6 _) (Ne.symm hgf) 7 _, FIN.out _ _ _⟩
end Pb
end Go.Proofs.YtiljdiagabepbaaDoor
