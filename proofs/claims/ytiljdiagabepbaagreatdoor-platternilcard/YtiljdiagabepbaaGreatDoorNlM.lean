import Derived.Test.YtiljdiagabepbaaGreatDoorNlK
import Derived.Test.YtiljdiagabepbaaGreatDoorNlL
import Derived.Deep.OwnRows
namespace Go.Proofs.YtiljdiagabepbaaGreatDoor
namespace Nl
open Go.RowKit
set_option linter.unusedVariables false
abbrev z5 : Array Value := #[.int .i64 0, .slice none 0 0, .slice none 0 0, .slice none 0 0, .slice none 0 0]
theorem three (w : World) (oc : Array Value) : ∃ v0, ((w.alloc (.cells oc 38)).alloc (.cells z5 45)).alloc (.cells z5 45) = v0 ∧ Below w.heap.size w v0 ∧ v0.heap.size = w.heap.size + 1 + 1 + 1 ∧ v0.heap[w.heap.size]? = some (.cells oc 38 (0, 0)) ∧ v0.heap[w.heap.size + 1]? = some (.cells z5 45 (0, 0)) ∧ v0.heap[w.heap.size + 1 + 1]? = some (.cells z5 45 (0, 0)) := by
  refine ⟨_, rfl, b3 _ _ _ _, by simp, ?_, mid3 _ _ _ _, ?_⟩
  · show (((w.heap.push _).push _).push _)[w.heap.size]? = _
    rw [Array.getElem?_push, if_neg (by simp; omega), Array.getElem?_push, if_neg (by simp), Array.getElem?_push, if_pos rfl]
  · have h := heap_alloc_last ((w.alloc (.cells oc 38)).alloc (.cells z5 45)) (.cells z5 45)
    simpa using h
/-- The three variables stand while new memory grows. -/
def Tri (w wr : World) (oc : Array Value) : Prop := Below w.heap.size w wr ∧ w.heap.size + 1 + 1 < wr.heap.size ∧ wr.heap[w.heap.size]? = some (.cells oc 38 (0, 0)) ∧ wr.heap[w.heap.size + 1]? = some (.cells z5 45 (0, 0)) ∧ wr.heap[w.heap.size + 1 + 1]? = some (.cells z5 45 (0, 0))
theorem Tri.on {w wr v : World} {oc : Array Value} (h : Tri w wr oc) {B : Nat} (hB : w.heap.size + 1 + 1 < B) (hb : Below B wr v) : Tri w v oc := by
  obtain ⟨b, s, h0, h1, h2⟩ := h
  have := hb.size
  exact ⟨b.trans (hb.mono (by omega)), by omega, (hb.block _ (by omega)).trans h0, (hb.block _ (by omega)).trans h1, (hb.block _ (by omega)).trans h2⟩
theorem cell_of {w : World} {b : Nat} {c : Array Value} {t : TypeId} (h : w.heap[b]? = some (.cells c t (0, 0))) (i : Nat) (x : Value) (hx : c[i]? = some x) : w.cell? ⟨b, i, none⟩ = some x ∧ w.frozen? ⟨b, i, none⟩ = false := by
  constructor
  · simp only [World.cell?, h, hx]; rfl
  · simp [World.frozen?, h]
theorem wpList_load5 {w : World} {ops : Array Oper} {rest : List Oper} {o : Oper} {a : Act} {Q : Exit → Act → World → Prop} (hgd : o.guard = none) (s : Operand) (ho : o.op = .load 45 s)
    (b : Nat) (c : Array Value) (hs : a.eval s = .pointer (some ⟨b, 0, none⟩)) (hsz : c.size = 5) (hh : w.heap[b]? = some (.cells c 45 (0, 0)))
    (h : wpList Tryz.prog ops Q rest (a.put o.dst (.agg c)) w) : wpList Tryz.prog ops Q (o :: rest) a w := by
  have hl : (Instr.loadAt 45 (.pointer (some ⟨b, 0, none⟩))).run Tryz.prog w = .ok (.agg c) w := by
    simp only [Instr.loadAt, Instr.sureAddr, Sem.run_bind, Sem.run_pure, Result.andThen]
    exact run_loadVar_row _ _ 45 45 c (0, 0) _ hh Tryz.underlying45 rfl (by rw [hsz]; exact sizeAns)
  refine wpList_plain hgd fun K hK => ?_
  unfold Oper.wp execOp
  simp only [ho, hs, Sem.run_bind, Sem.run_pure, Result.andThen_ok, hl]
  exact hK _ _ h
theorem five_row {w : World} {b : Nat} {f : Nat → Value} (h : w.rowIs b 45 5 f) : w.heap[b]? = some (.cells #[f 0, f 1, f 2, f 3, f 4] 45 (0, 0)) := by
  obtain ⟨c, h1, h2, h3⟩ := h
  have e : c = #[f 0, f 1, f 2, f 3, f 4] := by
    apply Array.ext_getElem?
    intro i
    by_cases hi : i < 5
    · rw [h3 i hi]
      match i, hi with
      | 0, _ => rfl
      | 1, _ => rfl
      | 2, _ => rfl
      | 3, _ => rfl
      | 4, _ => rfl
    · rw [Array.getElem?_eq_none (by omega), Array.getElem?_eq_none (by show 5 ≤ i; omega)]
  rw [h1, e]
abbrev a5 (e : Int) : Array Value := #[.int .i64 e, .slice none 0 0, .slice none 0 0, .slice none 0 0, .slice none 0 0]
theorem set_ans {w : World} {b : Nat} (h : w.heap[b]? = some (.cells z5 45 (0, 0))) (e : Int) : (w.setCell ⟨b, 0, none⟩ (.int .i64 e)).heap[b]? = some (.cells (a5 e) 45 (0, 0)) := by
  have hr : w.rowIs b 45 5 (fun i => z5.getD i (.int .i64 0)) := ⟨z5, h, rfl, fun i hi => by
    match i, hi with
    | 0, _ => rfl
    | 1, _ => rfl
    | 2, _ => rfl
    | 3, _ => rfl
    | 4, _ => rfl⟩
  exact five_row (hr.set 0 (.int .i64 e))
/-- How 'beside' ends where nothing but an error is told. -/
structure End5 (w wr : World) (e : Int) : Prop where
  c0 : wr.cell? ⟨w.heap.size + 1 + 1, 0, none⟩ = some (.int .i64 0)
  f0 : wr.frozen? ⟨w.heap.size + 1 + 1, 0, none⟩ = false
  q2 : (wr.setCell ⟨w.heap.size + 1 + 1, 0, none⟩ (.int .i64 e)).heap[w.heap.size + 1 + 1]? = some (.cells (a5 e) 45 (0, 0))
  q1 : (wr.setCell ⟨w.heap.size + 1 + 1, 0, none⟩ (.int .i64 e)).heap[w.heap.size + 1]? = some (.cells z5 45 (0, 0))
  bel : Below w.heap.size w ((wr.setCell ⟨w.heap.size + 1 + 1, 0, none⟩ (.int .i64 e)).setRow (w.heap.size + 1) (a5 e))
  ld : (loadVar 45 ⟨w.heap.size + 1, 0, none⟩).run Tryz.prog ((wr.setCell ⟨w.heap.size + 1 + 1, 0, none⟩ (.int .i64 e)).setRow (w.heap.size + 1) (a5 e)) = .ok (.agg (a5 e)) ((wr.setCell ⟨w.heap.size + 1 + 1, 0, none⟩ (.int .i64 e)).setRow (w.heap.size + 1) (a5 e))
theorem end5 {w wr : World} {oc : Array Value} (h : Tri w wr oc) (e : Int) : End5 w wr e := by
  obtain ⟨b, s, h0, h1, h2⟩ := h
  have q2 := set_ans h2 e
  have q1 : (wr.setCell ⟨w.heap.size + 1 + 1, 0, none⟩ (.int .i64 e)).heap[w.heap.size + 1]? = some (.cells z5 45 (0, 0)) := by
    have hb : Below (w.heap.size + 1 + 1) wr (wr.setCell ⟨w.heap.size + 1 + 1, 0, none⟩ (.int .i64 e)) := (Below.refl _ _).setCell (p := ⟨w.heap.size + 1 + 1, 0, none⟩) (show w.heap.size + 1 + 1 ≤ w.heap.size + 1 + 1 from Nat.le_refl _) _
    exact (hb.block _ (by omega)).trans h1
  have hb2 : Below w.heap.size w (wr.setCell ⟨w.heap.size + 1 + 1, 0, none⟩ (.int .i64 e)) := b.setCell (by show w.heap.size ≤ w.heap.size + 1 + 1; omega) _
  exact ⟨(cell_of h2 0 _ rfl).1, (cell_of h2 0 _ rfl).2, q2, q1, hb2.trans ⟨rfl, rfl, rfl, by simp, fun k hk => setRow_other _ _ k _ (by omega)⟩, run_loadVar_row _ _ 45 45 _ (0, 0) _ (setRow_heap _ (w.heap.size + 1) _ _ 45 (0, 0) q1) Tryz.underlying45 rfl sizeAns⟩
theorem own_slice {w : World} {B n k : Nat} {e : TypeId} {v : Value} {xs : List Value} (h : w.ownsRow B e n v k xs) : ∃ a c, v = .slice a k c := by
  obtain ⟨_, h2⟩ := h
  rcases h2 with ⟨rfl, rfl⟩ | ⟨g, cap, cur, rfl, _⟩
  · exact ⟨_, _, rfl⟩
  · exact ⟨_, _, rfl⟩
set_option maxHeartbeats 1600000 in
set_option maxRecDepth 8000 in
theorem bes_11 (p : Option Addr) (s t : ByteArray) (da : Option Addr) (dl dc : Nat) (at' n : Int) (ka : Option Addr) (kl kc : Nat) (pa : Option Addr) (pl pc : Nat) (w : World) (h : ND w p) (hr : KRow w ka kl) :
    Calls Tryz.prog 37 #[.pointer p, .agg (opC 11 s t da dl dc at' n ka kl kc pa pl pc)] w fun e w' => ∃ v, e = .returned (.tuple #[v, .pointer p]) ∧ AnsQ w w' 1 [] v ∧ Below w.heap.size w w' := by
  obtain ⟨i0, hi, hz0, hz1, hz2⟩ : ∃ i0, Tryz.prog.info? 2 = some i0 ∧ i0.zero = some (.int .i64 0) ∧ i0.size = 1 ∧ i0.bytes = 8 := by
    have h := info2
    cases hh : Tryz.prog.info? 2 with
    | none => rw [hh] at h; cases h
    | some i => rw [hh] at h; simp at h; exact ⟨i, rfl, h.1, h.2.1, h.2.2⟩
  obtain ⟨v0, hv0, hb0, hs0, qo, qr, qx⟩ := three w (opC 11 s t da dl dc at' n ka kl kc pa pl pc)
  have HT : Hid (Tri w v0 (opC 11 s t da dl dc at' n ka kl kc pa pl pc)) := ⟨hb0, by omega, qo, qr, qx⟩
  have HR : Hid (KRow w ka kl) := hr
  have hl := hr.1
  have o0 := (cell_of qo 0 _ rfl).1
  have o6 := (cell_of qo 6 _ rfl).1
  clear hr hb0 qo qr qx
  go_enter Tryz.func37, Tryz.ntmps37
  go_wp2
  go_loopw [10, 11] (fun v i wr => ∃ (j : Nat) (xs : List Value), j ≤ kl ∧ i = .int .i64 j ∧ wr.ownsRow (w.heap.size + 1 + 1 + 1) 2 1 v j xs ∧ Below (w.heap.size + 1 + 1 + 1) v0 wr) (fun _ i _ => kl - (intOf i).toNat)
  case atStart => exact ⟨0, [], Nat.zero_le _, rfl, World.ownsRow_nil _ _ _ _, Below.refl _ _⟩
  case round =>
    obtain ⟨j, xs, hj, rfl, hown, hnx⟩ := hrel
    have hsz := hnx.size
    rw [hs0] at hsz
    have hT := HT.out.on (by omega) hnx
    have r6 := (cell_of hT.2.2.1 6 _ rfl).1
    clear hv0 o0 o6
    by_cases hlt : j < kl
    · obtain ⟨x, rfl, hx, hc⟩ := (HR.out.on hT.1).2 (by omega)
      obtain ⟨z, c0⟩ := hc j hlt
      clear hc hT
      go_wp2_with (at_builtin; refine wpList_append_own _ rfl _ _ 35 rfl (w.heap.size + 1 + 1 + 1) 2 i0 (.int .i64 0) 1 8 Tryz.underlying35 hi hz0 hz1 hz2 rfl (by decide) _ _ _ rfl (hown.alloc _) ⟨wr.heap.size, 0, none⟩ 1 1 [.int .i64 z] rfl rfl ?c1 ?c2 ?c3 ?c4 ?c5 ?_)
      case c1 => exact cell_one_new _ _ _
      case c2 => intro u hu; simp at hu; subst hu; rfl
      case c3 => unfold maxLen; omega
      case c4 => omega
      case c5 => simp; omega
      · intro v' w1 hown' hgrow _
        have hb1 := grown_own hsz hown hnx hgrow
        clear hgrow hown hnx c0 r6
        go_wp2
        exact ⟨⟨j + 1, _, by omega, by go_num, hown', hb1⟩, by simp [intOf]; omega⟩
    · obtain rfl : j = kl := by omega
      obtain ⟨av, cv, rfl⟩ := own_slice hown
      have hN := h.on hT.1
      have HE : Hid (End5 w wr 1) := end5 hT 1
      have ec0 := HE.out.c0
      have ef0 := HE.out.f0
      have r0 := (cell_of hT.2.2.1 0 _ rfl).1
      have r5 := (cell_of hT.2.2.1 5 _ rfl).1
      clear hown hnx hT
      go_wp2_with (first
        | (go_at_call 73; refine (restart_nd p _ _ _ _ _ hN).mono ?_; rintro e9 w9 ⟨rfl, hw9⟩; subst w9)
        | (go_at_call 7; refine (num_any _ _).mono ?_; rintro e20 w20 ⟨rfl, hw20⟩; subst w20)
        | (refine wpList_load5 rfl _ rfl (w.heap.size + 1 + 1) _ rfl rfl HE.out.q2 ?_)
        | (refine wpList_store5 45 sizeAns rfl _ _ rfl (w.heap.size + 1) _ _ rfl rfl rfl rfl (ans_one _ _ _ _) HE.out.q1 ?_))
      have hld := HE.out.ld
      refine bodyPost_ret (v := .tuple #[.agg (a5 1), .pointer p]) ?_ rfl ⟨_, rfl, ⟨_, rfl, .inl ⟨rfl, rfl⟩, fun g l c h => by cases h⟩, HE.out.bel⟩
      simp [results, Tryz.results37, asAddr, hld]
end Nl
end Go.Proofs.YtiljdiagabepbaaGreatDoor
