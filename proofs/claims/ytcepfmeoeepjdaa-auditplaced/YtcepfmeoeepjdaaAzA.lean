import Derived.Test.YtcepfmeoeepjdaaAuM
import Derived.Test.YtcepfmeoeepjdaaAuT
namespace Go.Proofs.Ytcepfmeoeepjdaa
namespace Au
open Go.RowKit
set_option linter.unusedVariables false
set_option maxRecDepth 8000
/-- The double cover: v as it is, v turned over (v + n). -/
def dbl (n : Nat) (L : List T3) : List (Nat × Nat) := L.flatMap fun e => [(e.1, e.2.1 + n), (e.2.1, e.1 + n)]
theorem dbl_app (n : Nat) (L : List T3) (e : T3) : dbl n (L ++ [e]) = dbl n L ++ [(e.1, e.2.1 + n)] ++ [(e.2.1, e.1 + n)] := by simp [dbl]
theorem dbl_mem {n : Nat} {L : List T3} {p : Nat × Nat} : p ∈ dbl n L ↔ ∃ e ∈ L, p = (e.1, e.2.1 + n) ∨ p = (e.2.1, e.1 + n) := by simp [dbl]
set_option maxHeartbeats 4000000 in
theorem turned_any (n N2 rb v : Nat) (hN : N2 = 2 * n) (hn : n ≤ 5000) (hv : v < n) (w : World) :
    Calls Try.prog 88 #[.slice (some ⟨rb, 0, none⟩) N2 N2, .int .u32 (v : Int)] w fun e w' => e = .returned (.int .u64 ((v : Int) + (n : Int))) ∧ w' = w := by
  have h2 : (N2 : Int).tdiv 2 = (n : Int) := by rw [hN, show ((2 * n : Nat) : Int) = (n : Int) * 2 by omega]; exact Int.mul_tdiv_cancel _ (by decide)
  have h3 : IntKind.i64.wrap (n : Int) = n := i64w _ (by omega)
  have h4 : IntKind.u64.wrap (n : Int) = n := wu _ (by omega) (by omega)
  have h5 : IntKind.u64.wrap (v : Int) = v := wu _ (by omega) (by omega)
  have h6 : IntKind.u64.wrap ((v : Int) + (n : Int)) = (v : Int) + (n : Int) := wu _ (by omega) (by omega)
  have h7 : wrap64 (n : Int) = n := by unfold wrap64; omega
  clear hN
  go_enter Try.func88, Try.ntmps88
  go_wp2
  all_goals go_ret
  all_goals exact ⟨rfl, rfl⟩
theorem wp_cutV {P : Program} {c : Code} {Q : Exit → Act → World → Prop} {a : Act} {w : World} (T : World → Prop) {A1 : Value → Act}
    (h : c.wp P (fun e a' w' => match e with | .normal => ∃ v, a' = A1 v ∧ T w' | _ => False) a w) (hq : ∀ v w', T w' → Q .normal (A1 v) w') : c.wp P Q a w := by
  refine Code.wp_mono ?_ h
  intro e a' w' hh
  cases e with
  | normal => obtain ⟨v, rfl, ht⟩ := hh; exact hq v w' ht
  | _ => exact hh.elim
abbrev S42 (fb eb rb N2 x y : Nat) (w : World) : Prop := w.cell? ⟨fb, 0, none⟩ = some (.slice (some ⟨rb, 0, none⟩) N2 N2) ∧ w.cell? ⟨eb, 0, none⟩ = some (.int .u32 (x : Int)) ∧ w.cell? ⟨eb, 1, none⟩ = some (.int .u32 (y : Int))
theorem rf_join (n N2 m rb : Nat) (Q : List (Nat × Nat)) (ro : Nat → Int) (x y : Nat) (hx : x < N2) (hy : y < N2) (hnm : N2 ≤ m) (hn : N2 ≤ 10000) (w : World) (hR : Rf w rb N2 m Q ro) (a b : Int) (ha : a = (x : Int)) (hb : b = (y : Int)) :
    Calls Try.prog 44 #[.slice (some ⟨rb, 0, none⟩) N2 N2, .int .u64 a, .int .u64 b] w fun e w' => (∃ v, e = .returned v) ∧ (∃ ro', Rf w' rb N2 m (Q ++ [(x, y)]) ro') ∧ Ch (fun k => k = rb) w w' := by
  subst ha hb
  obtain ⟨U, hU, hF, hO⟩ := hR
  refine (join_any N2 m rb Q U ro hnm hn x y hx hy w hU hF).mono ?_
  rintro e w' ⟨h1, U', ro', h2, h3, h4, h5⟩
  exact ⟨h1, ⟨ro', U', h2, h3, fun t h6 h7 => (h4 t h6).trans (hO t h6 h7)⟩, h5⟩
set_option maxHeartbeats 4000000 in
theorem see42 (n N2 m rb fb : Nat) (Q : List (Nat × Nat)) (ro : Nat → Int) (x y z : Nat) (hx : x < n) (hy : y < n) (hN : N2 = 2 * n) (hnm : N2 ≤ m) (hn : n ≤ 5000) (w : World) (hR : Rf w rb N2 m Q ro) (hb : Boxed w fb 70 (.slice (some ⟨rb, 0, none⟩) N2 N2)) (h1 : fb ≠ rb) :
    Calls Try.prog 87 #[eV x y z, .pointer (some ⟨fb, 0, none⟩)] w fun e w' => (∃ v, e = .returned v) ∧ (∃ ro', Rf w' rb N2 m (Q ++ [(x, y + n)] ++ [(y, x + n)]) ro') ∧ Ch (fun k => k = rb) w w' := by
  obtain ⟨w0, hw0⟩ : ∃ w0, w.alloc (.cells #[.int .u32 x, .int .u32 y, .int .u32 z] 73) = w0 := ⟨_, rfl⟩
  have hB : Below w.heap.size w w0 := by rw [← hw0]; exact b1 _ _ _
  have he : w0.heap[w.heap.size]? = some (.cells #[.int .u32 x, .int .u32 y, .int .u32 z] 73 (0, 0)) := by rw [← hw0]; exact at0 _ _
  have hb0 : Boxed w0 fb 70 (.slice (some ⟨rb, 0, none⟩) N2 N2) := (hB.block _ hb.lt).trans hb
  have hbl := hb.lt
  have hrl := hR.lt
  have hsz : w.heap.size < w0.heap.size := lt_of_some he
  have hR0 : Rf w0.drew rb N2 m Q ro := (hR.of (hB.block _ hrl)).of rfl
  obtain ⟨eb, heb⟩ : ∃ eb, eb = w.heap.size := ⟨_, rfl⟩
  rw [← heb] at he
  have hS0 : ∀ W, Ch (fun k => k = rb) w0 W → S42 fb eb rb N2 x y W := fun W h => by
    have h2 : W.heap[eb]? = some (.cells #[.int .u32 x, .int .u32 y, .int .u32 z] 73 (0, 0)) := (h.block _ (by omega) (by omega)).trans he
    exact ⟨(h.cell (p := ⟨fb, 0, none⟩) hb0.lt h1).trans hb0.cell, (cell_of_row _ _ _ _ _ _ h2).trans rfl, (cell_of_row _ _ _ _ _ _ h2).trans rfl⟩
  have HS : Hid (∀ W, Ch (fun k => k = rb) w0 W → S42 fb eb rb N2 x y W) := hS0
  have hwx : IntKind.u64.wrap (x : Int) = x := wu _ (by omega) (by omega)
  have hwy : IntKind.u64.wrap (y : Int) = y := wu _ (by omega) (by omega)
  have HTx := hide (turned_any n N2 rb x hN hn hx)
  have HTy := hide (turned_any n N2 rb y hN hn hy)
  have HJ1 := hide (rf_join n N2 m rb Q ro x (y + n) (by omega) (by omega) hnm (by omega) w0.drew hR0 (IntKind.u64.wrap (x : Int)) ((y : Int) + (n : Int)) hwx (by omega))
  have HJ2 : Hid (∀ W ro', Rf W rb N2 m (Q ++ [(x, y + n)]) ro' → Calls Try.prog 44 #[.slice (some ⟨rb, 0, none⟩) N2 N2, .int .u64 (IntKind.u64.wrap (y : Int)), .int .u64 ((x : Int) + (n : Int))] W fun e w' => (∃ v, e = .returned v) ∧ (∃ ro', Rf w' rb N2 m (Q ++ [(x, y + n)] ++ [(y, x + n)]) ro') ∧ Ch (fun k => k = rb) W w') := fun W ro' h => rf_join n N2 m rb _ ro' y (x + n) (by omega) (by omega) hnm (by omega) W h _ _ hwy (by omega)
  clear hwx hwy
  have HB := hide hB
  have HW0 := hide hw0
  have Heb := hide heb
  have hC0 : Ch (fun k => k = rb) w0 w0.drew := (Ch.refl _ w0).drew
  have HC0 := hide hC0
  clear hR hb hB he hb0 hR0 hS0 hw0 heb hC0 hN
  go_enter Try.func87, Try.ntmps87
  go_wp2_with (fail)
  rw [HW0.out, ← Heb.out]
  apply wp_cutV (fun w' => (∃ ro', Rf w' rb N2 m (Q ++ [(x, y + n)]) ro') ∧ Ch (fun k => k = rb) w0 w')
  case h =>
    go_region_held3 (S42 fb eb rb N2 x y) ((first | with_reducible exact HS.out _ HC0.out | with_reducible exact HS.out _ HC1.out)) ((first | (go_at_call 88; refine (HTy.out _).mono ?_; rintro e1 w1 ⟨rfl, rfl⟩) | (go_at_call 44; refine HJ1.out.mono ?_; rintro e1 w1 ⟨⟨v1, rfl⟩, hR1, hC1⟩; have HC1 := hide (HC0.out.trans hC1); have HR1 := hide hR1; clear hC1 hR1) | fail "no arm"))
    all_goals exact ⟨v1, rfl, HR1.out, HC1.out⟩
  case hq =>
    rintro v1 w1 ⟨⟨ro1, hR1⟩, hC1⟩
    have HJ := hide (HJ2.out w1.drew ro1 (hR1.of rfl))
    have HC1 := hide hC1.drew
    clear HJ1 HJ2 HC0 hR1 hC1
    go_wp2_with (fail)
    apply wp_cutV (fun w' => (∃ ro', Rf w' rb N2 m (Q ++ [(x, y + n)] ++ [(y, x + n)]) ro') ∧ Ch (fun k => k = rb) w0 w')
    case h =>
      go_region_held3 (S42 fb eb rb N2 x y) ((first | with_reducible exact HS.out _ HC1.out | with_reducible exact HS.out _ HC2.out)) ((first | (go_at_call 88; refine (HTx.out _).mono ?_; rintro e1 w2 ⟨rfl, rfl⟩) | (go_at_call 44; refine HJ.out.mono ?_; rintro e1 w2 ⟨⟨v1, rfl⟩, hR2, hC2⟩; have HC2 := hide (HC1.out.trans hC2); have HR2 := hide hR2; clear hC2 hR2) | fail "no arm"))
      all_goals exact ⟨v1, rfl, HR2.out, HC2.out⟩
    case hq =>
      rintro v2 w2 ⟨hR2, hC2⟩
      have HE : Hid ((∃ ro', Rf w2 rb N2 m (Q ++ [(x, y + n)] ++ [(y, x + n)]) ro') ∧ Ch (fun k => k = rb) w w2) := ⟨hR2, (Ch.of HB.out).trans hC2⟩
      clear hR2 hC2 HJ HC1
      go_wp2
      go_end0
      exact ⟨⟨_, rfl⟩, HE.out⟩
/-- What a colour is, out of the roots of the double cover. -/
def col (n : Nat) (ro : Nat → Int) (v : Nat) : Int := if ro v = ro (v + n) then 2 else if ro v < ro (v + n) then 0 else 1
end Au
end Go.Proofs.Ytcepfmeoeepjdaa
