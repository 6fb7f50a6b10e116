import Derived.Test.YtlhpnhjfibkgpabNeD
import Derived.Test.YtlhpnhjfibkgpabWqA
namespace Go.Proofs.Ytlhpnhjfibkgpab
namespace Wp
open Go.RowKit
set_option linter.unusedVariables false
set_option maxRecDepth 8000
/-- Reach's program. -/
def gB (n : Int) (Q : List Nat) : Pg := ⟨3, false, 2, 1, brStart Q, fun c t x _ _ k => brSc c t (t 1) k, brAp, fun a _ t => brFo a t, fun c ch r => (ctlN c r, ch == 0 || decide (n ≤ c 0)), fun t a => up t 2 (min (t 2) a), fun _ _ x _ _ => 0 ≤ x ∧ x < 4294967296⟩
theorem obB (n : Int) (Q : List Nat) (h0 : 0 ≤ n) (h1 : n < 4294967296) (qb q fb B : Nat) (w : World) (hf : FB n Q qb q fb w) (hB : fb < B) (hQ : qb < B) : Ob (gB n Q) fb B w := by
  have h : ∀ W, Below B w W → FB n Q qb q fb W := fun W k => ⟨Nat.lt_of_lt_of_le hf.1 k.size, (k.block _ hB).trans hf.2.1, Nat.lt_of_lt_of_le hf.2.2.1 k.size, hf.2.2.2.1.on k hQ, hf.2.2.2.2⟩
  exact ⟨fun W k => words_B n Q qb q fb W (h W k), fun W k => both_B n Q qb q fb W (h W k), fun W k => sink_B n Q qb q fb W (h W k), fun v a b h0 h1 W k => start_B n Q qb q fb v a b h0 (by omega) W (h W k), fun c t x y z b ok W k => scatter_B n Q qb q fb c t x y z b ok.1 ok.2 W (h W k), fun c a v t h0 h1 W k => apply_B n Q qb q fb c a v t h0 h1 W (h W k), fun c a v t h0 h1 h2 h3 W k => fold_B n Q qb q fb c a v t h2 h3 W (h W k), fun c a ch r h2 h3 W k => turn_B n Q qb q fb c a ch r h0 h1 h2 h3 W (h W k), fun t a W => mon_min2 t a W⟩
set_option maxHeartbeats 2000000 in
theorem sane_B (n : Int) (Q : List Nat) (qb q fb : Nat) (w : World) (hF : FB n Q qb q fb w) : Calls Try.prog 15 #[.pointer (some ⟨fb, 0, none⟩)] w fun e w' => e = .returned (.bool true) ∧ Below w.heap.size w w' := by
  have HW := hide (words_B n Q qb q fb w hF)
  have HF := hide hF
  clear hF
  go_enter Try.func15, Try.ntmps15
  go_wp2_with (fail)
  refine HW.out.mono ?_
  rintro e1 w1 ⟨rfl, hw1⟩
  have HB1 := hide hw1
  have HK := hide (sink_B n Q qb q fb w1 (HF.out.on hw1))
  clear hw1 HW
  go_wp2_with (fail)
  refine HK.out.mono ?_
  rintro e2 w2 ⟨rfl, hw2⟩
  have HB2 := hide hw2
  clear hw2 HK
  go_wp2
  all_goals go_ret
  all_goals exact ⟨rfl, bA (HB1.out.trans (HB2.out.mono HB1.out.size)) (Nat.le_trans HB1.out.size HB2.out.size) _⟩
/-- An edge among the first i. -/
def Arc (E : Nat → Int × Int × Int) (i u v : Nat) : Prop := ∃ j, j < i ∧ (E j).1 = u ∧ (E j).2.1 = v
theorem Arc.lt {E : Nat → Int × Int × Int} {n m u v : Nat} (hI : EIn n m E) (h : Arc E m u v) : u < n ∧ v < n := by
  obtain ⟨j, hj, a, b⟩ := h
  obtain ⟨x, y, hx, hy, h1, h2⟩ := hI j hj
  omega
/-- One number goes along one edge. -/
def oneB (C : Nat → Int) (S N : Nat → Nat → Int) (u v : Nat) : Nat → Nat → Int := if S u 0 = C 0 then ups N v (up (N v) 2 (min (N v 2) (S u 1))) else N
theorem oneB_word (C : Nat → Int) (S N : Nat → Nat → Int) (u v t j : Nat) (hj : j ≠ 2) : oneB C S N u v t j = N t j := by
  unfold oneB
  split
  · unfold ups
    split
    · rename_i h; subst h; exact up_ne _ _ _ _ hj
    · rfl
  · rfl
theorem oneB_two (C : Nat → Int) (S N : Nat → Nat → Int) (u v t : Nat) : oneB C S N u v t 2 = if t = v ∧ S u 0 = C 0 then min (N v 2) (S u 1) else N t 2 := by
  unfold oneB ups
  by_cases h : S u 0 = C 0
  · rw [if_pos h]
    by_cases e : t = v
    · rw [if_pos e, if_pos ⟨e, h⟩]; exact up_eq _ _ _
    · rw [if_neg e, if_neg (fun k => e k.1)]
  · rw [if_neg h, if_neg (fun k => h k.2)]
theorem edsB_step (n : Int) (Q : List Nat) (C : Nat → Int) (S : Nat → Nat → Int) (E : Nat → Int × Int × Int) (i x y : Nat) (hx : (E i).1 = x) (hy : (E i).2.1 = y) : eds (gB n Q) C S E (i + 1) = oneB C S (eds (gB n Q) C S E i) x y := by
  show ed2 (gB n Q) C S (ed1 (gB n Q) C S (eds (gB n Q) C S E i) (E i)) (E i) = _
  rw [ed2_un rfl]
  unfold ed1 oneB
  rw [hx, hy]
  simp only [gB, brSc, Int.toNat_natCast]
  by_cases h : S x 0 = C 0
  · simp [h]
  · simp [h]
/-- What is gathered along the first i edges. -/
structure GtB (C : Nat → Int) (S N : Nat → Nat → Int) (E : Nat → Int × Int × Int) (i : Nat) : Prop where
  w0 : ∀ v, N v 0 = S v 0
  w1 : ∀ v, N v 1 = S v 1
  le : ∀ v, N v 2 ≤ S v 2
  sent : ∀ u v, Arc E i u v → S u 0 = C 0 → N v 2 ≤ S u 1
  frm : ∀ v, N v 2 = S v 2 ∨ ∃ u : Nat, Arc E i u v ∧ S u 0 = C 0 ∧ N v 2 = S u 1
theorem gtB_all (n : Int) (Q : List Nat) (k m : Nat) (C : Nat → Int) (S : Nat → Nat → Int) (E : Nat → Int × Int × Int) (hI : EIn k m E) : ∀ i, i ≤ m → GtB C S (eds (gB n Q) C S E i) E i := by
  intro i
  induction i with
  | zero => exact fun _ => ⟨fun _ => rfl, fun _ => rfl, fun _ => Int.le_refl _, fun u v h => by obtain ⟨j, hj, _⟩ := h; omega, fun _ => Or.inl rfl⟩
  | succ i ih =>
    intro hi
    have h := ih (by omega)
    obtain ⟨x, y, hx, hy, hxn, hyn⟩ := hI i (by omega)
    rw [edsB_step n Q C S E i x y hx hy]
    generalize eds (gB n Q) C S E i = N at h
    have f2 : ∀ t, oneB C S N x y t 2 ≤ N t 2 := fun t => by
      rw [oneB_two]; split
      · rename_i h; rw [h.1]; exact Int.min_le_left _ _
      · exact Int.le_refl _
    refine ⟨fun v => ?_, fun v => ?_, fun v => Int.le_trans (f2 v) (h.le v), fun u v ha hs => ?_, fun v => ?_⟩
    · rw [oneB_word _ _ _ _ _ _ _ (by decide)]; exact h.w0 v
    · rw [oneB_word _ _ _ _ _ _ _ (by decide)]; exact h.w1 v
    · obtain ⟨j, hj, a, b⟩ := ha
      by_cases e : j < i
      · exact Int.le_trans (f2 v) (h.sent u v ⟨j, e, a, b⟩ hs)
      · obtain rfl : j = i := by omega
        have e1 : u = x := by omega
        have e2 : v = y := by omega
        subst e1; subst e2
        rw [oneB_two, if_pos ⟨rfl, hs⟩]
        exact Int.min_le_right _ _
    · have base : N v 2 = S v 2 ∨ ∃ u : Nat, Arc E (i + 1) u v ∧ S u 0 = C 0 ∧ N v 2 = S u 1 := by
        rcases h.frm v with a | ⟨u, ⟨j, hj, a⟩, b, c⟩
        · exact Or.inl a
        · exact Or.inr ⟨u, ⟨j, by omega, a⟩, b, c⟩
      rw [oneB_two]
      split
      · rename_i hc
        obtain ⟨rfl, hc⟩ := hc
        by_cases e : N v 2 ≤ S x 1
        · rw [Int.min_eq_left e]; exact base
        · rw [Int.min_eq_right (by omega)]; exact Or.inr ⟨x, ⟨i, by omega, hx, hy⟩, hc, rfl⟩
      · exact base
end Wp
end Go.Proofs.Ytlhpnhjfibkgpab
