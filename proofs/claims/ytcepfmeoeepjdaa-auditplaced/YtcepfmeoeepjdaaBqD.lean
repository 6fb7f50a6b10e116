import Derived.Test.YtcepfmeoeepjdaaAzC
import Derived.Test.YtcepfmeoeepjdaaAzD
import Derived.Test.YtcepfmeoeepjdaaAvB
import Derived.Test.YtcepfmeoeepjdaaAvD
import Derived.Test.YtcepfmeoeepjdaaBqA
import Derived.Test.YtcepfmeoeepjdaaBqC
namespace Go.Proofs.Ytcepfmeoeepjdaa
namespace Au
open Go.RowKit
set_option linter.unusedVariables false
set_option maxRecDepth 8000
theorem fa_ok {n : Nat} {L : List T3} (h : ∀ e ∈ L, e.1 < n ∧ e.2.1 < n) : fa n 0 L 0 = 0 := by
  induction L with
  | nil => rfl
  | cons e L ih =>
    have he := h e (List.mem_cons_self ..)
    have hb : bad n 0 e = 0 := by
      have hw : wg 0 ((e.2.2 : Nat) : Int) = true := by unfold wg; simp
      unfold bad bz
      rw [if_neg (by omega), if_pos hw]
    unfold fa
    rw [if_pos hb]
    exact ih (fun x hx => h x (List.mem_cons_of_mem _ hx))
theorem dk_ok {n p : Nat} {L : List T3} (h1 : 1 ≤ n) (h2 : n ≤ 60) (hp : p ≤ 2) (h : ∀ e ∈ L, e.1 < n ∧ e.2.1 < n) : dk (sz n) n n (2 * n) p 0 L 0 = 0 := by
  have hs : sz n = 0 := by unfold sz; rw [if_neg (by omega)]
  have ha : ak (sz n) n n (2 * n) p = 0 := by
    unfold ak
    rw [if_neg (by rw [hs]; simp), if_neg (by simp), if_neg (by have := Nat.mul_le_mul_right n hp; omega)]
  rw [dk_eq ha]; exact fa_ok h
theorem vx_ok (o : Vd) : vx 0 o = #[.bool (vR o), .int .u32 (vV o), .int .i64 (vK o)] := by unfold vx; rw [if_pos rfl]
/-- What an audit in the law hands back. -/
abbrev Hb (P : Vd → Prop) (rb n : Nat) (W : World) (e : Ending) (w' : World) : Prop := ∃ o, e = .returned (.tuple #[.agg #[.bool (vR o), .int .u32 (vV o), .int .i64 (vK o)], .int .i64 0]) ∧ P o ∧ (∃ U, GU w' rb (2 * n) U) ∧ Ch (fun k => k = rb) W w'
section
variable (n rb sg sc Bt Bf g : Nat) (L : List T3) (S : Nat → Nat → Int) (U0 : Nat → Int) (h1 : 1 ≤ n) (h2 : n ≤ 60) (hlen : L.length ≤ 140737488351232) (hI : ∀ e ∈ L, e.1 < n ∧ e.2.1 < n) (w : World)
  (hG : GU w rb (2 * n) U0) (hF : Fd w g Bt Bf L 0) (hS : SR w sg n S) (r1 : rb ≠ g) (r2 : rb ≠ Bt) (r3 : rb ≠ Bf) (r5 : rb ≠ sg)
include h1 h2 hlen hI hG hF hS r1 r2 r3 r5
theorem p11 : Calls Try.prog 11 #[.int .u32 (n : Int), fe Bt Bf, .slice (some ⟨sg, 0, none⟩) n sc, .slice (some ⟨rb, 0, none⟩) (2 * n) (2 * n)] w fun e w' => Hb (AL n L S) rb n w e w' := by
  refine (labels_anyZ U0 n (2 * n) rb sg n sc Bt Bf g L 0 S U0 (by omega) (by omega) (by omega) hlen w hG (fun x _ _ => rfl) hF hS r1 r2 r3 r5).mono ?_
  rintro e w' ⟨E, o, rfl, q1, q2, ⟨U, q3, _⟩, q4⟩
  rw [dk_ok h1 h2 (by omega) hI] at q1
  subst q1
  exact ⟨o, by rw [vx_ok], q2 rfl, ⟨U, q3⟩, q4⟩
theorem p21 : Calls Try.prog 21 #[.int .u32 (n : Int), fe Bt Bf, .slice (some ⟨sg, 0, none⟩) n sc, .slice (some ⟨rb, 0, none⟩) (2 * n) (2 * n)] w fun e w' => Hb (AC n L S) rb n w e w' := by
  refine (cores_any n (2 * n) rb sg n sc Bt Bf g L 0 S U0 (by omega) (by omega) (by omega) hlen w hG (fun x _ _ => by omega) hF hS r1 r2 r3 r5).mono ?_
  rintro e w' ⟨E, o, rfl, q1, q2, ⟨U, q3, _⟩, q4⟩
  rw [dk_ok h1 h2 (by omega) hI] at q1
  subst q1
  exact ⟨o, by rw [vx_ok], q2 rfl, ⟨U, q3⟩, q4⟩
theorem p36 : Calls Try.prog 36 #[.int .u32 (n : Int), fe Bt Bf, .slice (some ⟨sg, 0, none⟩) n sc, .slice (some ⟨rb, 0, none⟩) (2 * n) (2 * n)] w fun e w' => Hb (AC2 n L S) rb n w e w' := by
  refine (two_any n (2 * n) rb sg n sc Bt Bf g L 0 S U0 (by omega) (by omega) (by omega) hlen w hG (fun x _ _ => by omega) hF hS r1 r2 r3 r5).mono ?_
  rintro e w' ⟨E, o, rfl, q1, q2, ⟨U, q3, _⟩, q4⟩
  rw [dk_ok h1 h2 (by omega) hI] at q1
  subst q1
  exact ⟨o, by rw [vx_ok], q2 rfl, ⟨U, q3⟩, q4⟩
end
/-- A truth: what the document's Words is asked with. -/
def Tr (P : (Nat → Nat → Int) → Vd → Prop) (n : Nat) (T : Nat → Int) : Prop := ∀ S o o', P S o → Lm (fun v r => r = 1 ∧ v < n ∧ S v 0 ≠ T v) o' → o' = o
theorem tr_l {n : Nat} {L : List T3} {U ro : Nat → Int} (h : Fo n (prs L) U ro) : Tr (AL n L) n ro := fun S o o' h1 h2 => AL.one ⟨U, ro, h, h2.ext (fun v r => by simp)⟩ h1
theorem tr_2 {n : Nat} {L : List T3} {T : Nat → Int} (h : ∀ U2 r, Fo (2 * n) (dbl n L) U2 r → ∀ v, v < n → T v = col n r v) : Tr (AC2 n L) n T := fun S o o' ⟨U2, r, a, b⟩ h2 => by
  refine h2.one (b.ext (fun v r' => ?_))
  constructor
  · rintro ⟨p, q, k⟩; exact ⟨p, q, by rw [h U2 r a v q]; simpa using k⟩
  · rintro ⟨p, q, k⟩; exact ⟨p, q, by rw [h U2 r a v q] at k; simpa using k⟩
theorem tr_c {n : Nat} {L : List T3} {t : Nat} (h : an (lb (it n L t).1) n = false) : Tr (AC n L) n (it n L t).1 := fun S o o' ⟨t', a, b⟩ h2 => by
  rw [it_one a h] at b
  exact h2.one (b.ext (fun v r => by simp))
end Au
end Go.Proofs.Ytcepfmeoeepjdaa
