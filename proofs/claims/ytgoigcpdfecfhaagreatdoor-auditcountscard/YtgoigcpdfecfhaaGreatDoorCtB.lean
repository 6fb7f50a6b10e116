import Derived.Test.YtgoigcpdfecfhaaGreatDoorMgD
import Derived.Test.YtgoigcpdfecfhaaGreatDoorTyNb
namespace Go.Proofs.YtgoigcpdfecfhaaGreatDoor
namespace Au
open Go.RowKit
set_option linter.unusedVariables false
set_option maxRecDepth 8000
/-- Of each sixteen the greater. -/
def ni (a b : Int) : Int := (Nb.nmax a.toNat b.toNat 16 : Nat)
theorem nmax_b (x y k : Nat) : Nb.nmax x y k < 16 ^ k := by
  induction k with
  | zero => simp [Nb.nmax]
  | succ k ih =>
    rw [Nb.nmax, Nat.pow_succ]
    have h : max (x / 16 ^ k % 16) (y / 16 ^ k % 16) ≤ 15 := by omega
    have := Nat.mul_le_mul_right (16 ^ k) h
    omega
theorem nmax_ge (x y k : Nat) : x % 16 ^ k ≤ Nb.nmax x y k := by
  induction k with
  | zero => simp [Nb.nmax]; omega
  | succ k ih =>
    rw [Nb.nmax, Nat.pow_succ, Nat.mod_mul]
    have h : x / 16 ^ k % 16 ≤ max (x / 16 ^ k % 16) (y / 16 ^ k % 16) := Nat.le_max_left _ _
    have h2 := Nat.mul_le_mul_right (16 ^ k) h
    rw [Nat.mul_comm (x / 16 ^ k % 16)] at h2
    omega
theorem ni_b (a b : Int) : 0 ≤ ni a b ∧ ni a b < 18446744073709551616 := by
  have := nmax_b a.toNat b.toNat 16
  unfold ni; omega
theorem ni_ge (a b : Int) (h0 : 0 ≤ a) (h1 : a < 18446744073709551616) : a ≤ ni a b := by
  have := nmax_ge a.toNat b.toNat 16
  rw [Nat.mod_eq_of_lt (by omega)] at this
  unfold ni; omega
def WB (F : Nat → Int) : Prop := ∀ v, 0 ≤ F v ∧ F v < 18446744073709551616
/-- What an edge brings. -/
def stp (P G : Nat → Int) (e : T3) : Nat → Int := up G e.2.1 (ni (G e.2.1) (P e.1))
def pas (P : Nat → Int) (L : List T3) : Nat → Int := L.foldl (stp P) P
theorem pas_app (P : Nat → Int) (L : List T3) (e : T3) : pas P (L ++ [e]) = stp P (pas P L) e := by unfold pas; rw [List.foldl_append]; rfl
theorem stp_b {P G : Nat → Int} (h : WB G) (e : T3) : WB (stp P G e) := fun v => by
  unfold stp up
  split
  · exact ni_b _ _
  · exact h v
theorem stp_ge {P G : Nat → Int} (h : WB G) (e : T3) (v : Nat) : G v ≤ stp P G e v := by
  unfold stp up
  split
  · rename_i hv; subst hv; exact ni_ge _ _ (h _).1 (h _).2
  · exact Int.le_refl _
theorem fold_b {P : Nat → Int} (L : List T3) : ∀ {G : Nat → Int}, WB G → WB (L.foldl (stp P) G) := by
  induction L with
  | nil => intro G h; exact h
  | cons e L ih => intro G h; exact ih (stp_b h e)
theorem pas_b {P : Nat → Int} (L : List T3) (h : WB P) : WB (pas P L) := fold_b L h
/-- Has anything become another? -/
def chg (P : Nat → Int) : List T3 → Bool := fun L => (L.foldl (fun (s : (Nat → Int) × Bool) e => (stp P s.1 e, s.2 || (stp P s.1 e e.2.1 != P e.2.1))) (P, false)).2
theorem chg_fst (P : Nat → Int) (L : List T3) : (L.foldl (fun (s : (Nat → Int) × Bool) e => (stp P s.1 e, s.2 || (stp P s.1 e e.2.1 != P e.2.1))) (P, false)).1 = pas P L := by
  unfold pas
  generalize P = G at *
  suffices h : ∀ (L : List T3) (G' : Nat → Int) (b : Bool), (L.foldl (fun (s : (Nat → Int) × Bool) e => (stp G s.1 e, s.2 || (stp G s.1 e e.2.1 != G e.2.1))) (G', b)).1 = L.foldl (stp G) G' from h L G false
  intro L
  induction L with
  | nil => intros; rfl
  | cons e L ih => intro G' b; simp only [List.foldl_cons]; exact ih _ _
theorem chg_app (P : Nat → Int) (L : List T3) (e : T3) : chg P (L ++ [e]) = (chg P L || (pas P (L ++ [e]) e.2.1 != P e.2.1)) := by
  unfold chg
  rw [List.foldl_append]
  simp only [List.foldl_cons, List.foldl_nil]
  rw [chg_fst, pas_app]
theorem pas_ge {P : Nat → Int} (L : List T3) (h : WB P) (v : Nat) : P v ≤ pas P L v := by
  unfold pas
  suffices hh : ∀ (L : List T3) (G : Nat → Int), WB G → P v ≤ G v → P v ≤ L.foldl (stp P) G v from hh L P h (Int.le_refl _)
  intro L
  induction L with
  | nil => intro G _ h; exact h
  | cons e L ih => intro G h1 h2; exact ih _ (stp_b h1 e) (Int.le_trans h2 (stp_ge h1 e v))
theorem chg_iff {P : Nat → Int} (h : WB P) : ∀ L : List T3, chg P L = false ↔ pas P L = P := by
  intro L
  suffices hh : ∀ M : List T3, chg P M.reverse = false ↔ pas P M.reverse = P by
    have := hh L.reverse; rwa [List.reverse_reverse] at this
  intro M
  induction M with
  | nil => simp [chg, pas]
  | cons e M ih =>
    rw [List.reverse_cons, chg_app, Bool.or_eq_false_iff, ih, pas_app]
    have hb := pas_b (P := P) M.reverse h
    constructor
    · rintro ⟨h1, h2⟩
      rw [h1] at h2 ⊢
      simp only [bne_eq_false_iff_eq] at h2
      funext v
      by_cases hv : v = e.2.1
      · rw [hv]; exact h2
      · unfold stp; rw [up_ne _ _ _ _ hv]
    · intro h1
      have h2 : pas P M.reverse = P := by
        funext v
        have a := stp_ge (P := P) hb e v
        have b := pas_ge M.reverse h v
        rw [h1] at a
        omega
      refine ⟨h2, ?_⟩
      rw [h1]; simp
/-- The sets behind k rounds. -/
def itr (L : List T3) (F : Nat → Int) : Nat → Nat → Int
  | 0 => F
  | k + 1 => pas (itr L F k) L
theorem itr_b (L : List T3) {F : Nat → Int} (h : WB F) (k : Nat) : WB (itr L F k) := by
  induction k with
  | zero => exact h
  | succ k ih => exact pas_b L ih
theorem itr_fix (L : List T3) (F : Nat → Int) (k j : Nat) (h : pas (itr L F k) L = itr L F k) (hj : k ≤ j) : itr L F j = itr L F k := by
  induction j with
  | zero => rw [show k = 0 by omega]
  | succ j ih =>
    by_cases e : k = j + 1
    · rw [e]
    · have := ih (by omega)
      show pas (itr L F j) L = _
      rw [this]; exact h
theorem pas_out (P : Nat → Int) (n : Nat) (L : List T3) (hL : ∀ e ∈ L, e.2.1 < n) (v : Nat) (hv : n ≤ v) : pas P L v = P v := by
  unfold pas
  suffices hh : ∀ (L : List T3) (G : Nat → Int), (∀ e ∈ L, e.2.1 < n) → G v = P v → L.foldl (stp P) G v = P v from hh L P hL rfl
  intro L
  induction L with
  | nil => intro G _ h; exact h
  | cons e L ih =>
    intro G h1 h2
    refine ih _ (fun x hx => h1 x (List.mem_cons_of_mem _ hx)) ?_
    have := h1 e (List.mem_cons_self ..)
    unfold stp; rw [up_ne _ _ _ _ (by omega)]; exact h2
theorem pas_eq (P : Nat → Int) (n : Nat) (L : List T3) (hL : ∀ e ∈ L, e.2.1 < n) (h : ∀ v, v < n → pas P L v = P v) : pas P L = P := funext fun v => by
  by_cases hv : v < n
  · exact h v hv
  · exact pas_out P n L hL v (by omega)
/-- Edges that cross, by where they lead. -/
def crs (I : Nat → Bool) (G : Nat → Int) (e : T3) : Nat → Int := if I e.1 != I e.2.1 then up G e.2.1 (IntKind.u64.wrap (G e.2.1 + 1)) else G
def crn (I : Nat → Bool) (L : List T3) : Nat → Int := L.foldl (crs I) (fun _ => 0)
theorem crn_app (I : Nat → Bool) (L : List T3) (e : T3) : crn I (L ++ [e]) = crs I (crn I L) e := by unfold crn; rw [List.foldl_append]; rfl
end Au
end Go.Proofs.YtgoigcpdfecfhaaGreatDoor
