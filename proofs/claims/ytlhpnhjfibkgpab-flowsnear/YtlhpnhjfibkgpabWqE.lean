import Derived.Test.YtlhpnhjfibkgpabWqD
namespace Go.Proofs.Ytlhpnhjfibkgpab
namespace Wp
open Go.RowKit
set_option linter.unusedVariables false
/-- How many stand for themselves. -/
def own (n : Nat) (G : Nat → Int) : Nat := (List.range n).countP (fun v => G v == (v : Int))
/-- Groups behind the first i edges. -/
structure Gr (n : Nat) (E : Nat → Int × Int × Int) (F G : Nat → Int) (i : Nat) : Prop where
  b : ∀ v, v < n → 0 ≤ G v ∧ G v < n
  r : ∀ v, v < n → G (G v).toNat = G v
  f : ∀ u v, u < n → v < n → G u = G v → F u = F v
  e : ∀ j, j < i → G (E j).1.toNat = G (E j).2.1.toNat
theorem Gr.zero (n : Nat) (E : Nat → Int × Int × Int) (F : Nat → Int) : Gr n E F (fun v => (v : Int)) 0 :=
  ⟨fun v hv => ⟨by omega, by omega⟩, fun v hv => by simp, fun u v hu hv h => by rw [show u = v by have : (u : Int) = v := h; omega], fun j hj => by omega⟩
theorem own_zero (n : Nat) : own n (fun v => (v : Int)) = n := by
  unfold own
  rw [List.countP_eq_length.2 (fun x hx => by simp)]
  simp
/-- Two groups become one. -/
def mg (G : Nat → Int) (a b : Int) : Nat → Int := fun v => if G v = b then a else G v
theorem Gr.same {n i : Nat} {E : Nat → Int × Int × Int} {F G : Nat → Int} (h : Gr n E F G i) (he : G (E i).1.toNat = G (E i).2.1.toNat) : Gr n E F G (i + 1) :=
  ⟨h.b, h.r, h.f, fun j hj => by
    by_cases e : j < i
    · exact h.e j e
    · rw [show j = i by omega]; exact he⟩
theorem Gr.merge {n m i x y : Nat} {E : Nat → Int × Int × Int} {F G : Nat → Int} (h : Gr n E F G i) (hI : EIn n m E) (him : i < m) (hx : (E i).1 = x) (hy : (E i).2.1 = y) (hxn : x < n) (hyn : y < n) (hF : F x = F y) (hne : G x ≠ G y) : Gr n E F (mg G (G x) (G y)) (i + 1) := by
  have hnat : ∀ v, v < n → (G v).toNat < n := fun v hv => by have := h.b v hv; omega
  refine ⟨fun v hv => ?_, fun v hv => ?_, fun u v hu hv he => ?_, fun j hj => ?_⟩
  · unfold mg; split
    · exact h.b x hxn
    · exact h.b v hv
  · unfold mg
    by_cases e : G v = G y
    · rw [if_pos e, h.r x hxn, if_neg hne]
    · rw [if_neg e, h.r v hv, if_neg e]
  · unfold mg at he
    by_cases e1 : G u = G y
    · rw [if_pos e1] at he
      by_cases e2 : G v = G y
      · rw [h.f u y hu hyn e1, h.f v y hv hyn e2]
      · rw [if_neg e2] at he
        rw [h.f u y hu hyn e1, ← hF, h.f x v hxn hv he]
    · rw [if_neg e1] at he
      by_cases e2 : G v = G y
      · rw [if_pos e2] at he
        rw [h.f v y hv hyn e2, ← hF, h.f u x hu hxn he]
      · rw [if_neg e2] at he
        exact h.f u v hu hv he
  · by_cases e : j < i
    · unfold mg; rw [h.e j e]
    · rw [show j = i by omega, hx, hy]
      unfold mg
      simp only [Int.toNat_natCast]
      rw [if_neg hne, if_pos trivial]
theorem countP_drop (p q : Nat → Bool) (b : Nat) (hq : ∀ v, q v = (p v && (v != b))) (hb : p b = true) : ∀ n, b < n → (List.range n).countP p = (List.range n).countP q + 1 := by
  intro n
  induction n with
  | zero => intro h; omega
  | succ n ih =>
    intro h
    rw [List.range_succ, List.countP_append, List.countP_append, List.countP_singleton, List.countP_singleton]
    by_cases e : b < n
    · have hn : q n = p n := by rw [hq]; have : (n != b) = true := by simp; omega
                                rw [this, Bool.and_true]
      rw [ih e, hn]; omega
    · have hbn : b = n := by omega
      subst hbn
      have h1 : q b = false := by rw [hq]; simp
      have h2 : (List.range b).countP p = (List.range b).countP q := by
        apply List.countP_congr
        intro v hv
        have := List.mem_range.1 hv
        rw [hq]
        have h3 : (v != b) = true := by simp; omega
        rw [h3, Bool.and_true]
      rw [h1, h2, hb]; simp
theorem own_merge {n i x y : Nat} {E : Nat → Int × Int × Int} {F G : Nat → Int} (h : Gr n E F G i) (hxn : x < n) (hyn : y < n) (hne : G x ≠ G y) : own n G = own n (mg G (G x) (G y)) + 1 := by
  have hy := h.b y hyn
  refine countP_drop _ _ (G y).toNat (fun v => ?_) ?_ n (by omega)
  · unfold mg
    by_cases e : G v = G y
    · rw [if_pos e]
      by_cases e2 : (v : Int) = G y
      · have h1 : (G x == (v : Int)) = false := by simp; omega
        have h2 : (v != (G y).toNat) = false := by simp; omega
        rw [h1, h2, Bool.and_false]
      · have h1 : (G v == (v : Int)) = false := by simp; omega
        rw [h1, Bool.false_and]
        have h3 : G x ≠ (v : Int) := by
          intro h4
          have h5 := h.r x hxn
          rw [h4] at h5
          simp only [Int.toNat_natCast] at h5
          rw [e] at h5
          omega
        simp; exact h3
    · rw [if_neg e]
      by_cases e2 : G v = (v : Int)
      · have h2 : (v != (G y).toNat) = true := by simp; omega
        rw [h2, Bool.and_true]
      · have h1 : (G v == (v : Int)) = false := by simp [e2]
        rw [h1, Bool.false_and]
  · have := h.r y hyn
    simp; omega
theorem roots_own {n m : Nat} {E : Nat → Int × Int × Int} {F G : Nat → Int} (hI : EIn n m E) (hW : Wcc n m E F) (h : Gr n E F G m) : own n F = own n G := by
  have hadj : ∀ u v : Nat, Adj E m u v → G u = G v := fun u v ⟨j, hj, ha⟩ => by
    have := h.e j hj
    rcases ha with ⟨a, b⟩ | ⟨a, b⟩
    · rw [a, b] at this; simpa using this
    · rw [a, b] at this; simpa using this.symm
  have hGF : ∀ v, v < n → G (F v).toNat = G v := fun v hv => by
    have := hW.f (fun x => G x.toNat) (fun u v ha => by simp only [Int.toNat_natCast]; exact hadj u v ha) v hv
    simpa using this
  have hFG : ∀ v, v < n → F (G v).toNat = F v := fun v hv => h.f _ _ (by have := h.b v hv; omega) hv (h.r v hv)
  apply Nat.le_antisymm
  · refine count_le _ _ n (fun v => (G v).toNat) (fun v hv hp => ?_) (fun u v hu hv hp hq e => ?_)
    · have := h.b v hv
      refine ⟨by show (G v).toNat < n; omega, ?_⟩
      have h2 := h.r v hv
      simp; omega
    · have hu' : F u = u := by simpa using hp
      have hv' : F v = v := by simpa using hq
      have e' : (G u).toNat = (G v).toNat := e
      have h1 := hFG u hu
      have h2 := hFG v hv
      rw [e', h2] at h1
      omega
  · refine count_le _ _ n (fun v => (F v).toNat) (fun v hv hp => ?_) (fun u v hu hv hp hq e => ?_)
    · have := hW.b v hv
      refine ⟨by show (F v).toNat < n; omega, ?_⟩
      have h2 := hW.root v hv
      simp; omega
    · have hu' : G u = u := by simpa using hp
      have hv' : G v = v := by simpa using hq
      have e' : (F u).toNat = (F v).toNat := e
      have h1 := hGF u hu
      have h2 := hGF v hv
      rw [e', h2] at h1
      omega
theorem own_le (n : Nat) (G : Nat → Int) : own n G ≤ n := by
  have := List.countP_le_length (p := fun v : Nat => G v == (v : Int)) (l := List.range n)
  simpa [own] using this
theorem own_succ' (G : Nat → Int) (k : Nat) : own (k + 1) G = own k G + if G k = (k : Int) then 1 else 0 := by
  unfold own
  rw [List.range_succ, List.countP_append, List.countP_singleton]
  simp
end Wp
end Go.Proofs.Ytlhpnhjfibkgpab
