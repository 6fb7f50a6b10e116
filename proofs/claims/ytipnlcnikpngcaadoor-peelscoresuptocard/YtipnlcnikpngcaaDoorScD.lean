import Derived.Test.YtipnlcnikpngcaaDoorScC
import Derived.Test.YtipnlcnikpngcaaDoorSqF
namespace Go.Proofs.YtipnlcnikpngcaaDoor
namespace Wp
open Go.RowKit
set_option linter.unusedVariables false
set_option maxRecDepth 8000
/-- The numbers as far as k. -/
def Kc (E : Nat → Int × Int × Int) (m n k : Nat) (K : Nat → Nat) : Prop := ∀ v, v < n → K v + 1 ≤ k ∧ InCore E m n (K v) v ∧ (K v + 1 < k → ¬ InCore E m n (K v + 1) v)
/-- Those that may have k. -/
def Ac (E : Nat → Int × Int × Int) (m n k : Nat) (K : Nat → Nat) (A : Nat → Bool) : Prop := ∀ v, v < n → (InCore E m n k v → A v = true) ∧ (A v = true → K v + 1 = k)
def Ks (E : Nat → Int × Int × Int) (m n : Nat) (K : Nat → Nat) : Prop := ∀ v, v < n → InCore E m n (K v) v ∧ ¬ InCore E m n (K v + 1) v
def Sb (E : Nat → Int × Int × Int) (m n k : Nat) (A : Nat → Bool) : Prop := ∀ v, v < n → A v = true → k ≤ nbc E v A m
theorem Kc.one (E : Nat → Int × Int × Int) (m n : Nat) : Kc E m n 1 (fun _ => 0) := fun v hv =>
  ⟨Nat.le_refl _, ⟨fun u => decide (u < n), by simp [hv], fun u hu => ⟨by simpa using hu, Nat.zero_le _⟩⟩, fun h => absurd h (Nat.lt_irrefl 1)⟩
theorem Ac.new {E : Nat → Int × Int × Int} {m n k : Nat} {K : Nat → Nat} (h : Kc E m n k K) (A : Nat → Bool) (hA : ∀ v, v < n → (A v = true ↔ K v + 1 = k)) : Ac E m n k K A := fun v hv =>
  ⟨fun q => (hA v hv).2 (by
    obtain ⟨a, _, c⟩ := h v hv
    rcases Nat.lt_or_ge (K v + 1) k with l | l
    · exact absurd (q.mono (Nat.le_of_lt l)) (c l)
    · omega), (hA v hv).1⟩
theorem Ac.drop {E : Nat → Int × Int × Int} {m n k : Nat} {K : Nat → Nat} {A A0 : Nat → Bool} (hI : EIn n m E) (h0 : Ac E m n k K A0) (h : Ac E m n k K A) (v : Nat) (hv : v < n) (hd : nbc E v A0 m < k) : Ac E m n k K (fun u => if u = v then false else A u) := fun u hu => by
  by_cases e : u = v
  · subst e
    refine ⟨fun q => ?_, fun q => by simp at q⟩
    obtain ⟨X, x1, x2⟩ := q
    have h1 := nbc_mono hI u (P := X) (Q := A0) (fun y hy hX => (h0 y hy).1 ⟨X, hX, x2⟩) m (Nat.le_refl _)
    have := (x2 u x1).2
    omega
  · simp only [if_neg e]
    exact h u hu
theorem Sb.core {E : Nat → Int × Int × Int} {m n k : Nat} {A : Nat → Bool} (hI : EIn n m E) (h : Sb E m n k A) (v : Nat) (hv : v < n) (ha : A v = true) : InCore E m n k v := by
  refine ⟨fun u => decide (u < n) && A u, by simp [hv, ha], fun u hu => ?_⟩
  simp only [Bool.and_eq_true, decide_eq_true_eq] at hu
  refine ⟨hu.1, ?_⟩
  rw [nbc_congr hI u (P := fun u => decide (u < n) && A u) (Q := A) (fun x hx => by simp [hx])]
  exact h u hu.1 hu.2
theorem Kc.next {E : Nat → Int × Int × Int} {m n k : Nat} {K : Nat → Nat} {A : Nat → Bool} (hI : EIn n m E) (h : Kc E m n k K) (hA : Ac E m n k K A) (hs : Sb E m n k A) : Kc E m n (k + 1) (fun v => if v < n ∧ A v = true then k else K v) := fun v hv => by
  obtain ⟨a, b, c⟩ := h v hv
  by_cases e : A v = true
  · simp only [hv, e, and_self, if_true]
    exact ⟨Nat.le_refl _, hs.core hI v hv e, fun q => absurd q (by omega)⟩
  · simp only [show (if v < n ∧ A v = true then k else K v) = K v from if_neg (fun q => e q.2)]
    refine ⟨by omega, b, fun q => ?_⟩
    rcases Nat.lt_or_ge (K v + 1) k with l | l
    · exact c l
    · rw [show K v + 1 = k by omega]; exact fun q => e ((hA v hv).1 q)
theorem Kc.stop {E : Nat → Int × Int × Int} {m n k : Nat} {K : Nat → Nat} {A : Nat → Bool} (h : Kc E m n k K) (hA : Ac E m n k K A) (hn : ∀ v, v < n → A v = false) : Ks E m n (fun v => if v < n ∧ A v = true then k else K v) := fun v hv => by
  obtain ⟨a, b, c⟩ := h v hv
  have e := hn v hv
  simp only [show (if v < n ∧ A v = true then k else K v) = K v from if_neg (fun q => by rw [e] at q; cases q.2)]
  refine ⟨b, ?_⟩
  rcases Nat.lt_or_ge (K v + 1) k with l | l
  · exact c l
  · rw [show K v + 1 = k by omega]
    intro q
    have := (hA v hv).1 q
    rw [e] at this; cases this
theorem Kc.fin {E : Nat → Int × Int × Int} {m n k : Nat} {K : Nat → Nat} (h : Kc E m n k K) (hk : 2 * m < k) (hk2 : k ≤ 2 * m + 1) : Ks E m n K := fun v hv => by
  obtain ⟨a, b, c⟩ := h v hv
  refine ⟨b, ?_⟩
  rcases Nat.lt_or_ge (K v + 1) k with l | l
  · exact c l
  · rintro ⟨X, x1, x2⟩
    have h1 := (x2 v x1).2
    have h2 := nbc_le E v X m
    omega
/-- How many stand. -/
def ca (A : Nat → Bool) : Nat → Nat
  | 0 => 0
  | v + 1 => ca A v + if A v = true then 1 else 0
def tct (lb : Nat) (w : World) : Nat → Nat
  | 0 => 0
  | v + 1 => tct lb w v + match w.cell? ⟨lb, v, none⟩ with | some (.bool true) => 1 | _ => 0
def ag (lb n : Nat) (f : Value) (w : World) : Nat := match f with | .bool true => tct lb w n + 1 | _ => 0
theorem tct_eq {w : World} {lb n : Nat} {A : Nat → Bool} (h : GV w lb 4 n (fun v => .bool (A v))) : ∀ v, v ≤ n → tct lb w v = ca A v := by
  intro v
  induction v with
  | zero => intro _; rfl
  | succ v ih =>
    intro hv
    simp only [tct, ca, ih (by omega), h.cell v (by omega)]
    cases A v <;> rfl
theorem ca_le (A B : Nat → Bool) (n : Nat) (h : ∀ v, v < n → B v = true → A v = true) : ca B n ≤ ca A n ∧ ((∃ v, v < n ∧ A v = true ∧ B v = false) → ca B n < ca A n) := by
  induction n with
  | zero => exact ⟨Nat.le_refl _, fun ⟨v, hv, _⟩ => by omega⟩
  | succ n ih =>
    obtain ⟨i1, i2⟩ := ih (fun v hv => h v (by omega))
    have hn := h n (by omega)
    simp only [ca]
    refine ⟨?_, ?_⟩
    · by_cases e : B n = true
      · rw [if_pos e, if_pos (hn e)]; omega
      · rw [if_neg e]; omega
    · rintro ⟨v, hv, h1, h2⟩
      by_cases ev : v = n
      · subst ev; rw [if_pos h1, if_neg (by rw [h2]; decide)]; omega
      · have := i2 ⟨v, by omega, h1, h2⟩
        by_cases e : B n = true
        · rw [if_pos e, if_pos (hn e)]; omega
        · rw [if_neg e]; omega
/-- Degrees among those that stand. -/
def dgr (E : Nat → Int × Int × Int) (A : Nat → Bool) (i v : Nat) : Nat := if A v = true then nbc E v A i else 0
theorem dgr_le (E : Nat → Int × Int × Int) (A : Nat → Bool) (i v : Nat) : dgr E A i v ≤ 2 * i := by
  unfold dgr; split
  · exact nbc_le _ _ _ _
  · omega
theorem dgr_no {E : Nat → Int × Int × Int} {A : Nat → Bool} {i x y : Nat} (hx : (E i).1 = x) (hy : (E i).2.1 = y) (h : ¬ (x ≠ y ∧ A x = true ∧ A y = true)) (v : Nat) : dgr E A (i + 1) v = dgr E A i v := by
  unfold dgr
  by_cases e : A v = true
  · rw [if_pos e, if_pos e]
    simp only [nbc, nb1, hx, hy, Int.toNat_natCast]
    rw [if_neg, if_neg]
    · rfl
    · rintro ⟨a, b, c⟩
      have hyv : y = v := by omega
      exact h ⟨by omega, c, by rw [hyv]; exact e⟩
    · rintro ⟨a, b, c⟩
      have hxv : x = v := by omega
      exact h ⟨by omega, by rw [hxv]; exact e, c⟩
  · rw [if_neg e, if_neg e]
theorem dgr_yes {E : Nat → Int × Int × Int} {A : Nat → Bool} {i x y : Nat} (hx : (E i).1 = x) (hy : (E i).2.1 = y) (h1 : x ≠ y) (h2 : A x = true) (h3 : A y = true) (v : Nat) : dgr E A (i + 1) v = if v = y then dgr E A i y + 1 else if v = x then dgr E A i x + 1 else dgr E A i v := by
  unfold dgr
  rw [if_pos h2, if_pos h3]
  have hne : (x : Int) ≠ (y : Int) := by omega
  simp only [nbc, nb1, hx, hy, Int.toNat_natCast, h2, h3, and_true]
  by_cases e1 : v = y
  · subst e1
    rw [if_pos h3, if_pos rfl, if_neg (fun q => h1 (by omega)), if_pos ⟨hne, rfl⟩]
  · rw [if_neg e1]
    by_cases e2 : v = x
    · subst e2
      rw [if_pos h2, if_pos rfl, if_pos ⟨hne, rfl⟩, if_neg (fun q => h1 (by omega))]
    · rw [if_neg e2]
      by_cases e : A v = true
      · rw [if_pos e, if_pos e, if_neg (fun q => e2 (by omega)), if_neg (fun q => e1 (by omega))]
        rfl
      · rw [if_neg e, if_neg e]
/-- What lies where. -/
structure CI (E : Nat → Int × Int × Int) (n : Nat) (K : Nat → Nat) (A : Nat → Bool) (cb lb : Nat) (w wr : World) : Prop where
  t : Below w.heap.size w wr
  k : GV wr cb 23 n (fun v => .int .u64 (K v : Int))
  l : GV wr lb 4 n (fun v => .bool (A v))
  e : w.heap.size ≤ cb ∧ w.heap.size ≤ lb ∧ cb ≠ lb
theorem CI.on {E : Nat → Int × Int × Int} {n : Nat} {K : Nat → Nat} {A : Nat → Bool} {cb lb : Nat} {w wr w' : World} (h : CI E n K A cb lb w wr) (hb : Below wr.heap.size wr w') : CI E n K A cb lb w w' :=
  ⟨h.t.trans (hb.mono h.t.size), h.k.on hb, h.l.on hb, h.e⟩
theorem CI.setL {E : Nat → Int × Int × Int} {n : Nat} {K : Nat → Nat} {A : Nat → Bool} {cb lb : Nat} {w wr : World} (h : CI E n K A cb lb w wr) (v : Nat) (hv : v < n) (x : Bool) : CI E n K (fun u => if u = v then x else A u) cb lb w (wr.setCell ⟨lb, v, none⟩ (.bool x)) := by
  obtain ⟨D, hD, hG⟩ := h.l.set v hv (.bool x)
  rw [hD]
  exact ⟨below_setRow h.t h.e.2.1 _, h.k.of (setRow_other _ _ _ _ h.e.2.2), hG.ext (fun u _ => by by_cases e : u = v <;> simp [e]), h.e⟩
theorem CI.setK {E : Nat → Int × Int × Int} {n : Nat} {K : Nat → Nat} {A : Nat → Bool} {cb lb : Nat} {w wr : World} (h : CI E n K A cb lb w wr) (v : Nat) (hv : v < n) (x : Nat) : CI E n (fun u => if u = v then x else K u) A cb lb w (wr.setCell ⟨cb, v, none⟩ (.int .u64 (x : Int))) := by
  obtain ⟨D, hD, hG⟩ := h.k.set v hv (.int .u64 (x : Int))
  rw [hD]
  exact ⟨below_setRow h.t h.e.1 _, hG.ext (fun u _ => by by_cases e : u = v <;> simp [e]), h.l.of (setRow_other _ _ _ _ (Ne.symm h.e.2.2)), h.e⟩
theorem CI.ext {E : Nat → Int × Int × Int} {n : Nat} {K K' : Nat → Nat} {A A' : Nat → Bool} {cb lb : Nat} {w wr : World} (h : CI E n K A cb lb w wr) (e1 : ∀ v, v < n → K v = K' v) (e2 : ∀ v, v < n → A v = A' v) : CI E n K' A' cb lb w wr :=
  ⟨h.t, h.k.ext (fun v hv => by rw [e1 v hv]), h.l.ext (fun v hv => by rw [e2 v hv]), h.e⟩
/-- With the degrees besides. -/
structure CD (E : Nat → Int × Int × Int) (n : Nat) (K : Nat → Nat) (A : Nat → Bool) (D : Nat → Nat) (cb lb db : Nat) (w wr : World) : Prop where
  c : CI E n K A cb lb w wr
  d : GV wr db 23 n (fun v => .int .u64 (D v : Int))
  e : w.heap.size ≤ db ∧ cb ≠ db ∧ lb ≠ db
theorem CD.on {E : Nat → Int × Int × Int} {n : Nat} {K : Nat → Nat} {A : Nat → Bool} {D : Nat → Nat} {cb lb db : Nat} {w wr w' : World} (h : CD E n K A D cb lb db w wr) (hb : Below wr.heap.size wr w') : CD E n K A D cb lb db w w' :=
  ⟨h.c.on hb, h.d.on hb, h.e⟩
theorem CD.setD {E : Nat → Int × Int × Int} {n : Nat} {K : Nat → Nat} {A : Nat → Bool} {D : Nat → Nat} {cb lb db : Nat} {w wr : World} (h : CD E n K A D cb lb db w wr) (v : Nat) (hv : v < n) (x : Nat) : CD E n K A (fun u => if u = v then x else D u) cb lb db w (wr.setCell ⟨db, v, none⟩ (.int .u64 (x : Int))) := by
  obtain ⟨C, hC, hG⟩ := h.d.set v hv (.int .u64 (x : Int))
  rw [hC]
  exact ⟨⟨below_setRow h.c.t h.e.1 _, h.c.k.of (setRow_other _ _ _ _ h.e.2.1), h.c.l.of (setRow_other _ _ _ _ h.e.2.2), h.c.e⟩, hG.ext (fun u _ => by by_cases e : u = v <;> simp [e]), h.e⟩
theorem CD.setL {E : Nat → Int × Int × Int} {n : Nat} {K : Nat → Nat} {A : Nat → Bool} {D : Nat → Nat} {cb lb db : Nat} {w wr : World} (h : CD E n K A D cb lb db w wr) (v : Nat) (hv : v < n) (x : Bool) : CD E n K (fun u => if u = v then x else A u) D cb lb db w (wr.setCell ⟨lb, v, none⟩ (.bool x)) := by
  have h1 := h.c.setL v hv x
  obtain ⟨C, hC, _⟩ := h.c.l.set v hv (.bool x)
  refine ⟨h1, ?_, h.e⟩
  rw [hC]
  exact h.d.of (setRow_other _ _ _ _ (Ne.symm h.e.2.2))
theorem CD.ext {E : Nat → Int × Int × Int} {n : Nat} {K : Nat → Nat} {A : Nat → Bool} {D D' : Nat → Nat} {cb lb db : Nat} {w wr : World} (h : CD E n K A D cb lb db w wr) (e : ∀ v, v < n → D v = D' v) : CD E n K A D' cb lb db w wr :=
  ⟨h.c, h.d.ext (fun v hv => by rw [e v hv]), h.e⟩
/-- What the document's Cores answers. -/
def Cz (E : Nat → Int × Int × Int) (m n : Nat) (w : World) (e : Ending) (w' : World) : Prop := ∃ (cb : Nat) (K : Nat → Nat), e = .returned (.slice (some ⟨cb, 0, none⟩) n n) ∧ GV w' cb 23 n (fun v => .int .u64 (K v : Int)) ∧ Ks E m n K ∧ Below w.heap.size w w' ∧ w.heap.size ≤ cb
end Wp
end Go.Proofs.YtipnlcnikpngcaaDoor
