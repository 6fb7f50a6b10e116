import Derived.Test.YtcepfmeoeepjdaaAuB
namespace Go.Proofs.Ytcepfmeoeepjdaa
namespace Au
open Go.RowKit
set_option linter.unusedVariables false
/-- An edge's weight. -/
def wk (k : Int) (z : Nat) : Int := if k = 1 then 1 else wrap32 z
theorem wk_b (k : Int) (z : Nat) : -2147483648 ≤ wk k z ∧ wk k z ≤ 2147483647 := by
  unfold wk
  split
  · omega
  · unfold wrap32; omega
/-- The document's round: what stood there, P, is kept beside. -/
def rx (k : Int) (P A : Nat → Int) (e : T3) : Nat → Int := if P e.1 = 9223372036854775807 then A else if P e.1 + wk k e.2.2 < A e.2.1 then up A e.2.1 (P e.1 + wk k e.2.2) else A
def rxs (k : Int) (P A : Nat → Int) (L : List T3) : Nat → Int := L.foldl (rx k P) A
def Dd (s : Nat) (k : Int) (L : List T3) : Nat → Nat → Int
  | 0 => fun v => if v = s then 0 else 9223372036854775807
  | r + 1 => rxs k (Dd s k L r) (Dd s k L r) L
theorem rx_le (k : Int) (P A : Nat → Int) (e : T3) (v : Nat) : rx k P A e v ≤ A v := by
  unfold rx
  split
  · exact Int.le_refl _
  · split
    · by_cases h : v = e.2.1
      · subst h; rw [up_eq]; omega
      · rw [up_ne _ _ _ _ h]; exact Int.le_refl _
    · exact Int.le_refl _
theorem rxs_le (k : Int) (P : Nat → Int) (L : List T3) (v : Nat) : ∀ A, rxs k P A L v ≤ A v := by
  induction L with
  | nil => intro A; exact Int.le_refl _
  | cons e L ih => intro A; exact Int.le_trans (ih (rx k P A e)) (rx_le k P A e v)
theorem rx_edge (k : Int) (P A : Nat → Int) (e : T3) (h : P e.1 ≠ 9223372036854775807) : rx k P A e e.2.1 ≤ P e.1 + wk k e.2.2 := by
  unfold rx
  rw [if_neg h]
  split
  · rw [up_eq]; exact Int.le_refl _
  · omega
theorem rxs_edge (k : Int) (P : Nat → Int) (L : List T3) (e : T3) (he : e ∈ L) (h : P e.1 ≠ 9223372036854775807) : ∀ A, rxs k P A L e.2.1 ≤ P e.1 + wk k e.2.2 := by
  induction L with
  | nil => cases he
  | cons f L ih =>
    intro A
    rcases List.mem_cons.1 he with rfl | he
    · exact Int.le_trans (rxs_le k P L _ (rx k P A e)) (rx_edge k P A e h)
    · exact ih he (rx k P A f)
theorem rxs_from (k : Int) (P : Nat → Int) (L : List T3) (v : Nat) : ∀ A, rxs k P A L v = A v ∨ ∃ e ∈ L, e.2.1 = v ∧ P e.1 ≠ 9223372036854775807 ∧ rxs k P A L v = P e.1 + wk k e.2.2 := by
  induction L with
  | nil => intro A; exact .inl rfl
  | cons f L ih =>
    intro A
    rcases ih (rx k P A f) with h | ⟨e, he, h1, h2, h3⟩
    · have h' : rxs k P A (f :: L) v = rx k P A f v := h
      rw [h']
      by_cases h1 : P f.1 = 9223372036854775807
      · left; unfold rx; rw [if_pos h1]
      · by_cases h2 : P f.1 + wk k f.2.2 < A f.2.1
        · by_cases h3 : v = f.2.1
          · subst h3
            exact .inr ⟨f, by simp, rfl, h1, by unfold rx; rw [if_neg h1, if_pos h2, up_eq]⟩
          · left; unfold rx; rw [if_neg h1, if_pos h2, up_ne _ _ _ _ h3]
        · left; unfold rx; rw [if_neg h1, if_neg h2]
    · exact .inr ⟨e, by simp [he], h1, h2, h3⟩
theorem dd_b (s : Nat) (k : Int) (L : List T3) (r : Nat) (v : Nat) : Dd s k L r v = 9223372036854775807 ∨ (-((r : Int) * 2147483648) ≤ Dd s k L r v ∧ Dd s k L r v ≤ (r : Int) * 2147483648) := by
  induction r generalizing v with
  | zero =>
    show (if v = s then (0 : Int) else 9223372036854775807) = 9223372036854775807 ∨ _
    by_cases e : v = s
    · right
      have : Dd s k L 0 v = 0 := if_pos e
      rw [this]; simp
    · left; exact if_neg e
  | succ r ih =>
    rcases rxs_from k (Dd s k L r) L v (Dd s k L r) with h | ⟨e, _, _, h2, h3⟩
    · have h' : Dd s k L (r + 1) v = Dd s k L r v := h
      rw [h']
      rcases ih v with q | q
      · exact .inl q
      · right; push_cast; omega
    · have h' : Dd s k L (r + 1) v = Dd s k L r e.1 + wk k e.2.2 := h3
      rw [h']
      have := (ih e.1).resolve_left h2
      have := wk_b k e.2.2
      right; push_cast; omega
theorem dd_r (s : Nat) (k : Int) (L : List T3) (r : Nat) (hr : r ≤ 5000) (v : Nat) : Dd s k L r v = 9223372036854775807 ∨ (-10737418240000 ≤ Dd s k L r v ∧ Dd s k L r v ≤ 10737418240000) := by
  rcases dd_b s k L r v with h | h
  · exact .inl h
  · right; omega
theorem dd_mono (s : Nat) (k : Int) (L : List T3) (v a b : Nat) (h : a ≤ b) : Dd s k L b v ≤ Dd s k L a v := by
  induction b with
  | zero =>
    obtain rfl : a = 0 := by omega
    exact Int.le_refl _
  | succ b ih =>
    by_cases e : a = b + 1
    · subst e; exact Int.le_refl _
    · exact Int.le_trans (rxs_le k _ L v _) (ih (by omega))
/-- The program's round, in place. -/
def sx (k : Int) (D : Nat → Int) (e : T3) : Nat → Int := if D e.1 = 9223372036854775807 ∨ D e.2.1 ≤ D e.1 + wk k e.2.2 then D else if (-4611686018427387904) ≤ D e.1 + wk k e.2.2 then up D e.2.1 (D e.1 + wk k e.2.2) else D
def sc (k : Int) (D : Nat → Int) (e : T3) : Bool := !(D e.1 == 9223372036854775807) && !decide (D e.2.1 ≤ D e.1 + wk k e.2.2)
def sxs (k : Int) (D : Nat → Int) (L : List T3) : Nat → Int := L.foldl (sx k) D
def scs (k : Int) (D : Nat → Int) : List T3 → Bool
  | [] => false
  | e :: L => sc k D e || scs k (sx k D e) L
theorem sxs_app (k : Int) (D : Nat → Int) (L : List T3) (e : T3) : sxs k D (L ++ [e]) = sx k (sxs k D L) e := by simp [sxs]
theorem scs_app (k : Int) (L : List T3) (e : T3) : ∀ D, scs k D (L ++ [e]) = (scs k D L || sc k (sxs k D L) e) := by
  induction L with
  | nil => intro D; simp [scs, sxs]
  | cons f L ih => intro D; simp only [List.cons_append, scs, ih, Bool.or_assoc]; rfl
def Pd (s : Nat) (k : Int) (L : List T3) : Nat → Nat → Int
  | 0 => fun v => if v = s then 0 else 9223372036854775807
  | r + 1 => sxs k (Pd s k L r) L
theorem sx_le (k : Int) (D : Nat → Int) (e : T3) (v : Nat) : sx k D e v ≤ D v := by
  unfold sx
  split
  · exact Int.le_refl _
  · rename_i h
    split
    · by_cases c : v = e.2.1
      · subst c; rw [up_eq]; have := fun q => h (Or.inr q); omega
      · rw [up_ne _ _ _ _ c]; exact Int.le_refl _
    · exact Int.le_refl _
theorem sc_false {k : Int} {D : Nat → Int} {e : T3} : sc k D e = false ↔ (D e.1 = 9223372036854775807 ∨ D e.2.1 ≤ D e.1 + wk k e.2.2) := by
  unfold sc
  by_cases h1 : D e.1 = 9223372036854775807
  · simp [h1]
  · by_cases h2 : D e.2.1 ≤ D e.1 + wk k e.2.2 <;> simp [h1, h2]
theorem sx_same {k : Int} {D : Nat → Int} {e : T3} (h : sc k D e = false) : sx k D e = D := by
  unfold sx
  rw [if_pos (sc_false.1 h)]
theorem scs_false (k : Int) (L : List T3) : ∀ D, scs k D L = false → sxs k D L = D ∧ ∀ e ∈ L, D e.1 ≠ 9223372036854775807 → D e.2.1 ≤ D e.1 + wk k e.2.2 := by
  induction L with
  | nil => intro D _; exact ⟨rfl, fun e he => by cases he⟩
  | cons f L ih =>
    intro D h
    rw [scs, Bool.or_eq_false_iff] at h
    have hs := sx_same h.1
    rw [hs] at h
    obtain ⟨h1, h2⟩ := ih D h.2
    refine ⟨?_, fun e he hne => ?_⟩
    · show sxs k (sx k D f) L = D
      rw [hs]; exact h1
    · rcases List.mem_cons.1 he with rfl | he
      · exact (sc_false.1 h.1).resolve_left hne
      · exact h2 e he hne
/-- What stands in the program's room, and how much of it is a number. -/
def cnt (D : Nat → Int) (n : Nat) : Nat := (List.range n).countP (fun v => D v != 9223372036854775807)
theorem cnt_succ (D : Nat → Int) (n : Nat) : cnt D (n + 1) = cnt D n + (if D n = 9223372036854775807 then 0 else 1) := by
  unfold cnt
  rw [List.range_succ, List.countP_append]
  by_cases h : D n = 9223372036854775807 <;> simp [h]
theorem cnt_le (D : Nat → Int) (n : Nat) : cnt D n ≤ n := by
  induction n with
  | zero => exact Nat.le_refl _
  | succ n ih => rw [cnt_succ]; split <;> omega
theorem cnt_congr (D D' : Nat → Int) (n : Nat) (h : ∀ v, v < n → (D v = 9223372036854775807 ↔ D' v = 9223372036854775807)) : cnt D n = cnt D' n := by
  induction n with
  | zero => rfl
  | succ n ih =>
    rw [cnt_succ, cnt_succ, ih (fun v hv => h v (by omega))]
    have := h n (by omega)
    by_cases c : D n = 9223372036854775807
    · rw [if_pos c, if_pos (this.1 c)]
    · rw [if_neg c, if_neg (fun q => c (this.2 q))]
theorem cnt_new (D : Nat → Int) (y : Nat) (x : Int) (hx : x ≠ 9223372036854775807) (hy : D y = 9223372036854775807) (n : Nat) (hn : y < n) : cnt (up D y x) n = cnt D n + 1 := by
  induction n with
  | zero => omega
  | succ n ih =>
    rw [cnt_succ, cnt_succ]
    by_cases e : y = n
    · subst e
      rw [up_eq, if_neg hx, if_pos hy, cnt_congr (up D y x) D y (fun v hv => by rw [up_ne _ _ _ _ (by omega)])]
    · rw [ih (by omega), up_ne _ _ _ _ (by omega)]; omega
/-- All that stands in the room can be added to. -/
def Bd (n : Nat) (D : Nat → Int) : Prop := ∀ v, D v = 9223372036854775807 ∨ ((-4611686018427387904) ≤ D v ∧ D v ≤ (cnt D n : Int) * 2147483648)
theorem Bd.r {n : Nat} {D : Nat → Int} (h : Bd n D) (hn : n ≤ 5000) (v : Nat) : D v = 9223372036854775807 ∨ ((-4611686018427387904) ≤ D v ∧ D v ≤ 10737418240000) := by
  rcases h v with q | q
  · exact .inl q
  · have := cnt_le D n
    right; omega
theorem Bd.step {n : Nat} {D : Nat → Int} (h : Bd n D) (hn : n ≤ 5000) (k : Int) (e : T3) (h2 : e.2.1 < n) : Bd n (sx k D e) := by
  unfold sx
  split
  · exact h
  · rename_i c
    split
    · rename_i c2
      have hu : D e.1 ≠ 9223372036854775807 := fun q => c (.inl q)
      have hy : D e.1 + wk k e.2.2 < D e.2.1 := by have := fun q => c (Or.inr q); omega
      have hb := (h e.1).resolve_left hu
      have hw := wk_b k e.2.2
      have hr := (h.r hn e.1).resolve_left hu
      obtain ⟨x, hx⟩ : ∃ x, D e.1 + wk k e.2.2 = x := ⟨_, rfl⟩
      rw [hx] at hy c2 ⊢
      have hxe : x ≠ 9223372036854775807 := by omega
      by_cases hd : D e.2.1 = 9223372036854775807
      · have hc := cnt_new D e.2.1 x hxe hd n h2
        intro v
        by_cases ev : v = e.2.1
        · subst ev; rw [up_eq, hc]; right; push_cast; omega
        · rw [up_ne _ _ _ _ ev, hc]
          rcases h v with q | q
          · exact .inl q
          · right; push_cast; omega
      · have hc : cnt (up D e.2.1 x) n = cnt D n := cnt_congr _ _ n (fun v hv => by
          by_cases ev : v = e.2.1
          · subst ev; rw [up_eq]; simp [hxe, hd]
          · rw [up_ne _ _ _ _ ev])
        intro v
        by_cases ev : v = e.2.1
        · subst ev
          have := (h e.2.1).resolve_left hd
          rw [up_eq, hc]; right; omega
        · rw [up_ne _ _ _ _ ev, hc]; exact h v
    · exact h
theorem Bd.zero (n s : Nat) : Bd n (fun v => if v = s then 0 else 9223372036854775807) := fun v => by
  by_cases e : v = s
  · right; simp only [e, if_true]; omega
  · left; simp only [if_neg e]
theorem Bd.all {n : Nat} (hn : n ≤ 5000) (k : Int) (L : List T3) (hL : ∀ e ∈ L, e.1 < n ∧ e.2.1 < n) : ∀ D, Bd n D → Bd n (sxs k D L) := by
  induction L with
  | nil => intro D h; exact h
  | cons e L ih => intro D h; exact ih (fun f hf => hL f (by simp [hf])) _ (h.step hn k e (hL e (by simp)).2)
theorem pd_bd {n : Nat} (hn : n ≤ 5000) (s : Nat) (k : Int) (L : List T3) (hL : ∀ e ∈ L, e.1 < n ∧ e.2.1 < n) (r : Nat) : Bd n (Pd s k L r) := by
  induction r with
  | zero => exact Bd.zero n s
  | succ r ih => exact Bd.all hn k L hL _ ih
theorem sxs_le (k : Int) (L : List T3) (v : Nat) : ∀ D, sxs k D L v ≤ D v := by
  induction L with
  | nil => intro D; exact Int.le_refl _
  | cons e L ih => intro D; exact Int.le_trans (ih (sx k D e)) (sx_le k D e v)
theorem pd_s (s : Nat) (k : Int) (L : List T3) (r : Nat) : Pd s k L r s ≤ 0 := by
  induction r with
  | zero => show (if s = s then (0 : Int) else 9223372036854775807) ≤ 0; rw [if_pos rfl]; exact Int.le_refl _
  | succ r ih => exact Int.le_trans (sxs_le k L s _) ih
/-- A potential: no edge leads below it. -/
structure Pot (n : Nat) (k : Int) (L : List T3) (s : Nat) (p : Nat → Int) : Prop where
  e : ∀ e ∈ L, p e.1 ≠ 9223372036854775807 → p e.2.1 ≤ p e.1 + wk k e.2.2
  s : p s ≤ 0
  u : ∀ v, v < n → p v ≤ 9223372036854775807
theorem Pot.dd {n s : Nat} {k : Int} {L : List T3} {p : Nat → Int} (h : Pot n k L s p) (hn : n ≤ 5000) (hL : ∀ e ∈ L, e.1 < n ∧ e.2.1 < n) (r : Nat) (hr : r ≤ 5000) (v : Nat) (hv : v < n) : p v ≤ Dd s k L r v := by
  induction r generalizing v with
  | zero =>
    show p v ≤ (if v = s then (0 : Int) else 9223372036854775807)
    by_cases e : v = s
    · rw [if_pos e, e]; exact h.s
    · rw [if_neg e]; exact h.u v hv
  | succ r ih =>
    rcases rxs_from k (Dd s k L r) L v (Dd s k L r) with q | ⟨e, he, h1, h2, h3⟩
    · have q' : Dd s k L (r + 1) v = Dd s k L r v := q
      rw [q']; exact ih (by omega) v hv
    · have q' : Dd s k L (r + 1) v = Dd s k L r e.1 + wk k e.2.2 := h3
      rw [q']
      have hi := ih (by omega) e.1 (hL e he).1
      have hb := (dd_r s k L r (by omega) e.1).resolve_left h2
      have := h.e e he (by omega)
      rw [h1] at this
      omega
theorem Pot.sx {n s : Nat} {k : Int} {L : List T3} {p : Nat → Int} (h : Pot n k L s p) {D : Nat → Int} (e : T3) (he : e ∈ L) (h1 : e.1 < n) (hD : ∀ v, v < n → p v ≤ D v) (hU : ∀ v, v < n → D v ≤ 9223372036854775807) (v : Nat) (hv : v < n) : p v ≤ Au.sx k D e v := by
  unfold Au.sx
  split
  · exact hD v hv
  · rename_i c
    split
    · by_cases ev : v = e.2.1
      · subst ev
        rw [up_eq]
        have a := hD e.1 h1
        have b := hU e.1 h1
        have hne : D e.1 ≠ 9223372036854775807 := fun q => c (.inl q)
        have := h.e e he (by omega)
        omega
      · rw [up_ne _ _ _ _ ev]; exact hD v hv
    · exact hD v hv
/-- One round of the program's goes at least as low as one of the document's, above a potential. -/
theorem round_le {n s : Nat} {k : Int} {L0 : List T3} {p : Nat → Int} (h : Pot n k L0 s p) (hlo : ∀ v, v < n → (-4611686018427387904) ≤ p v) (P : Nat → Int) (hP : ∀ v, P v ≤ 9223372036854775807) (L : List T3) (hsub : ∀ e ∈ L, e ∈ L0) (hL : ∀ e ∈ L, e.1 < n ∧ e.2.1 < n) : ∀ (D A : Nat → Int), (∀ v, v < n → p v ≤ D v) → (∀ v, v < n → D v ≤ A v) → (∀ v, v < n → D v ≤ P v) → ∀ v, v < n → p v ≤ sxs k D L v ∧ sxs k D L v ≤ rxs k P A L v := by
  induction L with
  | nil => intro D A h1 h2 h3 v hv; exact ⟨h1 v hv, h2 v hv⟩
  | cons e L ih =>
    intro D A h1 h2 h3
    obtain ⟨e1, e2⟩ := hL e (by simp)
    have hU : ∀ v, v < n → D v ≤ 9223372036854775807 := fun v hv => Int.le_trans (h3 v hv) (hP v)
    have hp := fun v hv => h.sx e (hsub e (by simp)) e1 h1 hU v hv
    refine ih (fun f hf => hsub f (by simp [hf])) (fun f hf => hL f (by simp [hf])) (sx k D e) (rx k P A e) hp (fun v hv => ?_) (fun v hv => Int.le_trans (sx_le k D e v) (h3 v hv))
    unfold rx
    split
    · exact Int.le_trans (sx_le k D e v) (h2 v hv)
    · rename_i c1
      split
      · by_cases ev : v = e.2.1
        · subst ev
          rw [up_eq]
          have a := h3 e.1 e1
          have b := hP e.1
          have c := h1 e.1 e1
          have d := h.e e (hsub e (by simp)) (by omega)
          have l := hlo e.2.1 e2
          unfold sx
          split
          · rename_i q
            rcases q with q | q
            · omega
            · omega
          · rw [if_pos (by omega), up_eq]; omega
        · rw [up_ne _ _ _ _ ev]; exact Int.le_trans (sx_le k D e v) (h2 v hv)
      · exact Int.le_trans (sx_le k D e v) (h2 v hv)
theorem nodup_le {α : Type} [BEq α] [LawfulBEq α] : ∀ (l m : List α), l.Nodup → (∀ x, x ∈ l → x ∈ m) → l.length ≤ m.length
  | [], m, _, _ => Nat.zero_le _
  | x :: l, m, hn, h => by
    have hx : x ∈ m := h x (by simp)
    have h1 := nodup_le l (m.erase x) (List.nodup_cons.1 hn).2 (fun y hy => by
      have hne : y ≠ x := fun e => (List.nodup_cons.1 hn).1 (e ▸ hy)
      exact (List.mem_erase_of_ne hne).2 (h y (by simp [hy])))
    have h2 := List.length_erase_of_mem hx
    have h3 := List.length_pos_of_mem hx
    simp only [List.length_cons]
    omega
theorem pig (f : Nat → Nat) (k n : Nat) (h1 : ∀ i, i < k → f i < n) (h2 : ∀ i j, i < j → j < k → f i ≠ f j) : k ≤ n := by
  have := nodup_le ((List.range k).map f) (List.range n) (by
    rw [List.nodup_iff_pairwise_ne, List.pairwise_map]
    refine List.Pairwise.imp_of_mem ?_ (List.pairwise_lt_range (n := k))
    intro a b ha hb hab
    exact h2 a b hab (List.mem_range.1 hb)) (fun x hx => by
    obtain ⟨i, hi, rfl⟩ := List.mem_map.1 hx
    exact List.mem_range.2 (h1 i (List.mem_range.1 hi)))
  simpa using this
/-- What has become shorter in a round has a way that became shorter in every round before. -/
theorem chain (s : Nat) (k : Int) (L : List T3) : ∀ r v, Dd s k L (r + 1) v < Dd s k L r v → ∃ f : Nat → Nat, f (r + 1) = v ∧ ∀ i, i < r + 1 → Dd s k L (i + 1) (f (i + 1)) < Dd s k L i (f (i + 1)) ∧ ∃ e ∈ L, e.1 = f i ∧ e.2.1 = f (i + 1) ∧ Dd s k L i (f i) ≠ 9223372036854775807 ∧ Dd s k L (i + 1) (f (i + 1)) = Dd s k L i (f i) + wk k e.2.2 := by
  intro r
  induction r with
  | zero =>
    intro v h
    rcases rxs_from k (Dd s k L 0) L v (Dd s k L 0) with q | ⟨e, he, h1, h2, h3⟩
    · have : Dd s k L (0 + 1) v = Dd s k L 0 v := q
      omega
    · refine ⟨fun i => if i = 0 then e.1 else v, by simp, fun i hi => ?_⟩
      obtain rfl : i = 0 := by omega
      simp only [if_true]
      exact ⟨h, e, he, rfl, h1, h2, h3⟩
  | succ r ih =>
    intro v h
    rcases rxs_from k (Dd s k L (r + 1)) L v (Dd s k L (r + 1)) with q | ⟨e, he, h1, h2, h3⟩
    · have : Dd s k L (r + 1 + 1) v = Dd s k L (r + 1) v := q
      omega
    · have h3' : Dd s k L (r + 1 + 1) v = Dd s k L (r + 1) e.1 + wk k e.2.2 := h3
      have hx : Dd s k L (r + 1) e.1 < Dd s k L r e.1 := by
        have a := dd_mono s k L e.1 r (r + 1) (by omega)
        rcases Int.lt_or_le (Dd s k L (r + 1) e.1) (Dd s k L r e.1) with q | q
        · exact q
        · exfalso
          have e1 : Dd s k L (r + 1) e.1 = Dd s k L r e.1 := by omega
          have b := rxs_edge k (Dd s k L r) L e he (by rw [← e1]; exact h2) (Dd s k L r)
          have b' : Dd s k L (r + 1) e.2.1 ≤ Dd s k L r e.1 + wk k e.2.2 := b
          rw [h1] at b'
          omega
      obtain ⟨f, hf, hi⟩ := ih e.1 hx
      refine ⟨fun i => if i ≤ r + 1 then f i else v, if_neg (by omega), fun i hlt => ?_⟩
      simp only []
      by_cases c : i = r + 1
      · subst c
        rw [if_neg (by omega), if_pos (by omega), hf]
        exact ⟨h, e, he, rfl, h1, h2, h3'⟩
      · rw [if_pos (by omega), if_pos (by omega)]
        exact hi i (by omega)
theorem Pot.stop {n s : Nat} {k : Int} {L : List T3} {p : Nat → Int} (h : Pot n k L s p) (h0 : 0 < n) (hn : n ≤ 5000) (hL : ∀ e ∈ L, e.1 < n ∧ e.2.1 < n) (v : Nat) (hv : v < n) : Dd s k L (n - 1 + 1) v = Dd s k L (n - 1) v := by
  have hm := dd_mono s k L v (n - 1) (n - 1 + 1) (by omega)
  rcases Int.lt_or_le (Dd s k L (n - 1 + 1) v) (Dd s k L (n - 1) v) with q | q
  · exfalso
    obtain ⟨f, hf, hi⟩ := chain s k L (n - 1) v q
    have hin : ∀ i, i < n + 1 → f i < n := fun i hlt => by
      by_cases c : i = 0
      · subst c
        obtain ⟨_, e, he, h1, _⟩ := hi 0 (by omega)
        rw [← h1]; exact (hL e he).1
      · obtain ⟨_, e, he, _, h1, _⟩ := hi (i - 1) (by omega)
        rw [show i = i - 1 + 1 by omega, ← h1]; exact (hL e he).2
    have hq : ∀ i, i < n → Dd s k L i (f i) - p (f i) ≤ Dd s k L (i + 1) (f (i + 1)) - p (f (i + 1)) := fun i hlt => by
      obtain ⟨_, e, he, h1, h2, h3, h4⟩ := hi i (by omega)
      have a := h.dd hn hL i (by omega) (f i) (hin i (by omega))
      have b := (dd_r s k L i (by omega) (f i)).resolve_left h3
      have c := h.e e he (by rw [h1]; omega)
      rw [h1, h2] at c
      omega
    have hqq : ∀ i d, i + d < n + 1 → Dd s k L i (f i) - p (f i) ≤ Dd s k L (i + d) (f (i + d)) - p (f (i + d)) := fun i d => by
      induction d with
      | zero => intro _; exact Int.le_refl _
      | succ d ih => intro hlt; exact Int.le_trans (ih (by omega)) (hq (i + d) (by omega))
    have := pig f (n + 1) n hin (fun i j hij hj e => by
      have a := hqq i (j - i) (by omega)
      rw [show i + (j - i) = j by omega, ← e] at a
      obtain ⟨b, _⟩ := hi (j - 1) (by omega)
      rw [show j - 1 + 1 = j by omega, ← e] at b
      have c := dd_mono s k L (f i) i (j - 1) (by omega)
      omega)
    omega
  · omega
/-- The program's rounds come to an end just if the document's do. -/
theorem neg_iff {n s : Nat} (k : Int) {L : List T3} (h0 : 0 < n) (hn : n ≤ 5000) (hL : ∀ e ∈ L, e.1 < n ∧ e.2.1 < n) : (∃ r, r < n ∧ scs k (Pd s k L r) L = false) ↔ (∃ r, r < n ∧ ∀ v, v < n → Dd s k L (r + 1) v = Dd s k L r v) := by
  constructor
  · rintro ⟨r, hr, h⟩
    obtain ⟨h1, h2⟩ := scs_false k L _ h
    have hp : Pot n k L s (Pd s k L r) := ⟨h2, pd_s s k L r, fun v hv => by
      rcases (pd_bd hn s k L hL r).r hn v with q | q
      · rw [q]; exact Int.le_refl _
      · omega⟩
    exact ⟨n - 1, by omega, fun v hv => hp.stop h0 hn hL v hv⟩
  · rintro ⟨R, hR, h⟩
    have hd0 : ∀ v, Dd s k L R v ≤ 9223372036854775807 ∧ (-4611686018427387904) ≤ Dd s k L R v := fun v => by
      rcases dd_r s k L R (by omega) v with q | q <;> omega
    have hp : Pot n k L s (Dd s k L R) := ⟨fun e he hne => by
      have a := rxs_edge k (Dd s k L R) L e he hne (Dd s k L R)
      have a' : Dd s k L (R + 1) e.2.1 ≤ Dd s k L R e.1 + wk k e.2.2 := a
      rw [h _ (hL e he).2] at a'
      exact a', by
        have a := dd_mono s k L s 0 R (by omega)
        have b : Dd s k L 0 s = 0 := if_pos rfl
        omega, fun v _ => (hd0 v).1⟩
    have hle : ∀ r, r ≤ R → ∀ v, v < n → Dd s k L R v ≤ Pd s k L r v ∧ Pd s k L r v ≤ Dd s k L r v := fun r => by
      induction r with
      | zero =>
        intro _ v hv
        refine ⟨?_, Int.le_refl _⟩
        exact dd_mono s k L v 0 R (by omega)
      | succ r ih =>
        intro hr v hv
        have ih := ih (by omega)
        exact round_le hp (fun v hv => (hd0 v).2) (Dd s k L r) (fun v => by
          rcases dd_r s k L r (by omega) v with q | q <;> omega) L (fun e he => he) hL (Pd s k L r) (Dd s k L r) (fun v hv => (ih v hv).1) (fun v hv => (ih v hv).2) (fun v hv => (ih v hv).2) v hv
    have heq : ∀ v, v < n → Pd s k L R v = Dd s k L R v := fun v hv => by
      have := hle R (Nat.le_refl _) v hv
      omega
    refine ⟨R, hR, ?_⟩
    have all : ∀ M : List T3, (∀ e ∈ M, e ∈ L) → scs k (Pd s k L R) M = false := fun M => by
      induction M with
      | nil => intro _; rfl
      | cons e M ih =>
        intro hM
        have he := hM e (by simp)
        have hs : sc k (Pd s k L R) e = false := sc_false.2 (by
          rw [heq _ (hL e he).1, heq _ (hL e he).2]
          by_cases c : Dd s k L R e.1 = 9223372036854775807
          · exact .inl c
          · exact .inr (hp.e e he c))
        rw [scs, hs, sx_same hs, Bool.false_or]
        exact ih (fun f hf => hM f (by simp [hf]))
    exact all L (fun e he => he)
end Au
end Go.Proofs.Ytcepfmeoeepjdaa
