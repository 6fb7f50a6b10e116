import Derived.Test.YtipnlcnikpngcaaDoorScB
namespace Go.Proofs.YtipnlcnikpngcaaDoor
namespace Wp
open Go.RowKit
set_option linter.unusedVariables false
set_option maxRecDepth 8000
section
variable {E : Nat → Int × Int × Int} {m n : Nat}
/-- No news, and one that waits has k or fewer: it goes in the next round. -/
def Tight (n k : Nat) (S : Nat → Nat → Int) : Prop := (∀ v, v < n → S v 1 ≠ 1) ∧ ∃ v, v < n ∧ S v 1 = 0 ∧ S v 2 ≤ (k : Int)
/-- The turn behind a round. -/
theorem rise_K (hI : EIn n m E) (hn : n ≤ 1000) {c : Nat → Int} {S : Nat → Nat → Int} {k : Nat} (h : KInv E m n k S) (c0 : c 0 = 1) (c1 : c 1 = (k : Int)) (hw : cw S n ≠ 0) :
    ∃ k' : Nat, (coTu c (fs gK S n)).1 0 = 1 ∧ (coTu c (fs gK S n)).1 1 = (k' : Int) ∧ KInv E m n k' S ∧ ((∀ v, v < n → S v 1 ≠ 1) → Tight n k' S) := by
  obtain ⟨i0, ⟨i2, i3, i4⟩, i1⟩ := fs_K S n hn
  obtain ⟨⟨u, u1, u2, u3⟩, ul⟩ := i1 hw
  generalize fs gK S n = g at *
  have hg1 := h.left u u1 u2
  clear i1
  unfold coTu
  rw [if_neg (by omega)]
  by_cases hc : g 2 = 0 ∧ (c 1 < g 1 ∨ c 0 = 0)
  · rw [if_pos hc]
    dsimp only
    have hlt : c 1 < g 1 := by rcases hc.2 with q | q <;> omega
    have hnn := i4.1 hc.1
    refine ⟨(g 1).toNat, up_eq _ _ _, ?_, raise_K hI h (by omega) hnn (fun v hv h1 => by have := ul v hv h1; omega), fun _ => ⟨hnn, u, u1, u2, by omega⟩⟩
    show up (up c 1 (g 1)) 0 1 1 = _
    rw [up_ne _ _ _ _ (by decide), up_eq]
    omega
  · rw [if_neg hc]
    dsimp only
    refine ⟨k, up_eq _ _ _, ?_, h, fun hnn => ⟨hnn, u, u1, u2, ?_⟩⟩
    · show up c 0 1 1 = _
      rw [up_ne _ _ _ _ (by decide)]; exact c1
    · have h2 := i4.2 hnn
      have h3 : ¬ c 1 < g 1 := fun q => hc ⟨h2, Or.inl q⟩
      omega
theorem nbc_none (E : Nat → Int × Int × Int) (v : Nat) (P : Nat → Bool) (h : ∀ u, P u = false) (m : Nat) : nbc E v P m = 0 := by
  induction m with
  | zero => rfl
  | succ m ih => simp only [nbc, nb1, h, Bool.false_eq_true, and_false, if_false, ih]
/-- Behind the first round. -/
theorem one_K (hI : EIn n m E) (hm : m ≤ 1048576) (par : Nat → Bool) (v : Nat) : (rst gK E m n par 1).2 v = w5 0 0 ((nbc E v (fun _ => true) m : Nat) : Int) 0 0 := by
  have ho := outs_b E m v
  have hd := deg_all E v m
  have hnl := nbc_le E v (fun _ => true) m
  have hll := lpc_le E v m
  obtain ⟨k0, k1, k2, k3, k4⟩ := got_K (c := (rst gK E m n par 0).1) (S := (rst gK E m n par 0).2) hI hm (par 1) v rfl rfl
  have e : (rst gK E m n par 1).2 v = (coAp (rst gK E m n par 0).1 (gat gK (rst gK E m n par 0).2 (ord (par 1) (us gK (rst gK E m n par 0).1 (rst gK E m n par 0).2 E m)) v)).1 := rfl
  have c0 : (rst gK E m n par 0).1 0 = 0 := rfl
  have e1 : (rst gK E m n par 0).2 v 1 = 0 := rfl
  have e0 : (rst gK E m n par 0).2 v 0 = 0 := rfl
  have e2 : (rst gK E m n par 0).2 v 2 = IntKind.u64.wrap (outs E m v + ins E m v) := rfl
  rw [hd, wu _ (by omega) (by omega)] at e2
  have hz : nbc E v (fun u => (rst gK E m n par 0).2 u 1 == 1) m = 0 := nbc_none E v _ (fun _ => rfl) m
  rw [hz] at k3
  rw [if_pos c0] at k4
  rw [e]
  generalize gat gK (rst gK E m n par 0).2 (ord (par 1) (us gK (rst gK E m n par 0).1 (rst gK E m n par 0).2 E m)) v = g at *
  have hL : coLeft g = ((nbc E v (fun _ => true) m : Nat) : Int) := coLeft_eq g _ 0 _ _ (k2.trans e2) k3 k4 (by omega) (by omega)
  unfold coAp
  rw [k1, e1, if_pos rfl, c0, if_pos rfl, hL, k0, e0]
theorem first_K (hI : EIn n m E) (hm : m ≤ 1048576) (h0 : 1 ≤ n) (hn : n ≤ 1000) (par : Nat → Bool) :
    ∃ k : Nat, (rst gK E m n par 1).1 0 = 1 ∧ (rst gK E m n par 1).1 1 = (k : Int) ∧ KInv E m n k (rst gK E m n par 1).2 ∧ Tight n k (rst gK E m n par 1).2 ∧ cw (rst gK E m n par 1).2 n ≠ 0 := by
  have hs := one_K hI hm par (n := n)
  have ec : (rst gK E m n par 1).1 = (coTu (rst gK E m n par 0).1 (fs gK (rst gK E m n par 1).2 n)).1 := rfl
  have c0 : (rst gK E m n par 0).1 0 = 0 := rfl
  generalize (rst gK E m n par 1).2 = S at *
  generalize (rst gK E m n par 0).1 = c at *
  have s1 : ∀ v, S v 1 = 0 := fun v => by rw [hs v]; rfl
  have s2 : ∀ v, S v 2 = ((nbc E v (fun _ => true) m : Nat) : Int) := fun v => by rw [hs v]; rfl
  have hw : cw S n ≠ 0 := fun q => (cw_zero S n).1 q 0 (by omega) (s1 0)
  have hnn : ∀ v, v < n → S v 1 ≠ 1 := fun v _ q => by rw [s1 v] at q; exact absurd q (by decide)
  obtain ⟨i0, ⟨i2, i3, i4⟩, i1⟩ := fs_K S n hn
  obtain ⟨⟨u, u1, u2, u3⟩, ul⟩ := i1 hw
  have h2 := i4.2 hnn
  rw [ec]
  generalize fs gK S n = g at *
  have hg := s2 u
  clear i1
  unfold coTu
  rw [if_neg (by omega), if_pos ⟨h2, Or.inr c0⟩]
  dsimp only
  have hall : ∀ v, nbc E v (fun u => S u 1 != 2) m = nbc E v (fun _ => true) m := fun v => nbc_congr hI v (fun u _ => by rw [s1 u]; decide)
  refine ⟨(g 1).toNat, up_eq _ _ _, ?_, ⟨fun v _ => Or.inl (s1 v), fun v _ => by rw [hs v]; rfl, fun v _ => by rw [hs v]; rfl, fun v _ _ => by rw [hall, s2], fun v hv _ => ?_, fun v _ q => absurd (s1 v) q⟩, ⟨hnn, u, u1, u2, by omega⟩, hw⟩
  · show up (up c 1 (g 1)) 0 1 1 = _
    rw [up_ne _ _ _ _ (by decide), up_eq]
    omega
  · refine ⟨fun u => decide (u < n), by simp [hv], fun x hx => ?_⟩
    have hx' : x < n := by simpa using hx
    refine ⟨hx', ?_⟩
    have h3 : nbc E x (fun u => decide (u < n)) m = nbc E x (fun _ => true) m := nbc_congr hI x (fun u hu => by simp [hu])
    have h4 := ul x hx' (s1 x)
    rw [s2 x] at h4
    rw [h3]
    omega
/-- One round more. -/
theorem more_K (hI : EIn n m E) (hm : m ≤ 1048576) (hn : n ≤ 1000) (par : Nat → Bool) (r k : Nat) (c0 : (rst gK E m n par r).1 0 = 1) (c1 : (rst gK E m n par r).1 1 = (k : Int)) (h : KInv E m n k (rst gK E m n par r).2) :
    KInv E m n k (rst gK E m n par (r + 1)).2 ∧ cw (rst gK E m n par (r + 1)).2 n ≤ cw (rst gK E m n par r).2 n ∧ (Tight n k (rst gK E m n par r).2 → cw (rst gK E m n par (r + 1)).2 n < cw (rst gK E m n par r).2 n) ∧
    (cw (rst gK E m n par (r + 1)).2 n ≠ 0 → ∃ k' : Nat, (rst gK E m n par (r + 1)).1 0 = 1 ∧ (rst gK E m n par (r + 1)).1 1 = (k' : Int) ∧ KInv E m n k' (rst gK E m n par (r + 1)).2 ∧ (cw (rst gK E m n par (r + 1)).2 n = cw (rst gK E m n par r).2 n → Tight n k' (rst gK E m n par (r + 1)).2)) := by
  have e : (rst gK E m n par (r + 1)).2 = nxS gK (rst gK E m n par r).1 (rst gK E m n par r).2 E m (par (r + 1)) := rfl
  have ec : (rst gK E m n par (r + 1)).1 = (coTu (rst gK E m n par r).1 (fs gK (rst gK E m n par (r + 1)).2 n)).1 := rfl
  have hi := inv_K hI hm c0 c1 (par (r + 1)) h
  have hst := step_K hI hm c0 c1 (par (r + 1)) h
  rw [ec]
  rw [← e] at hi hst
  generalize (rst gK E m n par (r + 1)).2 = T at *
  generalize (rst gK E m n par r).1 = c at *
  generalize (rst gK E m n par r).2 = S at *
  have hmono := cw_mono S T n (fun v hv h1 => by
    refine Classical.byContradiction fun q => ?_
    rw [((hst v hv).1 q).2] at h1
    exact absurd h1 (by decide))
  refine ⟨hi, hmono.1, ?_, fun hw => ?_⟩
  · rintro ⟨t1, u, u1, u2, u3⟩
    refine hmono.2 ⟨u, u1, u2, fun q => ?_⟩
    rcases ((hst u u1).2.1 u2).2 with ⟨_, _, q1⟩ | ⟨q1, _⟩
    · rw [q1] at q; exact absurd q (by decide)
    · have h1 := h.left u u1 u2
      have h2 := nbc_congr hI u (P := fun u => S u 1 != 2) (Q := fun u => S u 1 == 0) (fun x hx => by
        rcases h.one x hx with e | e | e
        · rw [e]; decide
        · exact absurd e (t1 x hx)
        · rw [e]; decide)
      omega
  · obtain ⟨k', a1, a2, a3, a4⟩ := rise_K hI hn hi c0 c1 hw
    refine ⟨k', a1, a2, a3, fun heq => a4 (fun v hv h1 => ?_)⟩
    have h2 := hmono.2 ⟨v, hv, Classical.byContradiction fun q => ?_, by rw [h1]; decide⟩
    · omega
    · rw [((hst v hv).1 q).2] at h1
      exact absurd h1 (by decide)
theorem dn_K (hn : n ≤ 1000) (par : Nat → Bool) (r : Nat) : dn gK E m n par r = ((cw (rst gK E m n par (r + 1)).2 n : Int) == 0) := by
  show (coTu (rst gK E m n par r).1 (fs gK (rst gK E m n par (r + 1)).2 n)).2 = _
  have h := (fs_K (rst gK E m n par (r + 1)).2 n hn).1
  unfold coTu
  by_cases q : cw (rst gK E m n par (r + 1)).2 n = 0
  · rw [if_pos (by omega), q]; rfl
  · rw [if_neg (by omega)]
    simp [q]
/-- The run of Core: it ends in time, with every vertex's number. -/
theorem run_K (hI : EIn n m E) (hm : m ≤ 1048576) (h0 : 1 ≤ n) (hn : n ≤ 1000) (par : Nat → Bool) :
    ∃ R, 1 ≤ R ∧ R ≤ 2 * n + 1 ∧ (∀ r, r + 1 < R → dn gK E m n par r = false) ∧ dn gK E m n par (R - 1) = true ∧ ∀ v, v < n → ∃ j : Nat, (rst gK E m n par R).2 v 0 = (j : Int) ∧ InCore E m n j v ∧ ¬ InCore E m n (j + 1) v := by
  have key : ∀ r, (∀ q, q ≤ r → cw (rst gK E m n par (q + 1)).2 n ≠ 0) → ∃ k : Nat, (rst gK E m n par (r + 1)).1 0 = 1 ∧ (rst gK E m n par (r + 1)).1 1 = (k : Int) ∧ KInv E m n k (rst gK E m n par (r + 1)).2 ∧ ((Tight n k (rst gK E m n par (r + 1)).2 ∧ 2 * cw (rst gK E m n par (r + 1)).2 n + r ≤ 2 * n) ∨ 2 * cw (rst gK E m n par (r + 1)).2 n + 1 + r ≤ 2 * n) := by
    intro r
    induction r with
    | zero =>
      intro _
      obtain ⟨k, a1, a2, a3, a4, _⟩ := first_K hI hm h0 hn par
      have := cw_le (rst gK E m n par (0 + 1)).2 n
      exact ⟨k, a1, a2, a3, Or.inl ⟨a4, by omega⟩⟩
    | succ r ih =>
      intro hq
      obtain ⟨k, a1, a2, a3, a4⟩ := ih (fun q hqr => hq q (by omega))
      obtain ⟨b1, b2, b3, b4⟩ := more_K hI hm hn par (r + 1) k a1 a2 a3
      obtain ⟨k', d1, d2, d3, d4⟩ := b4 (hq (r + 1) (Nat.le_refl _))
      refine ⟨k', d1, d2, d3, ?_⟩
      rcases a4 with ⟨t, l⟩ | l
      · have := b3 t
        exact Or.inr (by omega)
      · by_cases heq : cw (rst gK E m n par (r + 1 + 1)).2 n = cw (rst gK E m n par (r + 1)).2 n
        · exact Or.inl ⟨d4 heq, by omega⟩
        · exact Or.inr (by omega)
  have hex : ∃ r, r ≤ 2 * n ∧ cw (rst gK E m n par (r + 1)).2 n = 0 := by
    refine Classical.byContradiction fun hc => ?_
    have hall : ∀ q, q ≤ 2 * n → cw (rst gK E m n par (q + 1)).2 n ≠ 0 := fun q hq e => hc ⟨q, hq, e⟩
    obtain ⟨k, _, _, _, h4⟩ := key (2 * n) hall
    have := hall (2 * n) (Nat.le_refl _)
    omega
  obtain ⟨r, hr, hz, hl⟩ := least_of _ _ hex
  have h1 : 1 ≤ r := by
    rcases Nat.eq_zero_or_pos r with e | e
    · subst e
      obtain ⟨_, _, _, _, _, hw⟩ := first_K hI hm h0 hn par
      exact absurd hz hw
    · exact e
  refine ⟨r + 1, by omega, by omega, fun q hq => ?_, ?_, fun v hv => ?_⟩
  · rw [dn_K hn]
    have := hl q (by omega)
    simp; omega
  · rw [dn_K hn, Nat.add_sub_cancel, hz]; rfl
  · obtain ⟨s, rfl⟩ : ∃ s, r = s + 1 := ⟨r - 1, by omega⟩
    obtain ⟨k, a1, a2, a3, _⟩ := key s (fun q hq => hl q (by omega))
    have hi := (more_K hI hm hn par (s + 1) k a1 a2 a3).1
    obtain ⟨j, j1, _, j3, j4⟩ := hi.out v hv ((cw_zero _ n).1 hz v hv)
    exact ⟨j, j1, j3, j4⟩
end
end Wp
end Go.Proofs.YtipnlcnikpngcaaDoor
