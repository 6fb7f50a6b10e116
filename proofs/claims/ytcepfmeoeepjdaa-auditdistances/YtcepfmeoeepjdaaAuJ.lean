import Derived.Test.YtcepfmeoeepjdaaAuI
namespace Go.Proofs.Ytcepfmeoeepjdaa
namespace Au
open Go.RowKit
set_option linter.unusedVariables false
set_option maxRecDepth 8000
/-- Of each vertex the least rule that is broken. -/
def Rl (P : Nat → Nat → Prop) (n : Nat) (G : Nat → Int) : Prop := ∀ v, v < n → (G v = 0 ∧ ∀ r, ¬ P v r) ∨ ∃ r : Nat, G v = r ∧ 1 ≤ r ∧ P v r ∧ ∀ r', P v r' → r ≤ r'
/-- What a note leaves. -/
def nx (G : Nat → Int) (v r : Nat) (b : Bool) : Nat → Int := if b = true ∧ (G v = 0 ∨ (r : Int) < G v) then up G v r else G
theorem Rl.note {P : Nat → Nat → Prop} {n : Nat} {G : Nat → Int} (h : Rl P n G) (v r : Nat) (b : Bool) (hr : 1 ≤ r) : Rl (fun a c => P a c ∨ (b = true ∧ a = v ∧ c = r)) n (nx G v r b) := by
  intro u hu
  unfold nx
  by_cases e : u = v
  · subst e
    cases b with
    | false =>
      rw [if_neg (by simp)]
      rcases h u hu with ⟨h1, h2⟩ | ⟨q, h1, h2, h3, h4⟩
      · exact Or.inl ⟨h1, fun r' hp => by rcases hp with hp | ⟨hf, _⟩; exact h2 r' hp; cases hf⟩
      · exact Or.inr ⟨q, h1, h2, Or.inl h3, fun r' hp => by rcases hp with hp | ⟨hf, _⟩; exact h4 r' hp; cases hf⟩
    | true =>
      rcases h u hu with ⟨h1, h2⟩ | ⟨q, h1, h2, h3, h4⟩
      · rw [if_pos ⟨rfl, Or.inl h1⟩]
        refine Or.inr ⟨r, up_eq _ _ _, hr, Or.inr ⟨rfl, rfl, rfl⟩, fun r' hp => ?_⟩
        rcases hp with hp | ⟨_, _, hp⟩
        · exact absurd hp (h2 r')
        · omega
      · by_cases hl : r < q
        · rw [if_pos ⟨rfl, Or.inr (by omega)⟩]
          refine Or.inr ⟨r, up_eq _ _ _, hr, Or.inr ⟨rfl, rfl, rfl⟩, fun r' hp => ?_⟩
          rcases hp with hp | ⟨_, _, hp⟩
          · have := h4 r' hp; omega
          · omega
        · rw [if_neg (by intro hh; rcases hh.2 with hh | hh <;> omega)]
          refine Or.inr ⟨q, h1, h2, Or.inl h3, fun r' hp => ?_⟩
          rcases hp with hp | ⟨_, _, hp⟩
          · exact h4 r' hp
          · omega
  · have hg : (if b = true ∧ (G v = 0 ∨ (r : Int) < G v) then up G v r else G) u = G u := by split; exact up_ne _ _ _ _ e; rfl
    rw [hg]
    rcases h u hu with ⟨h1, h2⟩ | ⟨q, h1, h2, h3, h4⟩
    · exact Or.inl ⟨h1, fun r' hp => by rcases hp with hp | ⟨_, hf, _⟩; exact h2 r' hp; exact e hf⟩
    · exact Or.inr ⟨q, h1, h2, Or.inl h3, fun r' hp => by rcases hp with hp | ⟨_, hf, _⟩; exact h4 r' hp; exact absurd hf e⟩
theorem Rl.ext {P Q : Nat → Nat → Prop} {n : Nat} {G : Nat → Int} (h : Rl P n G) (e : ∀ v r, v < n → (P v r ↔ Q v r)) : Rl Q n G := fun v hv => by
  rcases h v hv with ⟨h1, h2⟩ | ⟨q, h1, h2, h3, h4⟩
  · exact Or.inl ⟨h1, fun r hp => h2 r ((e v r hv).2 hp)⟩
  · exact Or.inr ⟨q, h1, h2, (e v q hv).1 h3, fun r hp => h4 r ((e v r hv).2 hp)⟩
theorem Rl.zero (n : Nat) : Rl (fun _ _ => False) n (fun _ => 0) := fun v hv => Or.inl ⟨rfl, fun _ h => h⟩
/-- The first of them is the least of all. -/
theorem Rl.some {P : Nat → Nat → Prop} {n : Nat} {G : Nat → Int} (h : Rl P n G) (k : Nat) (hk : k < n) (h0 : G k ≠ 0) (hl : ∀ v, v < k → G v = 0) (hP : ∀ v r, P v r → v < n) : ∃ r : Nat, G k = r ∧ Lm P (some (k, r)) := by
  rcases h k hk with ⟨h1, _⟩ | ⟨q, h1, h2, h3, h4⟩
  · exact absurd h1 h0
  · refine ⟨q, h1, h3, fun v r hp => ?_⟩
    rcases Nat.lt_trichotomy v k with e | e | e
    · exfalso
      rcases h v (hP v r hp) with ⟨_, g2⟩ | ⟨q', g1, g2, _⟩
      · exact g2 r hp
      · have := hl v e; omega
    · subst e; exact Or.inr ⟨rfl, h4 r hp⟩
    · exact Or.inl e
theorem Rl.none {P : Nat → Nat → Prop} {n : Nat} {G : Nat → Int} (h : Rl P n G) (hl : ∀ v, v < n → G v = 0) (hP : ∀ v r, P v r → v < n) : Lm P none := fun v r hp => by
  rcases h v (hP v r hp) with ⟨_, g2⟩ | ⟨q', g1, g2, _⟩
  · exact g2 r hp
  · have := hl v (hP v r hp); omega
set_option maxHeartbeats 4000000 in
theorem fnote_any (b n v r : Nat) (β : Bool) (G : Nat → Int) (hv : v < n) (hn : n ≤ 5000) (w : World) (h : GI w b n G) :
    Calls Try.prog 52 #[.agg #[.slice (some ⟨b, 0, none⟩) n n], .int .i64 (v : Int), .int .i64 (r : Int), .bool β] w fun e w' => (∃ x, e = .returned x) ∧ GI w' b n (nx G v r β) ∧ Ch (fun k => k = b) w w' := by
  have hc := h.cell v hv
  have hf := h.fz v
  have hlt := h.lt
  have hvn : (v : Int) < (n : Int) := by omega
  have HA : Hid (∀ C : Array Value, GI (w.alloc (.cells C 85)) b n G ∧ Ch (fun k => k = b) w (w.alloc (.cells C 85))) := fun C => ⟨h.on (X := fun _ => False) (Ch.of (b1 _ _ _)) (fun h => h), Ch.of (b1 _ _ _)⟩
  have HH : Hid (∀ C : Array Value, GI ((w.setCell ⟨b, v, none⟩ (.int .i64 (r : Int))).alloc (.cells C 85)) b n (up G v r) ∧ Ch (fun k => k = b) w ((w.setCell ⟨b, v, none⟩ (.int .i64 (r : Int))).alloc (.cells C 85))) := fun C =>
    ⟨(h.set v r).on (X := fun _ => False) (Ch.of (b1 _ _ _)) (fun h => h), ((Ch.refl (fun k => k = b) w).set _ _ (Or.inl rfl)).alloc _⟩
  clear h
  unfold nx
  cases β with
  | false =>
    rw [if_neg (by simp)]
    go_enter Try.func52, Try.ntmps52
    go_wp2
    go_end0
    exact ⟨⟨_, rfl⟩, HA.out _⟩
  | true =>
    by_cases h1 : G v = 0
    · rw [if_pos ⟨rfl, Or.inl h1⟩]
      have hb : (G v == 0) = true := by simp [h1]
      clear h1
      go_enter Try.func52, Try.ntmps52
      go_wp2
      go_end0
      exact ⟨⟨_, rfl⟩, HH.out _⟩
    · have hb : (G v == 0) = false := by simp [h1]
      by_cases h2 : (r : Int) < G v
      · rw [if_pos ⟨rfl, Or.inr h2⟩]
        clear h1
        go_enter Try.func52, Try.ntmps52
        go_wp2
        go_end0
        exact ⟨⟨_, rfl⟩, HH.out _⟩
      · rw [if_neg (by intro hh; exact hh.2.elim h1 h2)]
        clear h1
        go_enter Try.func52, Try.ntmps52
        go_wp2
        go_end0
        exact ⟨⟨_, rfl⟩, HA.out _⟩
set_option maxHeartbeats 4000000 in
theorem verdict_any (b n : Nat) (G : Nat → Int) (P : Nat → Nat → Prop) (hn : n ≤ 5000) (hR : Rl P n G) (hP : ∀ v r, P v r → v < n) (w : World) (h : GI w b n G) :
    Calls Try.prog 53 #[.agg #[.slice (some ⟨b, 0, none⟩) n n]] w fun e w' => ∃ o, e = .returned (.agg #[.bool (vR o), .int .u32 (vV o), .int .i64 (vK o)]) ∧ Lm P o ∧ Below w.heap.size w w' := by
  have HG := hide h
  have hlt := h.lt
  have HRl := hide hR
  have HPl := hide hP
  clear h hR hP
  have HB : Hid (∀ C C' : Array Value, Below w.heap.size w ((w.alloc (.cells C 85)).alloc (.cells C' 35))) := fun C C' => bA (b1 _ _ _) (by simp) _
  go_enter Try.func53, Try.ntmps53
  go_wp2_with (fail)
  go_loopw [3] (fun t wr => ∃ k : Nat, k ≤ n ∧ t = .int .i64 k ∧ Hid (∀ v, v < k → G v = 0) ∧ wr = (w.alloc (.cells #[.slice (some ⟨b, 0, none⟩) n n] 85)).alloc (.cells z3 35)) (fun t _ => n - (intOf t).toNat)
  case atStart => exact ⟨0, Nat.zero_le _, rfl, fun v hv => by omega, rfl⟩
  case round =>
    obtain ⟨k, hk, rfl, HZ, rfl⟩ := hrel
    by_cases cc : k < n
    · have hcc : (k : Int) < (n : Int) := by omega
      have hc := HG.out.cell k cc
      by_cases h0 : G k = 0
      · have hb : (G k != 0) = false := by simp [h0]
        have HZ1 : Hid (∀ v, v < k + 1 → G v = 0) := fun v hv => by
          by_cases e : v = k
          · rw [e]; exact h0
          · exact HZ.out v (by omega)
        clear h0
        go_wp2
        exact ⟨⟨k + 1, cc, by go_num, HZ1, by first | trivial | rfl⟩, by simp [intOf]; omega⟩
      · have hb : (G k != 0) = true := by simp [h0]
        obtain ⟨r, hr, hL⟩ := HRl.out.some k cc h0 HZ.out HPl.out
        have HL := hide hL
        rw [hr] at hc hb
        have hku : IntKind.u32.wrap (k : Int) = k := uw _ (by omega) (by omega)
        clear h0 hr hL
        go_wp2
        all_goals (refine bodyPost_ret (v := .agg #[.bool false, .int .u32 (k : Int), .int .i64 (r : Int)]) ?_ rfl ?_)
        all_goals first | (simp [results, Try.f53, go_sem]; done) | exact ⟨some (k, r), rfl, HL.out, HB.out _ _⟩
    · have hcc : ¬ (k : Int) < (n : Int) := by omega
      have hkn : n = k := by omega
      subst hkn
      have HL := hide (HRl.out.none HZ.out HPl.out)
      go_wp2
      all_goals (refine bodyPost_ret (v := .agg #[.bool true, .int .u32 0, .int .i64 0]) ?_ rfl ?_)
      all_goals first | (simp [results, Try.f53, go_sem]; done) | exact ⟨none, rfl, HL.out, HB.out _ _⟩
end Au
end Go.Proofs.Ytcepfmeoeepjdaa
