import Derived.Test.YtcepfmeoeepjdaaAuR
namespace Go.Proofs.Ytcepfmeoeepjdaa
namespace Au
open Go.RowKit
set_option linter.unusedVariables false
set_option maxRecDepth 8000
theorem SR.mono {w : World} {b n m : Nat} {S T : Nat → Nat → Int} (h : SR w b n S) (hm : m ≤ n) (e : ∀ v, v < m → S v = T v) : SR w b m T := by
  obtain ⟨C, a, b⟩ := h
  exact ⟨C, a, fun v hv i hi => by rw [← e v hv]; exact b v (by omega) i hi⟩
theorem mk_self (n : Nat) (S : Nat → Nat → Int) (v : Nat) (hv : v < n) : mk n n S v = S v := by unfold mk; rw [if_pos hv, if_pos hv]
theorem AL.one {n : Nat} {L : List T3} {S : Nat → Nat → Int} {o o' : Vd} (h : AL n L S o) (h' : AL n L S o') : o = o' := by
  obtain ⟨U, ro, a, b⟩ := h
  obtain ⟨U', ro', a', b'⟩ := h'
  refine b.one (b'.ext (fun v r => ?_))
  constructor
  · rintro ⟨p, q, x⟩; exact ⟨p, q, by rw [a.one a' v q]; exact x⟩
  · rintro ⟨p, q, x⟩; exact ⟨p, q, by rw [← a.one a' v q]; exact x⟩
/-- What is told does not hang on the call. -/
theorem one_of {P : Vd → Prop} (D : Int) (h1 : ∀ o o', P o → P o' → o = o') : ∃ o, ∀ E o', E = D → (E = 0 → P o') → vx E o' = vx D o ∧ (E = 0 → P o) := by
  by_cases h : ∃ o, P o
  · obtain ⟨o, ho⟩ := h
    refine ⟨o, fun E o' hE hp => ⟨?_, fun _ => ho⟩⟩
    subst hE
    by_cases h0 : E = 0
    · rw [h1 _ _ (hp h0) ho]
    · unfold vx; rw [if_neg h0, if_neg h0]
  · refine ⟨none, fun E o' hE hp => ⟨?_, fun h0 => absurd ⟨_, hp h0⟩ h⟩⟩
    subst hE
    by_cases h0 : E = 0
    · exact absurd ⟨_, hp h0⟩ h
    · unfold vx; rw [if_neg h0, if_neg h0]
theorem fa_good {n : Nat} {kd : Int} {L : List T3} {f : Int} (hf : 0 ≤ f) (h : fa n kd L f = 0) : ∀ e ∈ L, e.1 < n ∧ e.2.1 < n := by
  induction L with
  | nil => intro e he; cases he
  | cons x L ih =>
    unfold fa at h
    by_cases hb : bad n kd x = 0
    · rw [if_pos hb] at h
      intro e he
      rcases List.mem_cons.1 he with k | k
      · rw [k]; obtain ⟨a, b, _⟩ := bad_ok hb; exact ⟨a, b⟩
      · exact ih h e k
    · rw [if_neg hb] at h; exact absurd h hb
end Au
end Go.Proofs.Ytcepfmeoeepjdaa
