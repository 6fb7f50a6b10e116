import Derived.Test.YtcolkfoodjpdjaaRlL
import Derived.Test.YtcolkfoodjpdjaaRlI
namespace Go.Proofs.Ytcolkfoodjpdjaa
namespace Rl
open Go.RowKit Ra
set_option linter.unusedVariables false
theorem Kp.below {B1 B2 : Nat} {w w' : World} (h : Kp B1 B2 w w') (hb : B1 ≤ w.heap.size) : Below B1 w w' := ⟨h.os, h.tape, h.output, h.size, fun k hk => h.block k (by omega) (.inl hk)⟩
theorem own_kp {w w' : World} {B1 B2 B e s n : Nat} {u : Value} {xs : List Value} (h : w.ownsRow B e s u n xs) (hk : Kp B1 B2 w w') (hB : B2 ≤ B) : w'.ownsRow B e s u n xs := by
  refine ⟨h.1, ?_⟩
  rcases h.2 with h2 | ⟨g, cap, cur, h3, h4, h5, h6⟩
  · exact .inl h2
  · exact .inr ⟨g, cap, cur, h3, h4, (hk.block g (Array.getElem?_eq_some_iff.1 h5).1 (.inr (by omega))).trans h5, h6⟩
theorem SL.kp {w w' : World} {B1 B2 B : Nat} {v : Value} {R : List Sc} {xs : List Value} (h : SL w B v R xs) (hk : Kp B1 B2 w w') (hB : B2 ≤ B) : SL w' B v R xs :=
  ⟨own_kp h.1 hk hB, fun i r hr => by
    obtain ⟨a, u, b, c⟩ := h.2.at' i r hr
    exact ⟨a, u, b, own_kp c hk hB⟩, h.2.far⟩
/-- A list of sections as a function. -/
def toD (R : List Sc) (i : Nat) : Dt := ⟨(R.getD i (⟨#[]⟩, [])).1, (R.getD i (⟨#[]⟩, [])).2.length, fun j => (R.getD i (⟨#[]⟩, [])).2.getD j (⟨#[]⟩, ⟨#[]⟩)⟩
theorem lr_row {w : World} {B : Nat} {u : Value} {es : List En} (h : LR w B u es) : ∃ a c, u = .slice a es.length c ∧ (a = none → c = 0) ∧ ERow w a es.length (fun j => es.getD j (⟨#[]⟩, ⟨#[]⟩)) := by
  rcases h.2 with ⟨rfl, hn⟩ | ⟨g, cap, cur, rfl, hb, hg, _⟩
  · exact ⟨none, 0, by rw [hn], fun _ => rfl, fun h => by omega⟩
  · refine ⟨_, cap, rfl, (fun e => by cases e), fun _ => ⟨⟨g, 0, none⟩, rfl, (World.ownsRow.lt h g rfl).2, fun i hi => ?_⟩⟩
    have hc := World.ownsRow.cells h (g := g) rfl
    have he : es[i]? = some (es.getD i (⟨#[]⟩, ⟨#[]⟩)) := by rw [List.getElem?_eq_getElem hi, List.getD_eq_getElem?_getD, List.getElem?_eq_getElem hi]; rfl
    obtain ⟨a, b⟩ := lc_get es i _ he
    exact ⟨hc _ _ a, hc _ _ b⟩
theorem SL.row {w : World} {B : Nat} {v : Value} {R : List Sc} {xs : List Value} (h : SL w B v R xs) : ∃ a c, v = .slice a R.length c ∧ SRow w a R.length (toD R) := by
  rcases h.1.2 with ⟨rfl, hn⟩ | ⟨g, cap, cur, rfl, hb, hg, _⟩
  · exact ⟨none, 0, by rw [hn], fun h => by omega⟩
  · refine ⟨_, cap, rfl, fun _ => ⟨⟨g, 0, none⟩, rfl, (h.1.lt g rfl).2, fun i hi => ?_⟩⟩
    have hc := h.1.cells (g := g) rfl
    have he : R[i]? = some (R.getD i (⟨#[]⟩, [])) := by rw [List.getElem?_eq_getElem hi, List.getD_eq_getElem?_getD, List.getElem?_eq_getElem hi]; rfl
    obtain ⟨a, u, b, c⟩ := h.2.at' i _ he
    obtain ⟨ua, uc, rfl, hn, hr⟩ := lr_row c
    exact ⟨hc _ _ a, ua, uc, hc _ _ b, hn, hr⟩
theorem SL.sp {w0 w : World} {B : Nat} {v : Value} {R : List Sc} {xs : List Value} (h0 : SL w0 B v R xs) (h : SL w B v R xs) (hl : ∀ r ∈ R, r.2.length ≤ 900000) : (v = .slice none 0 0) ∨ ∃ g cap, v = .slice (some ⟨g, 0, none⟩) R.length cap ∧ SP w B w0.heap.size g R.length cap 0 xs w := by
  rcases h.1.2 with ⟨rfl, hn⟩ | ⟨g, cap, cur, rfl, hb, hg, _⟩
  · exact .inl rfl
  · refine .inr ⟨g, cap, rfl, h.1, fun i hi => ?_, fun i _ hi => ?_, fun i j u u' _ _ _ _ hij ha hb => h.2.far i j u u' hij ha hb, Kp.refl _ _ _, (h0.1.lt g rfl).2⟩
    · obtain ⟨a, _⟩ := h.2.at' i R[i] (List.getElem?_eq_getElem hi)
      exact ⟨_, a⟩
    · obtain ⟨_, u, b, c⟩ := h.2.at' i R[i] (List.getElem?_eq_getElem hi)
      obtain ⟨_, u', b', c'⟩ := h0.2.at' i R[i] (List.getElem?_eq_getElem hi)
      rw [b] at b'; cases b'
      exact ⟨u, _, _, b, c, hl _ (List.getElem_mem hi), fun q hq => (World.ownsRow.lt c' q hq).2⟩
theorem s1_mem (D O : Nat → Dt) (m k : Nat) (r : Sc) (h : r ∈ s1 D O m k) : ∃ i, i < k ∧ r = sec1 D O m i := by
  induction k with
  | zero => cases h
  | succ k ih =>
    rcases List.mem_append.1 h with h1 | h1
    · obtain ⟨i, hi, e⟩ := ih h1; exact ⟨i, by omega, e⟩
    · simp at h1; exact ⟨k, by omega, h1⟩
theorem s2_mem (D O : Nat → Dt) (l j : Nat) (r : Sc) (h : r ∈ s2 D O l j) : ∃ i, i < j ∧ r = ((O i).nm, el (O i).E (O i).l) := by
  induction j with
  | zero => cases h
  | succ j ih =>
    unfold s2 at h
    split at h
    · obtain ⟨i, hi, e⟩ := ih h; exact ⟨i, by omega, e⟩
    · rcases List.mem_append.1 h with h1 | h1
      · obtain ⟨i, hi, e⟩ := ih h1; exact ⟨i, by omega, e⟩
      · simp at h1; exact ⟨j, by omega, h1⟩
theorem lay_lens (D O : Nat → Dt) (l m : Nat) (hl : cnt D l ≤ 100000) (hm : cnt O m ≤ 100000) : (layS D l O m).length ≤ 200000 ∧ ∀ r ∈ layS D l O m, r.2.length ≤ 200000 := by
  have h1 := cnt_ge D l
  have h2 := cnt_ge O m
  refine ⟨?_, fun r hr => ?_⟩
  · have := s1_len D O m l
    have := s2_len D O l m
    unfold layS
    rw [List.length_append]; omega
  · rcases List.mem_append.1 hr with h | h
    · obtain ⟨i, hi, rfl⟩ := s1_mem _ _ _ _ _ h
      have hc := cnt_at D hi
      show (match fsti (fun j => (O j).nm) m (D i).nm with | some j => layE (D i).E (D i).l (O j).E (O j).l | none => el (D i).E (D i).l).length ≤ _
      cases hf : fsti (fun j => (O j).nm) m (D i).nm with
      | none => show (el _ _).length ≤ _; rw [el_len]; omega
      | some j =>
        have hj := cnt_at O (fsti_lt hf)
        have := p1_len (D i).E (O j).E (O j).l (D i).l
        have := p2_len (D i).E (O j).E (D i).l (O j).l
        show (layE _ _ _ _).length ≤ _
        unfold layE
        rw [List.length_append]; omega
    · obtain ⟨i, hi, rfl⟩ := s2_mem _ _ _ _ _ h
      have hc := cnt_at O hi
      show (el _ _).length ≤ _
      rw [el_len]; omega
theorem toD_len {R : List Sc} (h : ∀ r ∈ R, r.2.length ≤ 200000) (i : Nat) (hi : i < R.length) : (toD R i).l ≤ 1000000 := by
  show (R.getD i (⟨#[]⟩, [])).2.length ≤ _
  rw [List.getD_eq_getElem?_getD, List.getElem?_eq_getElem hi]
  have := h _ (List.getElem_mem hi)
  show R[i].2.length ≤ _
  omega
set_option maxHeartbeats 800000 in
set_option maxRecDepth 8000 in
theorem spoil_nil (w : World) : Calls Try.prog 13 #[.slice none 0 0] w fun e w' => e = .returned (.tuple #[]) ∧ w' = w := by
  go_enter Try.func13, Try.ntmps13
  go_wp2
  go_loop [2] (fun i => i = .int .i64 0) (fun _ => 0)
  case atStart => rfl
  case round =>
    subst hrel
    go_wp2
    go_loop [4] (fun i => i = .int .i64 0) (fun _ => 0)
    case atStart => rfl
    case round =>
      subst hrel
      go_wp2
      go_returns
      exact ⟨rfl, rfl⟩
theorem spoil_any {w0 w : World} {B : Nat} {v : Value} {R : List Sc} {xs : List Value} (h0 : SL w0 B v R xs) (h : SL w B v R xs) (hR : R.length ≤ 200000 ∧ ∀ r ∈ R, r.2.length ≤ 200000) :
    Calls Try.prog 13 #[v] w fun e w' => e = .returned (.tuple #[]) ∧ Kp B w0.heap.size w w' := by
  rcases h0.sp h (fun r hr => by have := hR.2 r hr; omega) with rfl | ⟨g, cap, rfl, hS⟩
  · exact (spoil_nil w).mono fun e w' ⟨h1, h2⟩ => ⟨h1, by subst h2; exact Kp.refl _ _ _⟩
  · exact spoil_row g R.length cap B w0.heap.size xs w (by omega) hS
end Rl
end Go.Proofs.Ytcolkfoodjpdjaa
