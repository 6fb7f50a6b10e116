import Derived.Test.YtcepfmeoeepjdaaAuU
import Derived.Test.YtcepfmeoeepjdaaAuT
namespace Go.Proofs.Ytcepfmeoeepjdaa
namespace Au
open Go.RowKit
set_option linter.unusedVariables false
set_option maxRecDepth 8000
/-- Which sources may be. -/
def sr (n : Nat) (Q : List Nat) : Int := if sz n ≠ 0 then sz n else if Q.length < 1 ∨ 64 < Q.length ∨ ∃ q ∈ Q, n ≤ q then 130 else 0
theorem Row1.on {w w' : World} {a : Option Addr} {Q : List Nat} {B : Nat} (h : Row1 w a Q) (hb : Below B w w') (hB : w.heap.size ≤ B) : Row1 w' a Q := fun h0 => by
  obtain ⟨x, e, hx, hc⟩ := h h0
  exact ⟨x, e, Nat.lt_of_lt_of_le hx hb.size, fun i q hq => (hb.cell (p := x.add i) (by rw [add_block]; omega)).trans (hc i q hq)⟩
/-- The greatest of a list. -/
def Mx (Q : List Nat) (k m : Nat) : Prop := (∃ i, i < k ∧ Q[i]? = some m) ∧ ∀ i q, i < k → Q[i]? = some q → q ≤ m
theorem Mx.next {Q : List Nat} {k m q : Nat} (h : Mx Q k m) (hq : Q[k]? = some q) : Mx Q (k + 1) (max m q) := by
  obtain ⟨⟨i, hi, h1⟩, h2⟩ := h
  refine ⟨?_, fun j x hj hx => ?_⟩
  · rcases Nat.le_total m q with r | r
    · rw [Nat.max_eq_right r]; exact ⟨k, by omega, hq⟩
    · rw [Nat.max_eq_left r]; exact ⟨i, by omega, h1⟩
  · by_cases e : j = k
    · subst e; rw [hq] at hx; cases hx; omega
    · have := h2 j x (by omega) hx; omega
theorem Mx.all {Q : List Nat} {m n : Nat} (h : Mx Q Q.length m) : (n ≤ m) ↔ ∃ q ∈ Q, n ≤ q := by
  obtain ⟨⟨i, hi, h1⟩, h2⟩ := h
  constructor
  · intro hm; exact ⟨m, List.mem_of_getElem? h1, hm⟩
  · rintro ⟨q, hq, hn⟩
    obtain ⟨j, hj, e⟩ := List.mem_iff_getElem.1 hq
    have := h2 j q hj (by rw [List.getElem?_eq_getElem hj, e])
    omega
def MxP (Q : List Nat) (e : Ending) : Prop := ∃ m : Nat, e = .returned (.int .u32 (m : Int)) ∧ Mx Q Q.length m
set_option maxHeartbeats 4000000 in
theorem max_any (a : Option Addr) (c : Nat) (Q : List Nat) (w : World) (hr : Row1 w a Q) (h0 : 0 < Q.length) (hl : Q.length ≤ 140737488351232) :
    Calls Try.prog 100 #[.slice a Q.length c] w fun e w' => MxP Q e ∧ w' = w := by
  obtain ⟨x, rfl, hx, hc⟩ := hr h0
  obtain ⟨e0, he0⟩ : ∃ e, Q[0]? = some e := ⟨Q[0], List.getElem?_eq_getElem h0⟩
  have hc0 := hc 0 e0 he0
  have HC : Hid (∀ (i e : Nat), Q[i]? = some e → w.cell? (x.add i) = some (.int .u32 (e : Int))) := hc
  have HE : Hid (Q[0]? = some e0) := he0
  have hz : Hid (x.add 0 = x) := by show _ = _; unfold Addr.add; cases x; simp
  clear hc he0 hr
  rw [hz.out] at hc0
  obtain ⟨n, hn⟩ : ∃ n, Q.length = n := ⟨_, rfl⟩
  rw [hn] at h0 hl ⊢
  have HN : Hid (Q.length = n) := hn
  clear hn
  go_enter Try.func100, Try.ntmps100
  go_wp2
  go_loop [3, 4] (fun v i => ∃ (k : Nat) (m : Nat), 1 ≤ k ∧ k ≤ n ∧ i = .int .i64 k ∧ v = .int .u32 (m : Int) ∧ Hid (Mx Q k m)) (fun _ i => n - (intOf i).toNat)
  case atStart => exact ⟨1, e0, Nat.le_refl _, h0, rfl, rfl, ⟨0, by omega, HE.out⟩, fun i e hi he => by (obtain rfl : i = 0 := (by omega)); rw [HE.out] at he; cases he; exact Nat.le_refl _⟩
  case round =>
    obtain ⟨k, m, k1, k2, rfl, rfl, hm⟩ := hrel
    by_cases hlt : k < n
    · obtain ⟨e, he⟩ : ∃ e, Q[k]? = some e := ⟨Q[k]'(by rw [HN.out]; exact hlt), List.getElem?_eq_getElem _⟩
      have hck := HC.out k e he
      have HL : Hid (Mx Q (k + 1) (max m e)) := hm.out.next he
      clear he
      by_cases hle : m ≤ e
      · rw [Nat.max_eq_right hle] at HL
        go_wp2
        all_goals first | exact ⟨⟨k + 1, e, by omega, by omega, by go_num, by first | rfl | (congr 1; omega), HL⟩, by simp [intOf]; omega⟩ | exact ⟨⟨k + 1, m, by omega, by omega, by go_num, rfl, by rw [show m = e by omega]; exact HL⟩, by simp [intOf]; omega⟩ | (exfalso; omega)
      · rw [Nat.max_eq_left (by omega)] at HL
        go_wp2
        all_goals first | exact ⟨⟨k + 1, m, by omega, by omega, by go_num, by first | rfl | (congr 1; omega), HL⟩, by simp [intOf]; omega⟩ | (exfalso; omega)
    · have hkk : k = n := by omega
      subst hkk
      go_wp2
      all_goals go_ret
      all_goals exact ⟨⟨m, rfl, by rw [HN.out]; exact hm.out⟩, by first | rfl | trivial⟩
set_option maxHeartbeats 8000000 in
theorem sourced_any (n : Nat) (a : Option Addr) (c : Nat) (Q : List Nat) (hn : n < 4294967296) (hl : Q.length ≤ 140737488351232) (w : World) (hr : Row1 w a Q) :
    Calls Try.prog 73 #[.int .u32 (n : Int), .slice a Q.length c] w fun e w' => e = .returned (.int .i64 (sr n Q)) ∧ w' = w := by
  have HZ := hide (sized_any n)
  unfold sr
  by_cases h1 : sz n = 0
  · rw [if_neg (by simpa using h1)]
    rw [h1] at HZ
    clear h1
    by_cases h2 : Q.length < 1
    · rw [if_pos (.inl h2)]
      have hq0 : Q = [] := List.length_eq_zero_iff.1 (by omega)
      subst hq0
      clear h2
      go_enter Try.func73, Try.ntmps73
      go_wp2_with (fail)
      refine (HZ.out _).mono ?_
      rintro e1 w1 ⟨rfl, hw1⟩
      subst w1
      go_wp2
      all_goals go_ret
      all_goals exact ⟨rfl, rfl⟩
    · have hb0 : ((Q.length : Int) == 0) = false := by rw [beq_eq_false_iff_ne]; omega
      by_cases h3 : 64 < Q.length
      · rw [if_pos (.inr (.inl h3))]
        have h3i : (64 : Int) < (Q.length : Int) := by omega
        clear h2
        go_enter Try.func73, Try.ntmps73
        go_wp2_with (fail)
        refine (HZ.out _).mono ?_
        rintro e1 w1 ⟨rfl, hw1⟩
        subst w1
        go_wp2
        all_goals go_ret
        all_goals exact ⟨rfl, rfl⟩
      · have h3i : ¬ (64 : Int) < (Q.length : Int) := by omega
        have HM := hide (max_any a c Q w hr (by omega) hl)
        obtain ⟨R, hR⟩ : ∃ R : Int, (if Q.length < 1 ∨ 64 < Q.length ∨ ∃ q ∈ Q, n ≤ q then (130 : Int) else 0) = R := ⟨_, rfl⟩
        have HR : Hid (∀ m, Mx Q Q.length m → R = if n ≤ m then 130 else 0) := fun m hm => by
          rw [← hR]
          by_cases hnm : n ≤ m
          · rw [if_pos hnm, if_pos (.inr (.inr (hm.all.1 hnm)))]
          · rw [if_neg hnm, if_neg (fun hh => by rcases hh with hh | hh | hh; exact h2 hh; exact h3 hh; exact hnm (hm.all.2 hh))]
        rw [hR]
        clear hR h2 h3
        go_enter Try.func73, Try.ntmps73
        go_wp2_with (fail)
        refine (HZ.out _).mono ?_
        rintro e1 w1 ⟨rfl, hw1⟩
        subst w1
        go_wp2_with (fail)
        refine HM.out.mono ?_
        rintro e2 w2 ⟨⟨m, rfl, hm⟩, hw2⟩
        subst w2
        have HRm := hide (HR.out m hm)
        clear hm HR HM
        by_cases hnm : n ≤ m
        · have h9 : (n : Int) ≤ (m : Int) := by omega
          rw [if_pos hnm] at HRm
          go_wp2
          all_goals go_ret
          all_goals exact ⟨ret_int HRm.out.symm, rfl⟩
        · have h9 : ¬ (n : Int) ≤ (m : Int) := by omega
          rw [if_neg hnm] at HRm
          go_wp2
          all_goals go_ret
          all_goals exact ⟨ret_int HRm.out.symm, rfl⟩
  · rw [if_pos h1]
    have hb : (sz n != 0) = true := by simpa using h1
    obtain ⟨z, hz⟩ : ∃ z, sz n = z := ⟨_, rfl⟩
    rw [hz] at hb HZ ⊢
    clear hz h1
    go_enter Try.func73, Try.ntmps73
    go_wp2_with (fail)
    refine (HZ.out _).mono ?_
    rintro e1 w1 ⟨rfl, hw1⟩
    subst w1
    go_wp2
    all_goals go_ret
    all_goals exact ⟨rfl, rfl⟩
set_option maxHeartbeats 4000000 in
theorem rfrom_any (n : Nat) (a : Option Addr) (c : Nat) (Q : List Nat) (hn : n < 4294967296) (hl : Q.length ≤ 140737488351232) (w : World) (hr : Row1 w a Q) :
    Calls Try.prog 29 #[.int .u32 (n : Int), .slice a Q.length c] w fun e w' => e = .returned (.int .i64 (sr n Q)) ∧ w' = w := by
  have HZ := hide (rsized_any n)
  have HR := hide hr
  clear hr
  unfold sr
  by_cases h1 : sz n = 0
  · rw [if_neg (by simpa using h1)]
    rw [h1] at HZ
    clear h1
    by_cases h2 : Q.length < 1
    · rw [if_pos (.inl h2)]
      have hq0 : Q = [] := List.length_eq_zero_iff.1 (by omega)
      subst hq0
      clear h2
      go_enter Try.func29, Try.ntmps29
      go_wp2_with (fail)
      refine (HZ.out _).mono ?_
      rintro e1 w1 ⟨rfl, hw1⟩
      subst w1
      go_wp2
      all_goals go_ret
      all_goals exact ⟨rfl, rfl⟩
    · have hb0 : ¬ (Q.length : Int) < 1 := by omega
      by_cases h3 : 64 < Q.length
      · rw [if_pos (.inr (.inl h3))]
        have h3i : (64 : Int) < (Q.length : Int) := by omega
        clear h2
        go_enter Try.func29, Try.ntmps29
        go_wp2_with (fail)
        refine (HZ.out _).mono ?_
        rintro e1 w1 ⟨rfl, hw1⟩
        subst w1
        go_wp2
        all_goals go_ret
        all_goals exact ⟨rfl, rfl⟩
      · have h3i : ¬ (64 : Int) < (Q.length : Int) := by omega
        obtain ⟨R, hR⟩ : ∃ R : Int, (if Q.length < 1 ∨ 64 < Q.length ∨ ∃ q ∈ Q, n ≤ q then (130 : Int) else 0) = R := ⟨_, rfl⟩
        have HR1 : Hid ((∃ q ∈ Q, n ≤ q) → 130 = R) := fun hh => by rw [← hR, if_pos (.inr (.inr hh))]
        have HR0 : Hid ((∀ q ∈ Q, ¬ n ≤ q) → 0 = R) := fun hh => by
          rw [← hR, if_neg (fun h9 => by rcases h9 with h9 | h9 | ⟨q, h9, h8⟩; exact h2 h9; exact h3 h9; exact hh q h9 h8)]
        rw [hR]
        clear hR h2 h3
        go_enter Try.func29, Try.ntmps29
        go_wp2_with (fail)
        refine (HZ.out _).mono ?_
        rintro e1 w1 ⟨rfl, hw1⟩
        subst w1
        go_wp2_with (fail)
        go_loop [6] (fun t => ∃ i : Nat, i ≤ Q.length ∧ t = .int .i64 i ∧ Hid (∀ q ∈ Q.take i, ¬ n ≤ q)) (fun t => Q.length - (intOf t).toNat)
        case atStart => exact ⟨0, Nat.zero_le _, rfl, (show ∀ q ∈ Q.take 0, ¬ n ≤ q by simp)⟩
        case round =>
          obtain ⟨i, hi, rfl, HC⟩ := hrel
          by_cases cc : i < Q.length
          · have hcc : (i : Int) < (Q.length : Int) := by omega
            obtain ⟨q, hq⟩ : ∃ q, Q[i]? = some q := ⟨Q[i], List.getElem?_eq_getElem cc⟩
            obtain ⟨x, rfl, hx, hc⟩ := HR.out (by omega)
            have c1 := hc i q hq
            clear hc
            by_cases hnq : n ≤ q
            · have HT := hide (HR1.out ⟨q, List.mem_of_getElem? hq, hnq⟩)
              have h9 : (n : Int) ≤ (q : Int) := by omega
              clear hq
              go_wp2
              all_goals go_ret
              all_goals exact ⟨ret_int HT.out, by first | rfl | trivial⟩
            · have h9 : ¬ (n : Int) ≤ (q : Int) := by omega
              have HC1 : Hid (∀ q ∈ Q.take (i + 1), ¬ n ≤ q) := fun p hp => by
                rw [List.take_add_one, hq] at hp
                rcases List.mem_append.1 hp with hp | hp
                · exact HC.out p hp
                · simp at hp; subst hp; exact hnq
              clear hq
              go_wp2
              all_goals exact ⟨⟨i + 1, cc, by go_num, HC1⟩, by simp [intOf]; omega⟩
          · have hcc : ¬ (i : Int) < (Q.length : Int) := by omega
            have HT := hide (HR0.out (fun q hq => HC.out q (by rw [show i = Q.length by omega, List.take_length]; exact hq)))
            go_wp2
            all_goals go_ret
            all_goals exact ⟨ret_int HT.out, by first | rfl | trivial⟩
  · rw [if_pos h1]
    have hb : (sz n != 0) = true := by simpa using h1
    obtain ⟨z, hz⟩ : ∃ z, sz n = z := ⟨_, rfl⟩
    rw [hz] at hb HZ ⊢
    clear hz h1
    go_enter Try.func29, Try.ntmps29
    go_wp2_with (fail)
    refine (HZ.out _).mono ?_
    rintro e1 w1 ⟨rfl, hw1⟩
    subst w1
    go_wp2
    all_goals go_ret
    all_goals exact ⟨rfl, rfl⟩
end Au
end Go.Proofs.Ytcepfmeoeepjdaa
