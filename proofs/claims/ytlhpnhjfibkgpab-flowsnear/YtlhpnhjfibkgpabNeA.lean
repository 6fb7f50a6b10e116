import Derived.Test.YtlhpnhjfibkgpabWpC
namespace Go.Proofs.Ytlhpnhjfibkgpab
namespace Wp
open Go.RowKit
set_option linter.unusedVariables false
set_option maxRecDepth 8000
/-- Levels from sources: its value. -/
abbrev bv (n : Int) (qb ql c : Nat) : Array Value := #[.int .u32 n, .slice (some ⟨qb, 0, none⟩) ql c]
set_option maxHeartbeats 1000000 in
theorem words_br (n : Int) (qb ql c : Nat) (w : World) : Calls Try.prog 68 #[.agg (bv n qb ql c)] w fun e w' => e = .returned (.int .i64 3) ∧ w' = w.alloc (.cells (bv n qb ql c) 57) := by
  go_enter Try.func68, Try.ntmps68
  go_wp2
  all_goals go_ret
  all_goals exact ⟨rfl, rfl⟩
set_option maxHeartbeats 1000000 in
theorem both_br (n : Int) (qb ql c : Nat) (w : World) : Calls Try.prog 64 #[.agg (bv n qb ql c)] w fun e w' => e = .returned (.bool false) ∧ w' = w.alloc (.cells (bv n qb ql c) 57) := by
  go_enter Try.func64, Try.ntmps64
  go_wp2
  all_goals go_ret
  all_goals exact ⟨rfl, rfl⟩
set_option maxHeartbeats 1000000 in
theorem sink_br (n : Int) (qb ql c : Nat) (w : World) : Calls Try.prog 66 #[.agg (bv n qb ql c)] w fun e w' => e = .returned (.agg (kv 2 1)) ∧ Below w.heap.size w w' := by
  go_enter Try.func66, Try.ntmps66
  go_wp2
  refine bodyPost_ret (v := .agg (kv 2 1)) ?_ rfl ⟨rfl, by repeat first | exact Below.refl _ _ | refine belowD ?_ | refine belowN ?_ _ | refine bA ?_ (by first | exact Nat.le_refl _ | (simp only [World.size_alloc]; omega)) _⟩
  simp only [results, Try.results66, asAddr]
  go_simp
/-- Sources as they lie. -/
def Sq (w : World) (qb : Nat) (Q : List Nat) : Prop := qb < w.heap.size ∧ ∀ (i q : Nat), Q[i]? = some q → w.cell? ⟨qb, i, none⟩ = some (.int .u32 (q : Int))
theorem Sq.on {w w' : World} {qb : Nat} {Q : List Nat} {B : Nat} (h : Sq w qb Q) (hb : Below B w w') (hB : qb < B) : Sq w' qb Q := ⟨Nat.lt_of_lt_of_le h.1 hb.size, fun i q hq => (hb.cell (p := ⟨qb, i, none⟩) hB).trans (h.2 i q hq)⟩
def Ix (v : Nat) (Q : List Nat) (e : Ending) : Prop := ∃ i : Int, e = .returned (.int .i64 i) ∧ decide (0 ≤ i) = decide (v ∈ Q)
set_option maxHeartbeats 4000000 in
theorem index_any (qb c : Nat) (Q : List Nat) (v : Nat) (hl : Q.length ≤ 140737488351232) (w : World) (hr : Sq w qb Q) :
    Calls Try.prog 71 #[.slice (some ⟨qb, 0, none⟩) Q.length c, .int .u32 (v : Int)] w fun e w' => Ix v Q e ∧ w' = w := by
  have HR := hide hr
  clear hr
  go_enter Try.func71, Try.ntmps71
  go_wp2_with (fail)
  go_loop [8] (fun t => ∃ i : Nat, i ≤ Q.length ∧ t = .int .i64 i ∧ Hid (¬ v ∈ Q.take i)) (fun t => Q.length - (intOf t).toNat)
  case atStart => exact ⟨0, Nat.zero_le _, rfl, (show ¬ v ∈ Q.take 0 by simp)⟩
  case round =>
    obtain ⟨i, hi, rfl, HC⟩ := hrel
    by_cases cc : i < Q.length
    · have hcc : (i : Int) < (Q.length : Int) := by omega
      obtain ⟨q, hq⟩ : ∃ q, Q[i]? = some q := ⟨Q[i], List.getElem?_eq_getElem cc⟩
      have c1 := HR.out.2 i q hq
      cases hvq : ((v : Int) == (q : Int)) with
      | true =>
        have HT : Hid (decide ((0 : Int) ≤ (i : Int)) = decide (v ∈ Q)) := by
          show _ = _
          have : v = q := by simp at hvq; omega
          subst this
          have h1 : v ∈ Q := List.mem_of_getElem? hq
          simp [h1]
        clear hq
        go_wp2
        all_goals go_ret
        all_goals exact ⟨⟨_, rfl, HT.out⟩, by first | rfl | trivial⟩
      | false =>
        have HC1 : Hid (¬ v ∈ Q.take (i + 1)) := by
          show ¬ _
          rw [List.take_add_one, hq]
          have hne : ¬ v = q := fun e => by subst e; simp at hvq
          simp only [List.mem_append, Option.toList, List.mem_singleton, not_or]
          exact ⟨HC.out, hne⟩
        clear hq
        go_wp2
        all_goals exact ⟨⟨i + 1, cc, by go_num, HC1⟩, by simp [intOf]; omega⟩
    · have hcc : ¬ (i : Int) < (Q.length : Int) := by omega
      have HT : Hid (decide ((0 : Int) ≤ (-1 : Int)) = decide (v ∈ Q)) := by
        have h1 := HC.out
        rw [show i = Q.length by omega, List.take_length] at h1
        show _ = _
        simp [h1]
      go_wp2
      all_goals go_ret
      all_goals exact ⟨⟨_, rfl, HT.out⟩, by first | rfl | trivial⟩
set_option maxHeartbeats 4000000 in
theorem contains_any (qb c : Nat) (Q : List Nat) (v : Nat) (hl : Q.length ≤ 140737488351232) (w : World) (hr : Sq w qb Q) :
    Calls Try.prog 70 #[.slice (some ⟨qb, 0, none⟩) Q.length c, .int .u32 (v : Int)] w fun e w' => e = .returned (.bool (decide (v ∈ Q))) ∧ w' = w := by
  have HI := hide (index_any qb c Q v hl w hr)
  clear hr
  go_enter Try.func70, Try.ntmps70
  go_wp2_with (fail)
  refine HI.out.mono ?_
  rintro e1 w1 ⟨⟨i, rfl, hi⟩, hw1⟩
  subst w1
  have HD := hide hi
  clear hi HI
  go_wp2
  all_goals go_ret
  all_goals exact ⟨ret_bool HD.out, rfl⟩
/-- The greatest of a list. -/
def Mx (Q : List Nat) (k m : Nat) : Prop := (∃ i, i < k ∧ Q[i]? = some m) ∧ ∀ i q, i < k → Q[i]? = some q → q ≤ m
theorem Mx.next {Q : List Nat} {k m q : Nat} (h : Mx Q k m) (hq : Q[k]? = some q) : Mx Q (k + 1) (max m q) := by
  obtain ⟨⟨i, hi, h1⟩, h2⟩ := h
  refine ⟨?_, fun j x hj hx => ?_⟩
  · rcases Nat.le_total m q with r | r
    · rw [Nat.max_eq_right r]; exact ⟨k, by omega, hq⟩
    · rw [Nat.max_eq_left r]; exact ⟨i, by omega, h1⟩
  · by_cases e : j = k
    · subst e; rw [hq] at hx; cases hx; omega
    · have := h2 j x (by omega) hx; omega
theorem Mx.all {Q : List Nat} {m n : Nat} (h : Mx Q Q.length m) : (n ≤ m) ↔ ∃ q ∈ Q, n ≤ q := by
  obtain ⟨⟨i, hi, h1⟩, h2⟩ := h
  constructor
  · intro hm; exact ⟨m, List.mem_of_getElem? h1, hm⟩
  · rintro ⟨q, hq, hn⟩
    obtain ⟨j, hj, e⟩ := List.mem_iff_getElem.1 hq
    have := h2 j q hj (by rw [List.getElem?_eq_getElem hj, e])
    omega
def MxP (Q : List Nat) (e : Ending) : Prop := ∃ m : Nat, e = .returned (.int .u32 (m : Int)) ∧ Mx Q Q.length m
set_option maxHeartbeats 4000000 in
theorem max_any (qb c : Nat) (Q : List Nat) (w : World) (hr : Sq w qb Q) (h0 : 0 < Q.length) (hl : Q.length ≤ 140737488351232) :
    Calls Try.prog 22 #[.slice (some ⟨qb, 0, none⟩) Q.length c] w fun e w' => MxP Q e ∧ w' = w := by
  obtain ⟨hx, hc⟩ := hr
  obtain ⟨e0, he0⟩ : ∃ e, Q[0]? = some e := ⟨Q[0], List.getElem?_eq_getElem h0⟩
  have hc0 := hc 0 e0 he0
  have HC : Hid (∀ (i e : Nat), Q[i]? = some e → w.cell? ⟨qb, i, none⟩ = some (.int .u32 (e : Int))) := hc
  have HE : Hid (Q[0]? = some e0) := he0
  clear hc he0
  obtain ⟨n, hn⟩ : ∃ n, Q.length = n := ⟨_, rfl⟩
  rw [hn] at h0 hl ⊢
  have HN : Hid (Q.length = n) := hn
  clear hn
  go_enter Try.func22, Try.ntmps22
  go_wp2
  go_loop [3, 4] (fun v i => ∃ (k : Nat) (m : Nat), 1 ≤ k ∧ k ≤ n ∧ i = .int .i64 k ∧ v = .int .u32 (m : Int) ∧ Hid (Mx Q k m)) (fun _ i => n - (intOf i).toNat)
  case atStart => exact ⟨1, e0, Nat.le_refl _, h0, rfl, rfl, ⟨0, by omega, HE.out⟩, fun i e hi he => by (obtain rfl : i = 0 := (by omega)); rw [HE.out] at he; cases he; exact Nat.le_refl _⟩
  case round =>
    obtain ⟨k, m, k1, k2, rfl, rfl, hm⟩ := hrel
    by_cases hlt : k < n
    · obtain ⟨e, he⟩ : ∃ e, Q[k]? = some e := ⟨Q[k]'(by rw [HN.out]; exact hlt), List.getElem?_eq_getElem _⟩
      have hck := HC.out k e he
      have HL : Hid (Mx Q (k + 1) (max m e)) := hm.out.next he
      clear he
      by_cases hle : m ≤ e
      · rw [Nat.max_eq_right hle] at HL
        go_wp2
        all_goals first | exact ⟨⟨k + 1, e, by omega, by omega, by go_num, by first | rfl | (congr 1; omega), HL⟩, by simp [intOf]; omega⟩ | exact ⟨⟨k + 1, m, by omega, by omega, by go_num, rfl, by rw [show m = e by omega]; exact HL⟩, by simp [intOf]; omega⟩ | (exfalso; omega)
      · rw [Nat.max_eq_left (by omega)] at HL
        go_wp2
        all_goals first | exact ⟨⟨k + 1, m, by omega, by omega, by go_num, by first | rfl | (congr 1; omega), HL⟩, by simp [intOf]; omega⟩ | (exfalso; omega)
    · have hkk : k = n := by omega
      subst hkk
      go_wp2
      all_goals go_ret
      all_goals exact ⟨⟨m, rfl, by rw [HN.out]; exact hm.out⟩, by first | rfl | trivial⟩
def brStart (Q : List Nat) (v : Int) : Nat → Int := if v.toNat ∈ Q then up (up (fun _ => 0) 1 v) 2 18446744073709551615 else up (up (up (fun _ => 0) 0 18446744073709551615) 1 18446744073709551615) 2 18446744073709551615
set_option maxHeartbeats 2000000 in
theorem start_br (n : Int) (qb ql c : Nat) (Q : List Nat) (hql : ql = Q.length) (hq64 : ql ≤ 64) (v a b : Int) (h0 : 0 ≤ v) (h1 : v < 4294967296) (w : World) (hc : Sq w qb Q) : Calls Try.prog 67 #[.agg (bv n qb ql c), .int .u32 v, .agg #[.int .u64 a, .int .u64 b]] w fun e w' => e = .returned (.tuple #[.agg (sv (brStart Q v)), .int .i64 0]) ∧ Below w.heap.size w w' := by
  have hv : IntKind.u64.wrap v = v := wu v h0 (by omega)
  have HX : Hid (Below w.heap.size w (((w.alloc (.cells (bv n qb ql c) 57)).alloc (.cells #[.int .u64 a, .int .u64 b] 86)).alloc (.cells z8 36))) := by repeat first | exact Below.refl _ _ | refine bA ?_ (by first | exact Nat.le_refl _ | (simp only [World.size_alloc]; omega)) _
  have hvn : ((v.toNat : Nat) : Int) = v := by omega
  have HC := hide (contains_any qb c Q v.toNat (by omega) (((w.alloc (.cells (bv n qb ql c) 57)).alloc (.cells #[.int .u64 a, .int .u64 b] 86)).alloc (.cells z8 36)) (hc.on HX.out hc.1))
  rw [hvn, ← hql] at HC
  clear hc hvn
  by_cases e : v.toNat ∈ Q
  · have hb : decide (v.toNat ∈ Q) = true := by simpa using e
    have hE2 : Hid (sv (brStart Q v) = #[.int .u64 0, .int .u64 v, .int .u64 18446744073709551615, .int .u64 0, .int .u64 0, .int .u64 0, .int .u64 0, .int .u64 0]) := by show _ = _; simp [brStart, e, up]
    rw [hb] at HC
    clear e hb hql hq64
    go_enter Try.func67, Try.ntmps67
    go_wp2_with (fail)
    refine HC.out.mono ?_
    rintro e1 w1 ⟨rfl, hw1⟩
    subst w1
    go_wp2
    all_goals (refine bodyPost_ret (v := .tuple #[.agg (sv (brStart Q v)), .int .i64 0]) ?_ rfl ⟨rfl, by repeat first | exact Below.refl _ _ | refine bA ?_ (by first | exact Nat.le_refl _ | (simp only [World.size_alloc]; omega)) _⟩)
    all_goals simp only [results, Try.results67, asAddr, hE2.out]
    all_goals go_simp
  · have hb : decide (v.toNat ∈ Q) = false := by simpa using e
    have hE2 : Hid (sv (brStart Q v) = #[.int .u64 18446744073709551615, .int .u64 18446744073709551615, .int .u64 18446744073709551615, .int .u64 0, .int .u64 0, .int .u64 0, .int .u64 0, .int .u64 0]) := by show _ = _; simp [brStart, e, up]
    rw [hb] at HC
    clear e hb hql hq64
    go_enter Try.func67, Try.ntmps67
    go_wp2_with (fail)
    refine HC.out.mono ?_
    rintro e1 w1 ⟨rfl, hw1⟩
    subst w1
    go_wp2
    all_goals (refine bodyPost_ret (v := .tuple #[.agg (sv (brStart Q v)), .int .i64 0]) ?_ rfl ⟨rfl, by repeat first | exact Below.refl _ _ | refine bA ?_ (by first | exact Nat.le_refl _ | (simp only [World.size_alloc]; omega)) _⟩)
    all_goals simp only [results, Try.results67, asAddr, hE2.out]
    all_goals go_simp
end Wp
end Go.Proofs.Ytlhpnhjfibkgpab
