import Derived.Test.YtcepfmeoeepjdabAyA
namespace Go.Proofs.Ytcepfmeoeepjdab
namespace Au
open Go.RowKit
set_option linter.unusedVariables false
set_option maxRecDepth 8000
/-- Do the words not fit together? -/
def unw (n v : Nat) (l f : Int) (b : Bool) : Bool := if b = true then (l != 0 || f != (v : Int)) else if l == NN then f != NN else (l == 0 || decide ((n : Int) ≤ l) || decide ((n : Int) ≤ f))
theorem unf_eq (S : Nat → Nat → Int) (n : Nat) (Q : List Nat) (v : Nat) : unf S n Q v = unw n v (S v 0) (S v 1) (decide (v ∈ Q)) := by
  unfold unf unw
  by_cases h : v ∈ Q
  · simp [h]
  · simp [h]
abbrev S61b (b : Nat) (l f : Int) (w : World) : Prop := w.cell? ⟨b, 0, none⟩ = some (.int .u64 l) ∧ w.cell? ⟨b, 1, none⟩ = some (.int .u64 f)
abbrev S61 (b : Nat) (s : Nat → Int) (w : World) : Prop := w.cell? ⟨b, 0, none⟩ = some (.int .u64 (s 0)) ∧ w.cell? ⟨b, 1, none⟩ = some (.int .u64 (s 1))
set_option maxHeartbeats 8000000 in
theorem unfit_any (n v : Nat) (s : Nat → Int) (b : Bool) (hn : n ≤ 5000) (hv : v < n) (w : World) :
    Calls Try.prog 61 #[.int .u32 (n : Int), .int .u32 (v : Int), .agg (sv s), .bool b] w fun e w' => e = .returned (.bool (unw n v (s 0) (s 1) b)) ∧ Below w.heap.size w w' := by
  obtain ⟨w0, hw0⟩ : ∃ w0, w.alloc (.cells (sv s) 57) = w0 := ⟨_, rfl⟩
  have hz : w0.heap[w.heap.size]? = some (.cells (sv s) 57 (0, 0)) := by rw [← hw0]; exact at0 _ _
  have HS : Hid (S61 w.heap.size s w0.drew) := ⟨(cell_of_row _ _ _ _ _ _ hz).trans rfl, (cell_of_row _ _ _ _ _ _ hz).trans rfl⟩
  have HB : Hid (Below w.heap.size w w0.drew) := by
    show Below _ _ _
    rw [← hw0]; exact belowD (b1 _ _ _)
  have HW0 := hide hw0
  have hvu : IntKind.u64.wrap (v : Int) = v := wu _ (by omega) (by omega)
  have hnu : IntKind.u64.wrap (n : Int) = n := wu _ (by omega) (by omega)
  obtain ⟨R, hR⟩ : ∃ R, unw n v (s 0) (s 1) b = R := ⟨_, rfl⟩
  rw [hR]
  have HR := hide hR
  obtain ⟨l, hl⟩ : ∃ l, s 0 = l := ⟨_, rfl⟩
  obtain ⟨f, hf⟩ : ∃ f, s 1 = f := ⟨_, rfl⟩
  have HSl : Hid (w0.drew.cell? ⟨w.heap.size, 0, none⟩ = some (.int .u64 l) ∧ w0.drew.cell? ⟨w.heap.size, 1, none⟩ = some (.int .u64 f)) := by
    show _ ∧ _
    rw [← hl, ← hf]; exact HS.out
  rw [hl, hf] at HR
  unfold unw at HR
  clear hz hw0 hR hl hf HS
  go_enter Try.func61, Try.ntmps61
  go_wp2_with (fail)
  rw [HW0.out]
  go_region_held3 (S61b w.heap.size l f) ((with_reducible exact HSl.out)) ((fail))
  clear HSl HW0
  cases b with
  | true =>
    cases h1 : (l != 0) with
    | true =>
      have HE : Hid (true = R) := by show _ = _; rw [← HR.out]; simp only [if_true]; rw [h1]; rfl
      clear HR
      go_wp2
      all_goals go_ret
      all_goals exact ⟨ret_bool HE.out, HB.out⟩
    | false =>
      have HE : Hid ((f != (v : Int)) = R) := by show _ = _; rw [← HR.out]; simp only [if_true]; rw [h1]; rfl
      clear HR
      go_wp2
      all_goals go_ret
      all_goals exact ⟨ret_bool HE.out, HB.out⟩
  | false =>
    cases h1 : (l == 18446744073709551615) with
    | true =>
      have HE : Hid ((f != 18446744073709551615) = R) := by show _ = _; rw [← HR.out]; simp only [Bool.false_eq_true, if_false]; rw [if_pos h1]
      clear HR
      go_wp2
      all_goals go_ret
      all_goals exact ⟨ret_bool HE.out, HB.out⟩
    | false =>
      have hR2 : (l == 0 || decide ((n : Int) ≤ l) || decide ((n : Int) ≤ f)) = R := by rw [← HR.out]; simp only [Bool.false_eq_true, if_false]; rw [if_neg (by rw [h1]; simp)]
      have HR2 := hide hR2
      clear HR hR2
      cases h2 : (l == 0) with
      | true =>
        have HE : Hid (true = R) := by show _ = _; rw [← HR2.out, h2]; rfl
        clear HR2
        go_wp2
        all_goals go_ret
        all_goals exact ⟨ret_bool HE.out, HB.out⟩
      | false =>
        cases h3 : decide ((n : Int) ≤ l) with
        | true =>
          have HE : Hid (true = R) := by show _ = _; rw [← HR2.out, h2, h3]; rfl
          have h3' : (n : Int) ≤ l := by simpa using h3
          clear HR2
          go_wp2
          all_goals go_ret
          all_goals exact ⟨ret_bool HE.out, HB.out⟩
        | false =>
          have HE : Hid (decide ((n : Int) ≤ f) = R) := by show _ = _; rw [← HR2.out, h2, h3]; rfl
          have h3' : ¬ (n : Int) ≤ l := by simpa using h3
          clear HR2
          go_wp2
          all_goals go_ret
          all_goals exact ⟨ret_bool HE.out, HB.out⟩
theorem from48 (u : Nat) (hu : u < 4294967296) (w : World) : Calls Try.prog 48 #[.int .u32 (u : Int)] w fun e w' => e = .returned (.int .u64 (u : Int)) ∧ w' = w := by
  have hcv : IntKind.u64.wrap (u : Int) = u := wu _ (by omega) (by omega)
  go_enter Try.func48, Try.ntmps48
  go_wp2
  all_goals go_ret
  all_goals exact ⟨rfl, rfl⟩
theorem from50 (u pb sg sn sc : Nat) (S : Nat → Nat → Int) (hu : u < sn) (hsn : sn ≤ 140737488351232) (w : World) (hb : Boxed w pb 23 (.slice (some ⟨sg, 0, none⟩) sn sc)) (hS : SR w sg sn S) : Calls Try.prog 50 #[.int .u32 (u : Int), .pointer (some ⟨pb, 0, none⟩)] w fun e w' => e = .returned (.int .u64 (S u 1)) ∧ w' = w := by
  have c0 := hb.cell
  have c1 := hS.c u hu 1 (by decide)
  clear hb hS
  go_enter Try.func50, Try.ntmps50
  go_wp2
  all_goals go_ret
  all_goals exact ⟨rfl, rfl⟩
end Au
end Go.Proofs.Ytcepfmeoeepjdab
