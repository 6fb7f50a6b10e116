import Derived.Test.YtamlmjpkifnhaaaWbD
namespace Go.Proofs.Ytamlmjpkifnhaaa
namespace Wb
open Go.RowKit
set_option linter.unusedVariables false
set_option maxRecDepth 8000
/-- A run over such a graph can be spoken of. -/
noncomputable def rn (s : ByteArray) (n k p e : Int) (o : ByteArray) (a f r c y q : Int) : Bool := gr s n k p && (op o a f r c y && (decide (0 ≤ e) && (decide (e ≤ 2147483647) && wi q 1 8)))
theorem al {B : Nat} {a w : World} (h : Below B a w) (o : Obj) : Below a.heap.size a w → Below a.heap.size a (w.alloc o) := fun k => k.alloc k.size o
theorem bA {a w : World} (k : Below a.heap.size a w) (o : Obj) : Below a.heap.size a (w.alloc o) := k.alloc k.size o
theorem bR (w : World) : Below w.heap.size w w := Below.refl _ w
theorem bD {a w : World} (k : Below a.heap.size a w) : Below a.heap.size a w.drew := k.drew
set_option maxHeartbeats 8000000 in
theorem isRun_no (s : ByteArray) (hs : s.size ≤ 9223372036854775807) (n k p : Int) (b : Bool) (e u : Int) (hn0 : 0 ≤ n) (hn1 : n ≤ 4294967295) (o : ByteArray) (ho : o.size ≤ 9223372036854775807) (a f r c y q : Int) (h : rn s n k p e o a f r c y q = false) (w : World) :
    Calls Try.prog 8 #[gv s n k p b e u, ov o a f r c y, .int .i64 q] w fun e' w' => e' = .returned (.bool false) ∧ Below w.heap.size w w' := by
  have HG := isGraph_any s hs n k p b e u hn0 hn1
  have HO := isOptions_any o ho a f r c y
  have HW := isWords_any q
  have HR : Hid (rn s n k p e o a f r c y q = false) := h
  unfold rn at HR
  clear h
  cases h0 : gr s n k p
  · rw [h0] at HG
    go_enter Try.func8, Try.ntmps8
    go_wp2_with (fail)
    refine (HG _).mono ?_
    rintro e1 w1 ⟨rfl, rfl⟩
    go_wp2
    all_goals go_ret
    all_goals exact ⟨rfl, bA (bA (bA (bR _) _) _) _⟩
  rw [h0] at HG HR
  cases h1 : op o a f r c y
  · rw [h1] at HO
    go_enter Try.func8, Try.ntmps8
    go_wp2_with (fail)
    refine (HG _).mono ?_
    rintro e1 w1 ⟨rfl, rfl⟩
    go_wp2_with (fail)
    refine (HO _).mono ?_
    rintro e2 w2 ⟨rfl, rfl⟩
    go_wp2
    all_goals go_ret
    all_goals exact ⟨rfl, bA (bA (bA (bA (bR _) _) _) _) _⟩
  rw [h1] at HO HR
  by_cases h2 : 0 ≤ e
  rotate_left
  · go_enter Try.func8, Try.ntmps8
    go_wp2_with (fail)
    refine (HG _).mono ?_
    rintro e1 w1 ⟨rfl, rfl⟩
    go_wp2_with (fail)
    refine (HO _).mono ?_
    rintro e2 w2 ⟨rfl, rfl⟩
    go_wp2
    all_goals go_ret
    all_goals exact ⟨rfl, bA (bA (bA (bA (bR _) _) _) _) _⟩
  rw [decide_eq_true h2] at HR
  by_cases h3 : e ≤ 2147483647
  rotate_left
  · go_enter Try.func8, Try.ntmps8
    go_wp2_with (fail)
    refine (HG _).mono ?_
    rintro e1 w1 ⟨rfl, rfl⟩
    go_wp2_with (fail)
    refine (HO _).mono ?_
    rintro e2 w2 ⟨rfl, rfl⟩
    go_wp2
    all_goals go_ret
    all_goals exact ⟨rfl, bA (bA (bA (bA (bR _) _) _) _) _⟩
  rw [decide_eq_true h3] at HR
  have h4 : wi q 1 8 = false := HR.out
  rw [h4] at HW
  go_enter Try.func8, Try.ntmps8
  go_wp2_with (fail)
  refine (HG _).mono ?_
  rintro e1 w1 ⟨rfl, rfl⟩
  go_wp2_with (fail)
  refine (HO _).mono ?_
  rintro e2 w2 ⟨rfl, rfl⟩
  go_wp2_with (fail)
  refine (HW _).mono ?_
  rintro e3 w3 ⟨rfl, rfl⟩
  go_wp2
  all_goals go_ret
  all_goals exact ⟨rfl, bA (bA (bA (bA (bR _) _) _) _) _⟩
/-- What holds where a run can be spoken of. -/
theorem rn_yes {s : ByteArray} {n k p e : Int} {o : ByteArray} {a f r c y q : Int} (h : rn s n k p e o a f r c y q = true) : gr s n k p = true ∧ op o a f r c y = true ∧ 0 ≤ e ∧ e ≤ 2147483647 ∧ wi q 1 8 = true ∧ 1 ≤ n ∧ n ≤ 2147483647 ∧ 1 ≤ p ∧ p ≤ 512 ∧ p ≤ n ∧ 1 ≤ q ∧ q ≤ 8 ∧ 16 ≤ a ∧ a ≤ 65536 := by
  unfold rn at h
  simp only [Bool.and_eq_true, decide_eq_true_eq] at h
  obtain ⟨h0, h1, h2, h3, h4⟩ := h
  have h0' := h0; have h1' := h1; have h4' := h4
  unfold gr at h0'; unfold op wi at h1'; unfold wi at h4'
  simp only [Bool.and_eq_true, decide_eq_true_eq] at h0' h1' h4'
  exact ⟨h0, h1, h2, h3, h4, by omega, by omega, by omega, by omega, by omega, by omega, by omega, by omega, by omega⟩
set_option maxHeartbeats 8000000 in
theorem isRun_yes (s : ByteArray) (hs : s.size ≤ 9223372036854775807) (n k p : Int) (b : Bool) (e u : Int) (hn0 : 0 ≤ n) (hn1 : n ≤ 4294967295) (o : ByteArray) (ho : o.size ≤ 9223372036854775807) (a f r c y q : Int) (h : rn s n k p e o a f r c y q = true) (w : World) :
    Calls Try.prog 8 #[gv s n k p b e u, ov o a f r c y, .int .i64 q] w fun e' w' => e' = .returned (.bool true) ∧ w' = (((w.alloc (gc s n k p b e u)).alloc (oc o a f r c y)).alloc (gc s n k p b e u)).alloc (oc o a f r c y) := by
  have HG := isGraph_any s hs n k p b e u hn0 hn1
  have HO := isOptions_any o ho a f r c y
  have HW := isWords_any q
  obtain ⟨h0, h1, h2, h3, h4, _⟩ := rn_yes h
  rw [h0] at HG
  rw [h1] at HO
  rw [h4] at HW
  clear h h0 h1 h4
  go_enter Try.func8, Try.ntmps8
  go_wp2_with (fail)
  refine (HG _).mono ?_
  rintro e1 w1 ⟨rfl, rfl⟩
  go_wp2_with (fail)
  refine (HO _).mono ?_
  rintro e2 w2 ⟨rfl, rfl⟩
  go_wp2_with (fail)
  refine (HW _).mono ?_
  rintro e3 w3 ⟨rfl, rfl⟩
  go_wp2
  all_goals go_ret
  all_goals exact ⟨rfl, rfl⟩
set_option maxHeartbeats 4000000 in
theorem greatest_any (s : ByteArray) (n k p : Int) (b : Bool) (e u : Int) (h1 : 1 ≤ n) (h2 : n ≤ 2147483647) (h3 : 1 ≤ p) (h4 : p ≤ 512) (w : World) :
    Calls Try.prog 9 #[gv s n k p b e u] w fun e' w' => e' = .returned (.int .i64 ((n + p - 1) / p)) ∧ w' = w.alloc (gc s n k p b e u) := by
  have hz : (p == 0) = false := by simp; omega
  have ht : Int.tdiv (n + p - 1) p = (n + p - 1) / p := Int.tdiv_eq_ediv_of_nonneg (by omega)
  have hq0 : 0 ≤ (n + p - 1) / p := Int.ediv_nonneg (by omega) (by omega)
  have hq1 : (n + p - 1) / p ≤ n + p - 1 := Int.ediv_le_self _ (by omega)
  have hw : IntKind.i64.wrap n = n := by simp only [IntKind.wrap, IntKind.signed, IntKind.bits]; simp; omega
  have hw2 : IntKind.i64.wrap ((n + p - 1) / p) = (n + p - 1) / p := by generalize (n + p - 1) / p = z at *; simp only [IntKind.wrap, IntKind.signed, IntKind.bits]; simp; omega
  go_enter Try.func9, Try.ntmps9
  go_wp2
  all_goals go_ret
  all_goals exact ⟨rfl, rfl⟩
set_option maxHeartbeats 4000000 in
theorem rgreatest_any (s : ByteArray) (n k p : Int) (b : Bool) (e u : Int) (h1 : 1 ≤ n) (h2 : n ≤ 2147483647) (h3 : 1 ≤ p) (h4 : p ≤ 512) (w : World) :
    Calls Try.prog 12 #[gv s n k p b e u] w fun e' w' => e' = .returned (.int .i64 ((n + p - 1) / p)) ∧ w' = w.alloc (gc s n k p b e u) := by
  have hz : (p == 0) = false := by simp; omega
  have ht : Int.tdiv (n + p - 1) p = (n + p - 1) / p := Int.tdiv_eq_ediv_of_nonneg (by omega)
  have hq0 : 0 ≤ (n + p - 1) / p := Int.ediv_nonneg (by omega) (by omega)
  have hq1 : (n + p - 1) / p ≤ n + p - 1 := Int.ediv_le_self _ (by omega)
  have hw : IntKind.i64.wrap n = n := by simp only [IntKind.wrap, IntKind.signed, IntKind.bits]; simp; omega
  have hw2 : IntKind.i64.wrap ((n + p - 1) / p) = (n + p - 1) / p := by generalize (n + p - 1) / p = z at *; simp only [IntKind.wrap, IntKind.signed, IntKind.bits]; simp; omega
  go_enter Try.func12, Try.ntmps12
  go_wp2
  all_goals go_ret
  all_goals exact ⟨rfl, rfl⟩
end Wb
end Go.Proofs.Ytamlmjpkifnhaaa
