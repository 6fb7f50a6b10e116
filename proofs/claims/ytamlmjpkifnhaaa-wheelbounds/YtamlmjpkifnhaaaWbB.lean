import Derived.Test.YtamlmjpkifnhaaaWbA
namespace Go.Proofs.Ytamlmjpkifnhaaa
namespace Wb
open Go.RowKit
set_option linter.unusedVariables false
set_option maxRecDepth 8000
abbrev gv (s : ByteArray) (n k p : Int) (b : Bool) (e u : Int) : Value := .agg #[.string s, .int .u32 n, .int .i64 k, .int .i64 p, .bool b, .int .i64 e, .int .u32 u]
abbrev ov (s : ByteArray) (a f r c y : Int) : Value := .agg #[.string s, .int .i64 a, .int .i64 f, .int .i64 r, .int .i64 c, .int .i64 y]
abbrev gc (s : ByteArray) (n k p : Int) (b : Bool) (e u : Int) : Obj := .cells #[.string s, .int .u32 n, .int .i64 k, .int .i64 p, .bool b, .int .i64 e, .int .u32 u] 25
abbrev oc (s : ByteArray) (a f r c y : Int) : Obj := .cells #[.string s, .int .i64 a, .int .i64 f, .int .i64 r, .int .i64 c, .int .i64 y] 27
def wi (n l m : Int) : Bool := decide (l ≤ n) && decide (n ≤ m)
/-- A graph may be so. -/
noncomputable def gr (s : ByteArray) (n k p : Int) : Bool := nm s && (decide (1 ≤ n) && (decide (n ≤ 2147483647) && (decide (1 ≤ k) && (decide (k ≤ 3) && (decide (1 ≤ p) && (decide (p ≤ 512) && decide (p ≤ n)))))))
/-- Options may be so. -/
noncomputable def op (s : ByteArray) (a f r c y : Int) : Bool := nm s && (wi a 16 65536 && (wi f 2 256 && (wi r 1 16 && (wi c 1 1048576 && wi y 0 1048576))))

set_option maxHeartbeats 1000000 in
theorem within_any (n l m : Int) (w : World) : Calls Try.prog 19 #[.int .i64 n, .int .i64 l, .int .i64 m] w fun e w' => e = .returned (.bool (wi n l m)) ∧ w' = w := by
  by_cases h : l ≤ n
  · go_enter Try.func19, Try.ntmps19
    go_wp2
    all_goals go_ret
    all_goals exact ⟨ret_bool (by simp [wi, h]), rfl⟩
  · go_enter Try.func19, Try.ntmps19
    go_wp2
    all_goals go_ret
    all_goals exact ⟨ret_bool (by simp [wi]; omega), rfl⟩
set_option maxHeartbeats 1000000 in
theorem isBatch_any (n : Int) (w : World) : Calls Try.prog 20 #[.int .i64 n] w fun e w' => e = .returned (.bool (wi n 16 65536)) ∧ w' = w := by
  go_enter Try.func20, Try.ntmps20
  go_wp2_with (fail)
  refine (within_any _ _ _ _).mono ?_
  rintro e1 w1 ⟨rfl, rfl⟩
  go_wp2
  go_ret
  exact ⟨rfl, rfl⟩
set_option maxHeartbeats 1000000 in
theorem isFan_any (n : Int) (w : World) : Calls Try.prog 21 #[.int .i64 n] w fun e w' => e = .returned (.bool (wi n 2 256)) ∧ w' = w := by
  go_enter Try.func21, Try.ntmps21
  go_wp2_with (fail)
  refine (within_any _ _ _ _).mono ?_
  rintro e1 w1 ⟨rfl, rfl⟩
  go_wp2
  go_ret
  exact ⟨rfl, rfl⟩
set_option maxHeartbeats 1000000 in
theorem isWorkers_any (n : Int) (w : World) : Calls Try.prog 22 #[.int .i64 n] w fun e w' => e = .returned (.bool (wi n 1 16)) ∧ w' = w := by
  go_enter Try.func22, Try.ntmps22
  go_wp2_with (fail)
  refine (within_any _ _ _ _).mono ?_
  rintro e1 w1 ⟨rfl, rfl⟩
  go_wp2
  go_ret
  exact ⟨rfl, rfl⟩
set_option maxHeartbeats 1000000 in
theorem isCap_any (n : Int) (w : World) : Calls Try.prog 23 #[.int .i64 n] w fun e w' => e = .returned (.bool (wi n 1 1048576)) ∧ w' = w := by
  go_enter Try.func23, Try.ntmps23
  go_wp2_with (fail)
  refine (within_any _ _ _ _).mono ?_
  rintro e1 w1 ⟨rfl, rfl⟩
  go_wp2
  go_ret
  exact ⟨rfl, rfl⟩
set_option maxHeartbeats 1000000 in
theorem isWords_any (n : Int) (w : World) : Calls Try.prog 15 #[.int .i64 n] w fun e w' => e = .returned (.bool (wi n 1 8)) ∧ w' = w := by
  go_enter Try.func15, Try.ntmps15
  go_wp2_with (fail)
  refine (within_any _ _ _ _).mono ?_
  rintro e1 w1 ⟨rfl, rfl⟩
  go_wp2
  go_ret
  exact ⟨rfl, rfl⟩
theorem f_of {a : Bool} (h : ¬ a = false) : a = true := by cases a <;> simp_all
set_option maxHeartbeats 4000000 in
theorem isGraph_any (s : ByteArray) (hs : s.size ≤ 9223372036854775807) (n k p : Int) (b : Bool) (e u : Int) (hn0 : 0 ≤ n) (hn1 : n ≤ 4294967295) (w : World) : Calls Try.prog 13 #[gv s n k p b e u] w fun e' w' => e' = .returned (.bool (gr s n k p)) ∧ w' = w.alloc (gc s n k p b e u) := by
  have HN := isName_any s hs
  have HX := within_any
  have HR : Hid (gr s n k p = (nm s && (decide (1 ≤ n) && (decide (n ≤ 2147483647) && (decide (1 ≤ k) && (decide (k ≤ 3) && wi p 1 (min n 512)))))) ) := by
    show _ = _; unfold gr wi
    have : decide (p ≤ min n 512) = (decide (p ≤ 512) && decide (p ≤ n)) := by rw [← Bool.decide_and]; exact decide_eq_decide.2 (by omega)
    rw [this]
  cases hb : nm s
  · rw [hb] at HN HR
    go_enter Try.func13, Try.ntmps13
    go_wp2_with (fail)
    refine (HN _).mono ?_
    rintro e1 w1 ⟨rfl, rfl⟩
    go_wp2
    all_goals go_ret
    all_goals exact ⟨ret_bool (by rw [HR.out]; rfl), rfl⟩
  rw [hb] at HN HR
  by_cases h1 : 1 ≤ n
  rotate_left
  · rw [decide_eq_false h1] at HR
    go_enter Try.func13, Try.ntmps13
    go_wp2_with (fail)
    refine (HN _).mono ?_
    rintro e1 w1 ⟨rfl, rfl⟩
    go_wp2
    all_goals go_ret
    all_goals exact ⟨ret_bool (by rw [HR.out]; rfl), rfl⟩
  by_cases h2 : n ≤ 2147483647
  rotate_left
  · rw [decide_eq_true h1, decide_eq_false h2] at HR
    go_enter Try.func13, Try.ntmps13
    go_wp2_with (fail)
    refine (HN _).mono ?_
    rintro e1 w1 ⟨rfl, rfl⟩
    go_wp2
    all_goals go_ret
    all_goals exact ⟨ret_bool (by rw [HR.out]; rfl), rfl⟩
  by_cases h3 : 1 ≤ k
  rotate_left
  · rw [decide_eq_true h1, decide_eq_true h2, decide_eq_false h3] at HR
    go_enter Try.func13, Try.ntmps13
    go_wp2_with (fail)
    refine (HN _).mono ?_
    rintro e1 w1 ⟨rfl, rfl⟩
    go_wp2
    all_goals go_ret
    all_goals exact ⟨ret_bool (by rw [HR.out]; rfl), rfl⟩
  by_cases h4 : k ≤ 3
  rotate_left
  · rw [decide_eq_true h1, decide_eq_true h2, decide_eq_true h3, decide_eq_false h4] at HR
    go_enter Try.func13, Try.ntmps13
    go_wp2_with (fail)
    refine (HN _).mono ?_
    rintro e1 w1 ⟨rfl, rfl⟩
    go_wp2
    all_goals go_ret
    all_goals exact ⟨ret_bool (by rw [HR.out]; rfl), rfl⟩
  have hw : IntKind.i64.wrap n = n := by simp only [IntKind.wrap, IntKind.signed, IntKind.bits]; simp; omega
  rw [decide_eq_true h1, decide_eq_true h2, decide_eq_true h3, decide_eq_true h4] at HR
  by_cases hm : n ≤ 512
  · have hmin : min n 512 = n := by omega
    rw [hmin] at HR
    go_enter Try.func13, Try.ntmps13
    go_wp2_with (fail)
    refine (HN _).mono ?_
    rintro e1 w1 ⟨rfl, rfl⟩
    go_wp2_with (fail)
    refine (HX p 1 n _).mono ?_
    rintro e2 w2 ⟨rfl, rfl⟩
    go_wp2
    all_goals go_ret
    all_goals exact ⟨ret_bool (by rw [HR.out]; rfl), rfl⟩
  · have hmin : min n 512 = 512 := by omega
    rw [hmin] at HR
    go_enter Try.func13, Try.ntmps13
    go_wp2_with (fail)
    refine (HN _).mono ?_
    rintro e1 w1 ⟨rfl, rfl⟩
    go_wp2_with (fail)
    refine (HX p 1 512 _).mono ?_
    rintro e2 w2 ⟨rfl, rfl⟩
    go_wp2
    all_goals go_ret
    all_goals exact ⟨ret_bool (by rw [HR.out]; rfl), rfl⟩
set_option maxHeartbeats 4000000 in
theorem isOptions_any (s : ByteArray) (hs : s.size ≤ 9223372036854775807) (a f r c y : Int) (w : World) : Calls Try.prog 14 #[ov s a f r c y] w fun e' w' => e' = .returned (.bool (op s a f r c y)) ∧ w' = w.alloc (oc s a f r c y) := by
  have HN := isName_any s hs
  have HA := isBatch_any a
  have HF := isFan_any f
  have HW := isWorkers_any r
  have HC := isCap_any c
  have HY := within_any y 0 1048576
  have HR : Hid (op s a f r c y = (nm s && (wi a 16 65536 && (wi f 2 256 && (wi r 1 16 && (wi c 1 1048576 && wi y 0 1048576)))))) := rfl
  cases h0 : nm s
  · rw [h0] at HN HR
    go_enter Try.func14, Try.ntmps14
    go_wp2_with (fail)
    refine (HN _).mono ?_
    rintro e0 w0 ⟨rfl, rfl⟩
    go_wp2
    all_goals go_ret
    all_goals exact ⟨ret_bool (by rw [HR.out]; rfl), rfl⟩
  rw [h0] at HN HR
  cases h1 : wi a 16 65536
  · rw [h1] at HA HR
    go_enter Try.func14, Try.ntmps14
    go_wp2_with (fail)
    refine (HN _).mono ?_
    rintro e0 w0 ⟨rfl, rfl⟩
    go_wp2_with (fail)
    refine (HA _).mono ?_
    rintro e1 w1 ⟨rfl, rfl⟩
    go_wp2
    all_goals go_ret
    all_goals exact ⟨ret_bool (by rw [HR.out]; rfl), rfl⟩
  rw [h1] at HA HR
  cases h2 : wi f 2 256
  · rw [h2] at HF HR
    go_enter Try.func14, Try.ntmps14
    go_wp2_with (fail)
    refine (HN _).mono ?_
    rintro e0 w0 ⟨rfl, rfl⟩
    go_wp2_with (fail)
    refine (HA _).mono ?_
    rintro e1 w1 ⟨rfl, rfl⟩
    go_wp2_with (fail)
    refine (HF _).mono ?_
    rintro e2 w2 ⟨rfl, rfl⟩
    go_wp2
    all_goals go_ret
    all_goals exact ⟨ret_bool (by rw [HR.out]; rfl), rfl⟩
  rw [h2] at HF HR
  cases h3 : wi r 1 16
  · rw [h3] at HW HR
    go_enter Try.func14, Try.ntmps14
    go_wp2_with (fail)
    refine (HN _).mono ?_
    rintro e0 w0 ⟨rfl, rfl⟩
    go_wp2_with (fail)
    refine (HA _).mono ?_
    rintro e1 w1 ⟨rfl, rfl⟩
    go_wp2_with (fail)
    refine (HF _).mono ?_
    rintro e2 w2 ⟨rfl, rfl⟩
    go_wp2_with (fail)
    refine (HW _).mono ?_
    rintro e3 w3 ⟨rfl, rfl⟩
    go_wp2
    all_goals go_ret
    all_goals exact ⟨ret_bool (by rw [HR.out]; rfl), rfl⟩
  rw [h3] at HW HR
  cases h4 : wi c 1 1048576
  · rw [h4] at HC HR
    go_enter Try.func14, Try.ntmps14
    go_wp2_with (fail)
    refine (HN _).mono ?_
    rintro e0 w0 ⟨rfl, rfl⟩
    go_wp2_with (fail)
    refine (HA _).mono ?_
    rintro e1 w1 ⟨rfl, rfl⟩
    go_wp2_with (fail)
    refine (HF _).mono ?_
    rintro e2 w2 ⟨rfl, rfl⟩
    go_wp2_with (fail)
    refine (HW _).mono ?_
    rintro e3 w3 ⟨rfl, rfl⟩
    go_wp2_with (fail)
    refine (HC _).mono ?_
    rintro e4 w4 ⟨rfl, rfl⟩
    go_wp2
    all_goals go_ret
    all_goals exact ⟨ret_bool (by rw [HR.out]; rfl), rfl⟩
  rw [h4] at HC HR
  go_enter Try.func14, Try.ntmps14
  go_wp2_with (fail)
  refine (HN _).mono ?_
  rintro e0 w0 ⟨rfl, rfl⟩
  go_wp2_with (fail)
  refine (HA _).mono ?_
  rintro e1 w1 ⟨rfl, rfl⟩
  go_wp2_with (fail)
  refine (HF _).mono ?_
  rintro e2 w2 ⟨rfl, rfl⟩
  go_wp2_with (fail)
  refine (HW _).mono ?_
  rintro e3 w3 ⟨rfl, rfl⟩
  go_wp2_with (fail)
  refine (HC _).mono ?_
  rintro e4 w4 ⟨rfl, rfl⟩
  go_wp2_with (fail)
  refine (HY _).mono ?_
  rintro e5 w5 ⟨rfl, rfl⟩
  go_wp2
  all_goals go_ret
  all_goals exact ⟨ret_bool (by rw [HR.out]; rfl), rfl⟩
end Wb
end Go.Proofs.Ytamlmjpkifnhaaa
