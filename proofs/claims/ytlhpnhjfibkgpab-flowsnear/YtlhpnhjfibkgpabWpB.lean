import Derived.Test.YtlhpnhjfibkgpabWpA
namespace Go.Proofs.Ytlhpnhjfibkgpab
namespace Wp
open Go.RowKit
set_option linter.unusedVariables false
set_option maxRecDepth 8000
/-- A state with one word other. -/
def up (s : Nat → Int) (j : Nat) (x : Int) : Nat → Int := fun i => if i = j then x else s i
theorem up_eq (s : Nat → Int) (j : Nat) (x : Int) : up s j x j = x := by simp [up]
theorem up_ne (s : Nat → Int) (j i : Nat) (x : Int) (h : i ≠ j) : up s j x i = s i := by simp [up, h]
abbrev K2 (b : Nat) (x y : Int) (w : World) : Prop := w.cell? ⟨b, 0, none⟩ = some (.int .u64 x) ∧ w.cell? ⟨b, 1, none⟩ = some (.int .u64 y)
theorem k2 {w : World} {b : Nat} {x y : Int} {t : TypeId} (h : w.heap[b]? = some (.cells #[.int .u64 x, .int .u64 y] t (0, 0))) : K2 b x y w := by
  refine ⟨?_, ?_⟩ <;> exact (cell_of_row w b _ _ t (0, 0) h).trans rfl
theorem K2.on {b n : Nat} {x y : Int} {w w' : World} (h : K2 b x y w) (hB : Below n w w') (hb : b < n) : K2 b x y w' := ⟨(hB.cell hb).trans h.1, (hB.cell hb).trans h.2⟩
theorem K2.row {b g : Nat} {x y : Int} {w : World} (h : K2 b x y w) (C : Array Value) (hb : b ≠ g) : K2 b x y (w.setRow g C) := ⟨(cell_setRow_other w g C _ hb).trans h.1, (cell_setRow_other w g C _ hb).trans h.2⟩
def labStart (v : Int) : Nat → Int := up (up (fun _ => 0) 0 v) 2 18446744073709551615
theorem wu (x : Int) (h0 : 0 ≤ x) (h1 : x < 18446744073709551616) : IntKind.u64.wrap x = x := by simp only [IntKind.wrap, IntKind.signed, IntKind.bits]; simp; omega
theorem size101 : (Try.prog.info? 79).map (·.size) = some 4 := by kernel_rfl
abbrev kv (a m : Int) : Array Value := #[.int .i64 a, .int .i64 m, .int .i64 0, .int .i64 0]
theorem k4i {w : World} {b : Nat} {a m : Int} {t : TypeId} (h : w.heap[b]? = some (.cells (kv a m) t (0, 0))) : w.cell? ⟨b, 0, none⟩ = some (.int .i64 a) ∧ w.cell? ⟨b, 1, none⟩ = some (.int .i64 m) ∧ w.cell? ⟨b, 2, none⟩ = some (.int .i64 0) ∧ w.cell? ⟨b, 3, none⟩ = some (.int .i64 0) := by
  refine ⟨?_, ?_, ?_, ?_⟩ <;> exact (cell_of_row w b _ _ t (0, 0) h).trans rfl
set_option maxHeartbeats 1000000 in
theorem round_pace (n : Int) (c : Nat → Int) (h0 : 0 ≤ c 0) (h1 : c 0 ≤ 1000000) (w : World) : Calls Try.prog 69 #[.agg #[.int .u32 n], .agg (cv c)] w fun e w' => e = .returned (.int .u64 (c 0 + 1)) ∧ w' = (w.alloc (.cells #[.int .u32 n] 55)).alloc (.cells (cv c) 38) := by
  have hv : IntKind.u64.wrap (c 0 + 1) = c 0 + 1 := wu _ (by omega) (by omega)
  go_enter Try.func69, Try.ntmps69
  go_wp2
  all_goals go_ret
  all_goals exact ⟨rfl, rfl⟩
set_option maxHeartbeats 1000000 in
theorem news_pace (n : Int) (c : Nat → Int) (x : Int) (w : World) : Calls Try.prog 74 #[.agg #[.int .u32 n], .agg (cv c), .int .u64 x] w fun e w' => e = .returned (.bool (x == c 0)) ∧ w' = (w.alloc (.cells #[.int .u32 n] 55)).alloc (.cells (cv c) 38) := by
  go_enter Try.func74, Try.ntmps74
  go_wp2
  all_goals go_ret
  all_goals exact ⟨rfl, rfl⟩
set_option maxHeartbeats 1000000 in
theorem verdict_pace (n : Int) (c : Nat → Int) (h0 : 0 ≤ n) (h1 : n < 4294967296) (w : World) : Calls Try.prog 62 #[.agg #[.int .u32 n], .agg (cv c)] w fun e w' => e = .returned (.bool (decide (n ≤ c 0))) ∧ w' = (w.alloc (.cells #[.int .u32 n] 55)).alloc (.cells (cv c) 38) := by
  have hv : IntKind.u64.wrap n = n := wu n h0 (by omega)
  by_cases h : n ≤ c 0
  · rw [show decide (n ≤ c 0) = true from by simp [h]]
    go_enter Try.func62, Try.ntmps62
    go_wp2
    all_goals go_ret
    all_goals exact ⟨rfl, rfl⟩
  · rw [show decide (n ≤ c 0) = false from by simp; omega]
    go_enter Try.func62, Try.ntmps62
    go_wp2
    all_goals go_ret
    all_goals exact ⟨rfl, rfl⟩
/-- What a ctl becomes. -/
def ctlN (c : Nat → Int) (r : Int) : Nat → Int := up c 0 r
set_option maxHeartbeats 1000000 in
theorem turn_pace (n : Int) (c g : Nat → Int) (ch r : Int) (h0 : 0 ≤ n) (h1 : n < 4294967296) (h2 : 0 ≤ r) (h3 : r ≤ 1000000) (w : World) : Calls Try.prog 61 #[.agg #[.int .u32 n], .agg (cv c), .agg (sv g), .int .u64 ch, .int .i64 r] w fun e w' => e = .returned (.tuple #[.agg (cv (ctlN c r)), .bool (ch == 0 || decide (n ≤ c 0)), .int .i64 0]) ∧ Below w.heap.size w w' := by
  have HV := hide (verdict_pace n c h0 h1)
  have hr : IntKind.u64.wrap r = r := wu r h2 (by omega)
  have hE : Hid (cv (ctlN c r) = #[.int .u64 r, .int .u64 (c 1), .int .u64 (c 2), .int .u64 (c 3)]) := by show _ = _; simp [ctlN, up]
  cases hc : ch == 0
  · go_enter Try.func61, Try.ntmps61
    go_wp2_with (fail)
    refine (HV.out _).mono ?_
    rintro e1 w1 ⟨rfl, hw1⟩
    subst w1
    go_wp2
    all_goals (refine bodyPost_ret (v := .tuple #[.agg (cv (ctlN c r)), .bool (decide (n ≤ c 0)), .int .i64 0]) ?_ rfl ⟨rfl, by repeat first | exact Below.refl _ _ | refine belowD ?_ | refine belowN ?_ _ | refine bA ?_ (by first | exact Nat.le_refl _ | (simp only [World.size_alloc]; omega)) _⟩)
    all_goals simp only [results, Try.results61, asAddr, hE.out]
    all_goals go_simp
  · go_enter Try.func61, Try.ntmps61
    go_wp2
    all_goals (refine bodyPost_ret (v := .tuple #[.agg (cv (ctlN c r)), .bool true, .int .i64 0]) ?_ rfl ⟨rfl, by repeat first | exact Below.refl _ _ | refine belowD ?_ | refine belowN ?_ _ | refine bA ?_ (by first | exact Nat.le_refl _ | (simp only [World.size_alloc]; omega)) _⟩)
    all_goals simp only [results, Try.results61, asAddr, hE.out]
    all_goals go_simp
end Wp
end Go.Proofs.Ytlhpnhjfibkgpab
