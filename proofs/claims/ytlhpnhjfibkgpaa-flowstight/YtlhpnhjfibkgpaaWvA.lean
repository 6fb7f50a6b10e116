import Derived.Test.YtlhpnhjfibkgpaaWpC
import Derived.Test.YtlhpnhjfibkgpaaWpE
namespace Go.Proofs.Ytlhpnhjfibkgpaa
namespace Wp
open Go.RowKit
set_option linter.unusedVariables false
set_option maxRecDepth 8000
/-- The object of SSSP's program. -/
abbrev wv (n s k : Int) (wb : Nat) : Array Value := #[.int .u32 n, .int .u32 s, .int .i64 k, .func (.func 49) #[.pointer (some ⟨wb, 0, none⟩)] #[], .func (.func 50) #[.pointer (some ⟨wb, 0, none⟩)] #[]]
def WO (w : World) (wb : Nat) (n s k : Int) : Prop := w.heap[wb]? = some (.cells (wv n s k wb) 123 (0, 0))
abbrev W5 (n s k : Int) (wb : Nat) (w : World) : Prop := w.cell? ⟨wb, 0, none⟩ = some (.int .u32 n) ∧ w.cell? ⟨wb, 1, none⟩ = some (.int .u32 s) ∧ w.cell? ⟨wb, 2, none⟩ = some (.int .i64 k) ∧ w.cell? ⟨wb, 3, none⟩ = some (.func (.func 49) #[.pointer (some ⟨wb, 0, none⟩)] #[]) ∧ w.cell? ⟨wb, 4, none⟩ = some (.func (.func 50) #[.pointer (some ⟨wb, 0, none⟩)] #[])
section
variable {w w' : World} {wb : Nat} {n s k : Int}
theorem WO.lt (h : WO w wb n s k) : wb < w.heap.size := (Array.getElem?_eq_some_iff.1 h).1
theorem WO.on (h : WO w wb n s k) (hb : Below w.heap.size w w') : WO w' wb n s k := (hb.block _ h.lt).trans h
theorem WO.w5 (h : WO w wb n s k) : W5 n s k wb w := by
  refine ⟨?_, ?_, ?_, ?_, ?_⟩ <;> exact (cell_of_row w wb _ _ 123 (0, 0) h).trans rfl
end
set_option maxHeartbeats 1000000 in
theorem words_wy (wb : Nat) (w : World) : Calls Try.prog 97 #[.pointer (some ⟨wb, 0, none⟩)] w fun e w' => e = .returned (.int .i64 4) ∧ w' = w := by
  go_enter Try.func97, Try.ntmps97
  go_wp2
  all_goals go_ret
  all_goals exact ⟨rfl, rfl⟩
set_option maxHeartbeats 1000000 in
theorem both_wy (wb : Nat) (w : World) : Calls Try.prog 92 #[.pointer (some ⟨wb, 0, none⟩)] w fun e w' => e = .returned (.bool false) ∧ w' = w := by
  go_enter Try.func92, Try.ntmps92
  go_wp2
  all_goals go_ret
  all_goals exact ⟨rfl, rfl⟩
set_option maxHeartbeats 1000000 in
theorem sink_wy (wb : Nat) (w : World) : Calls Try.prog 95 #[.pointer (some ⟨wb, 0, none⟩)] w fun e w' => e = .returned (.agg (kv 3 3)) ∧ Below w.heap.size w w' := by
  go_enter Try.func95, Try.ntmps95
  go_wp2
  refine bodyPost_ret (v := .agg (kv 3 3)) ?_ rfl ⟨rfl, by repeat first | exact Below.refl _ _ | refine belowD ?_ | refine belowN ?_ _ | refine bA ?_ (by first | exact Nat.le_refl _ | (simp only [World.size_alloc]; omega)) _⟩
  simp only [results, Try.results95, asAddr]
  go_simp
def wyStart (s v : Int) : Nat → Int := if v = s then up (fun _ => 0) 3 9223372036854775807 else up (up (fun _ => 0) 0 9223372036854775807) 3 9223372036854775807
set_option maxHeartbeats 2000000 in
theorem start_wy (wb : Nat) (n s k v a b : Int) (w : World) (hO : WO w wb n s k) : Calls Try.prog 96 #[.pointer (some ⟨wb, 0, none⟩), .int .u32 v, .agg #[.int .u64 a, .int .u64 b]] w fun e w' => e = .returned (.tuple #[.agg (sv (wyStart s v)), .int .i64 0]) ∧ Below w.heap.size w w' := by
  have HX : Hid (Below w.heap.size w ((w.alloc (.cells #[.int .u64 a, .int .u64 b] 108)).alloc (.cells z8 35))) := by repeat first | exact Below.refl _ _ | refine bA ?_ (by first | exact Nat.le_refl _ | (simp only [World.size_alloc]; omega)) _
  have hc := (hO.on HX.out).w5.2.1
  clear hO
  by_cases e : v = s
  · have hb : (v == s) = true := by rw [e]; simp
    have hE2 : Hid (sv (wyStart s v) = #[.int .u64 0, .int .u64 0, .int .u64 0, .int .u64 9223372036854775807, .int .u64 0, .int .u64 0, .int .u64 0, .int .u64 0]) := by show _ = _; simp [wyStart, e, up]
    clear e
    go_enter Try.func96, Try.ntmps96
    go_wp2
    all_goals (refine bodyPost_ret (v := .tuple #[.agg (sv (wyStart s v)), .int .i64 0]) ?_ rfl ⟨rfl, by repeat first | exact Below.refl _ _ | refine bA ?_ (by first | exact Nat.le_refl _ | (simp only [World.size_alloc]; omega)) _⟩)
    all_goals simp only [results, Try.results96, asAddr, hE2.out]
    all_goals go_simp
  · have hb : (v == s) = false := by simp [e]
    have hE2 : Hid (sv (wyStart s v) = #[.int .u64 9223372036854775807, .int .u64 0, .int .u64 0, .int .u64 9223372036854775807, .int .u64 0, .int .u64 0, .int .u64 0, .int .u64 0]) := by show _ = _; simp [wyStart, e, up]
    clear e
    go_enter Try.func96, Try.ntmps96
    go_wp2
    all_goals (refine bodyPost_ret (v := .tuple #[.agg (sv (wyStart s v)), .int .i64 0]) ?_ rfl ⟨rfl, by repeat first | exact Below.refl _ _ | refine bA ?_ (by first | exact Nat.le_refl _ | (simp only [World.size_alloc]; omega)) _⟩)
    all_goals simp only [results, Try.results96, asAddr, hE2.out]
    all_goals go_simp
/-- The weight of an edge. -/
def wt (k z : Int) : Int := if k = 1 then 1 else wrap32 z
theorem i32_b (z : Int) : -2147483648 ≤ wrap32 z ∧ wrap32 z ≤ 2147483647 := by
  unfold wrap32; omega
theorem wt_b (k z : Int) : -2147483648 ≤ wt k z ∧ wt k z ≤ 2147483647 := by
  unfold wt
  split
  · omega
  · exact i32_b z
theorem w64 (x : Int) (h0 : -9223372036854775808 ≤ x) (h1 : x ≤ 9223372036854775807) : wrap64 x = x := by unfold wrap64; omega
theorem wi (x : Int) (h0 : -9223372036854775808 ≤ x) (h1 : x ≤ 9223372036854775807) : IntKind.i64.wrap x = x := by rw [IntKind.wrap_i64]; omega
set_option maxHeartbeats 1000000 in
theorem weight_wy (wb : Nat) (n s k x y z : Int) (w : World) (hO : WO w wb n s k) : Calls Try.prog 99 #[.pointer (some ⟨wb, 0, none⟩), .agg (ev x y z)] w fun e w' => e = .returned (.int .i64 (wt k z)) ∧ w' = w.alloc (.cells (ev x y z) 45) := by
  have hc := (hO.on (b1 w 45 (ev x y z))).w5.2.2.1
  clear hO
  by_cases e : k = 1
  · have hb : (k == 1) = true := by rw [e]; rfl
    have hE : Hid (wt k z = 1) := by show _ = _; unfold wt; rw [if_pos e]
    rw [hE.out]
    clear e
    go_enter Try.func99, Try.ntmps99
    go_wp2
    all_goals go_ret
    all_goals exact ⟨rfl, rfl⟩
  · have hb : (k == 1) = false := by simp [e]
    have hE : Hid (wt k z = wrap32 z) := by show _ = _; unfold wt; rw [if_neg e]
    rw [hE.out]
    have hz := i32_b z
    have HW : Hid (wrap64 (wrap32 z) = wrap32 z) := w64 _ (by omega) (by omega)
    clear e hz
    go_enter Try.func99, Try.ntmps99
    go_wp2
    all_goals go_ret
    all_goals refine ⟨?_, rfl⟩
    all_goals show Ending.returned (.int .i64 (wrap64 (wrap32 z))) = _
    all_goals rw [HW.out]
set_option maxHeartbeats 1000000 in
theorem gadd_ok (a b : Int) (h0 : -9223372036854775808 ≤ a + b) (h1 : a + b ≤ 9223372036854775807) (w : World) : Calls Try.prog 98 #[.int .i64 a, .int .i64 b] w fun e w' => e = .returned (.tuple #[.int .i64 (a + b), .int .i64 0]) ∧ w' = w := by
  have hw : IntKind.i64.wrap (a + b) = a + b := wi _ h0 h1
  by_cases e : 0 < b
  · have q1 : decide (a < a + b) = true := by simp; omega
    have q2 : decide (0 < b) = true := by simp [e]
    clear e h0 h1
    go_enter Try.func98, Try.ntmps98
    go_wp2
    all_goals go_ret2
    all_goals exact ⟨rfl, rfl⟩
  · have q1 : decide (a < a + b) = false := by simp; omega
    have q2 : decide (0 < b) = false := by simp; omega
    clear e h0 h1
    go_enter Try.func98, Try.ntmps98
    go_wp2
    all_goals go_ret2
    all_goals exact ⟨rfl, rfl⟩
/-- What Mon does at MonMinInt. -/
def mni (x y : Int) : Int := if wrap64 y < wrap64 x then IntKind.u64.wrap (wrap64 y) else IntKind.u64.wrap (wrap64 x)
set_option maxHeartbeats 2000000 in
theorem mon_mi (s : Nat → Int) (a : Int) (w : World) : Calls Try.prog 55 #[.int .i64 3, .agg (sv s), .int .i64 3, .int .u64 a] w fun e w' => e = .returned (.agg (sv (up s 3 (mni (s 3) a)))) ∧ Below w.heap.size w w' := by
  have hE2 : Hid (sv (up s 3 (mni (s 3) a)) = #[.int .u64 (s 0), .int .u64 (s 1), .int .u64 (s 2), .int .u64 (mni (s 3) a), .int .u64 (s 4), .int .u64 (s 5), .int .u64 (s 6), .int .u64 (s 7)]) := by show _ = _; simp [up]
  go_enter Try.func55, Try.ntmps55
  go_wp2
  all_goals (refine bodyPost_ret (v := .agg (sv (up s 3 (mni (s 3) a)))) ?_ rfl ⟨rfl, by repeat first | exact Below.refl _ _ | refine belowD ?_ | refine belowN ?_ _ | refine bA ?_ (by first | exact Nat.le_refl _ | (simp only [World.size_alloc]; omega)) _⟩)
  all_goals simp only [results, Try.results55, asAddr, hE2.out]
  all_goals go_simp
  all_goals unfold mni
  all_goals split
  all_goals first | rfl | (congr 1; omega)
set_option maxHeartbeats 2000000 in
theorem tell_wy (wb : Nat) (c s : Nat → Int) (w : World) : Calls Try.prog 50 #[.pointer (some ⟨wb, 0, none⟩), .agg (cv c), .agg (sv s)] w fun e w' => e = .returned (.tuple #[.agg (sv (up s 1 1)), .bool true]) ∧ Below w.heap.size w w' := by
  have hE2 : Hid (sv (up s 1 1) = #[.int .u64 (s 0), .int .u64 1, .int .u64 (s 2), .int .u64 (s 3), .int .u64 (s 4), .int .u64 (s 5), .int .u64 (s 6), .int .u64 (s 7)]) := by show _ = _; simp [up]
  go_enter Try.func50, Try.ntmps50
  go_wp2
  all_goals (refine bodyPost_ret (v := .tuple #[.agg (sv (up s 1 1)), .bool true]) ?_ rfl ⟨rfl, by repeat first | exact Below.refl _ _ | refine belowD ?_ | refine belowN ?_ _ | refine bA ?_ (by first | exact Nat.le_refl _ | (simp only [World.size_alloc]; omega)) _⟩)
  all_goals simp only [results, Try.results50, asAddr, hE2.out]
  all_goals go_simp
set_option maxHeartbeats 4000000 in
theorem shorten_yes (wb : Nat) (n q k : Int) (c s : Nat → Int) (h0 : 0 ≤ c 0) (h1 : c 0 ≤ 1000000) (h : wrap64 (s 3) < wrap64 (s 0)) (w : World) (hO : WO w wb n q k) : Calls Try.prog 49 #[.pointer (some ⟨wb, 0, none⟩), .agg (cv c), .agg (sv s)] w fun e w' => e = .returned (.tuple #[.agg (sv (up (up s 0 (s 3)) 2 (c 0 + 1))), .bool true]) ∧ Below w.heap.size w w' := by
  have HR := hide (round_pace n c h0 h1)
  have hE2 : Hid (sv (up (up s 0 (s 3)) 2 (c 0 + 1)) = #[.int .u64 (s 3), .int .u64 (s 1), .int .u64 (c 0 + 1), .int .u64 (s 3), .int .u64 (s 4), .int .u64 (s 5), .int .u64 (s 6), .int .u64 (s 7)]) := by show _ = _; simp [up]
  have HX : Hid (Below w.heap.size w ((((w.alloc (.cells (cv c) 37)).alloc (.cells (sv s) 35)).alloc (.cells z8 35)).drew)) := by repeat first | exact Below.refl _ _ | refine belowD ?_ | refine bA ?_ (by first | exact Nat.le_refl _ | (simp only [World.size_alloc]; omega)) _
  have hc := (hO.on HX.out).w5.1
  have hb : decide (wrap64 (s 3) < wrap64 (s 0)) = true := by simp [h]
  clear hO h
  go_enter Try.func49, Try.ntmps49
  go_wp2_with (fail)
  go_region_with (first | (go_at_call 56; refine (HR.out _).mono ?_; rintro e1 w1 ⟨rfl, hw1⟩; subst w1))
  all_goals go_wp2
  all_goals (refine bodyPost_ret (v := .tuple #[.agg (sv (up (up s 0 (s 3)) 2 (c 0 + 1))), .bool true]) ?_ rfl ⟨rfl, by repeat first | exact Below.refl _ _ | refine belowD ?_ | refine belowN ?_ _ | refine bA ?_ (by first | exact Nat.le_refl _ | (simp only [World.size_alloc]; omega)) _⟩)
  all_goals simp only [results, Try.results49, asAddr, hE2.out]
  all_goals go_simp
set_option maxHeartbeats 2000000 in
theorem shorten_no (wb : Nat) (c s : Nat → Int) (h : ¬ wrap64 (s 3) < wrap64 (s 0)) (w : World) : Calls Try.prog 49 #[.pointer (some ⟨wb, 0, none⟩), .agg (cv c), .agg (sv s)] w fun e w' => e = .returned (.tuple #[.agg (sv s), .bool false]) ∧ Below w.heap.size w w' := by
  have hb : decide (wrap64 (s 3) < wrap64 (s 0)) = false := by simp [h]
  clear h
  go_enter Try.func49, Try.ntmps49
  go_wp2
  all_goals (refine bodyPost_ret (v := .tuple #[.agg (sv s), .bool false]) ?_ rfl ⟨rfl, by repeat first | exact Below.refl _ _ | refine belowD ?_ | refine belowN ?_ _ | refine bA ?_ (by first | exact Nat.le_refl _ | (simp only [World.size_alloc]; omega)) _⟩)
  all_goals simp only [results, Try.results49, asAddr]
  all_goals go_simp
end Wp
end Go.Proofs.Ytlhpnhjfibkgpaa
