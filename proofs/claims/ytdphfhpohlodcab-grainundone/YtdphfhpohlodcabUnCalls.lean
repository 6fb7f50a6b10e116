import Derived.Test.YtdphfhpohlodcabRows
import Derived.Test.YtdphfhpohlodcabUnMath
import Derived.WalkKit
import Derived.BigQuiet
import Derived.Deep.QuietTactic
import Derived.Laws.Externs
namespace Go.Proofs.Ytdphfhpohlodcab
namespace Tot
open Go.RowKit
theorem ret_two {k1 k2 : IntKind} {a b c d : Int} (h : a = c) (h2 : b = d) : Ending.returned (.tuple #[.int k1 a, .int k2 b]) = .returned (.tuple #[.int k1 c, .int k2 d]) := by rw [h, h2]
theorem add64 (x y : Int) (hx : 0 ≤ x) (hy : 0 ≤ y) (w : World) : (callFunc 35 #[.int .u64 x, .int .u64 y, .int .u64 0]).run Try.prog w =
    .ok (.value (.tuple #[.int .u64 ((x + y) % 18446744073709551616), .int .u64 ((x + y) / 18446744073709551616)])) w := by
  rw [run_callFunc_extern Try.func35 (by kernel_rfl) (by kernel_rfl) (by kernel_rfl) (e := add64Entry) (by kernel_rfl), run_add64 x y 0 hx hy (by omega) (by omega)]
  simp [Result.andThen]
/-- A row of numbers that lie in memory, as the walk is told of it. -/
def Row (w : World) (a : Option Addr) (len : Nat) (zs : List Int) : Prop :=
  (len ≤ zs.length ∧ len ≤ 9223372036854775807) ∧ (0 < len → ∃ x : Addr, a = some x ∧ ∀ i, i < len → w.cell? (x.add i) = some (.int .i64 (zs.getD i 0))) ∧ ∀ i, i < len → -9223372036854775808 ≤ zs.getD i 0 ∧ zs.getD i 0 ≤ 9223372036854775807
set_option maxHeartbeats 400000 in
theorem total_any (a : Option Addr) (len cap : Nat) (zs : List Int) (w : World) (hr : Row w a len zs) :
    Calls Try.prog 10 #[.slice a len cap] w fun e w' => e = .returned (.tuple #[.int .i64 (val (sum zs len)), .int .i64 (err (sum zs len))]) ∧ w' = w := by
  obtain ⟨⟨hl, hl2⟩, hc, hb⟩ := hr
  go_enter Try.func10, Try.ntmps10
  go_wp2
  go_loop [4, 5, 12] (fun h l i => ∃ k : Nat, k ≤ len ∧ i = .int .i64 k ∧ h = .int .u64 (hi (sum zs k)) ∧ l = .int .u64 (lo (sum zs k))) (fun _ _ i => len - (intOf i).toNat)
  case atStart => exact ⟨0, Nat.zero_le _, rfl, by rw [sum_zero]; rfl, by rw [sum_zero]; rfl⟩
  case round =>
    obtain ⟨k, hk, rfl, rfl, rfl⟩ := hrel
    have l1 := lo_b (sum zs k)
    have l2 := hi_b (sum zs k)
    by_cases hlt : k < len
    · obtain ⟨ad, rfl, hcell⟩ := hc (by omega)
      have hx := hb k hlt
      have hcx := hcell k hlt
      have H1 : Hid (sum zs (k + 1) = sum zs k + zs.getD k 0) := sum_succ zs k (by omega)
      generalize zs.getD k 0 = x at *
      have e1 := lo_add (sum zs k) x
      have e2 := hi_add (sum zs k) x hx.1 hx.2
      have hw := wrap_u64_nonneg x
      clear hcell hc hb
      go_wp2_with (simp only [add64 (lo (sum zs k)) _ l1.1 hw])
      exact ⟨⟨k + 1, by omega, by go_num, by rw [H1.out], by rw [H1.out]⟩, by simp [intOf]; omega⟩
    · have hkk : k = len := by omega
      subst hkk
      clear hc hb
      cases hbe : beyond (sum zs k)
      · have Hv : Hid (val (sum zs k) = IntKind.i64.wrap (lo (sum zs k))) := by show val (sum zs k) = _; unfold val; rw [hbe]; simp
        have He : Hid (err (sum zs k) = 0) := by show err (sum zs k) = _; unfold err; rw [hbe]; simp
        have hn : (hi (sum zs k) != IntKind.u64.wrap (wrap64 (lo (sum zs k)) / 9223372036854775808)) = false := by rw [← IntWalk.i64_left]; exact hbe
        clear hbe
        go_wp2
        go_ret2
        exact ⟨ret_two (Hv.out.trans (IntWalk.i64_left _)).symm He.out.symm, rfl⟩
      · have Hv : Hid (val (sum zs k) = 0) := by show val (sum zs k) = _; unfold val; rw [hbe]; simp
        have He : Hid (err (sum zs k) = 13) := by show err (sum zs k) = _; unfold err; rw [hbe]; simp
        have hn : (hi (sum zs k) != IntKind.u64.wrap (wrap64 (lo (sum zs k)) / 9223372036854775808)) = true := by rw [← IntWalk.i64_left]; exact hbe
        clear hbe
        go_wp2
        go_ret2
        exact ⟨ret_two Hv.out.symm He.out.symm, rfl⟩
end Tot
end Go.Proofs.Ytdphfhpohlodcab
