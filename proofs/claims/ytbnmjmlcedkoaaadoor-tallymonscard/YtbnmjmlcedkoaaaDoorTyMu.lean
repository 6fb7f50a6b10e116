import Derived.Test.YtbnmjmlcedkoaaaDoorTyMp0
import Derived.Test.YtbnmjmlcedkoaaaDoorTyMp1
import Derived.Test.YtbnmjmlcedkoaaaDoorTyMp2
import Derived.Test.YtbnmjmlcedkoaaaDoorTyMp3
import Derived.Test.YtbnmjmlcedkoaaaDoorTyMp4
import Derived.Test.YtbnmjmlcedkoaaaDoorTyMp5
import Derived.Test.YtbnmjmlcedkoaaaDoorTyMp6
import Derived.Test.YtbnmjmlcedkoaaaDoorTyMp7
import Derived.Test.YtbnmjmlcedkoaaaDoorTyMp8
import Derived.Test.YtbnmjmlcedkoaaaDoorTyMp90
import Derived.Test.YtbnmjmlcedkoaaaDoorTyMp91
import Derived.Test.YtbnmjmlcedkoaaaDoorTyMp92
import Derived.Test.YtbnmjmlcedkoaaaDoorTyMq
import Derived.Test.YtbnmjmlcedkoaaaDoorTyMr1
import Derived.Test.YtbnmjmlcedkoaaaDoorTyMr2
import Derived.Test.YtbnmjmlcedkoaaaDoorTyMr3
import Derived.Test.YtbnmjmlcedkoaaaDoorTyMs
import Derived.Test.YtbnmjmlcedkoaaaDoorTyMt
namespace Go.Proofs.YtbnmjmlcedkoaaaDoor
namespace Ty
open Go.RowKit
set_option linter.unusedVariables false
def Rng (f : Nat → Int) : Prop := ∀ i, 0 ≤ f i ∧ f i < 18446744073709551616
theorem up1_rng {f : Nat → Int} {k : Nat} {x : Int} (hf : Rng f) (h : 0 ≤ x ∧ x < 18446744073709551616) : Rng (up1 f k x) := fun i => by
  unfold up1; split
  · exact h
  · exact hf i
theorem bits_and_rng (x y : Int) (hx : 0 ≤ x ∧ x < 18446744073709551616) (hy : 0 ≤ y ∧ y < 18446744073709551616) : 0 ≤ bits .and .u64 x y ∧ bits .and .u64 x y < 18446744073709551616 := by
  rw [u64_and x y hx.1 hx.2 hy.1 hy.2]
  have h64 : (2 : Nat) ^ 64 = 18446744073709551616 := by decide
  have : x.toNat &&& y.toNat < 2 ^ 64 := Nat.and_lt_two_pow _ (by omega)
  omega
theorem bits_or_rng (x y : Int) (hx : 0 ≤ x ∧ x < 18446744073709551616) (hy : 0 ≤ y ∧ y < 18446744073709551616) : 0 ≤ bits .or .u64 x y ∧ bits .or .u64 x y < 18446744073709551616 := by
  rw [u64_or x y hx.1 hx.2 hy.1 hy.2]
  have h64 : (2 : Nat) ^ 64 = 18446744073709551616 := by decide
  have : x.toNat ||| y.toNat < 2 ^ 64 := Nat.or_lt_two_pow (by omega) (by omega)
  omega
/-- Whatever the monoid and the place: both give one state. -/
theorem mon_both (f : Nat → Int) (hf : Rng f) (m k y : Int) (m0 : -9223372036854775808 ≤ m) (m1 : m ≤ 9223372036854775807) (k0 : -9223372036854775808 ≤ k) (k1 : k ≤ 9223372036854775807) (y0 : 0 ≤ y) (y1 : y < 18446744073709551616) : ∃ g, Rng g ∧
    (∀ w, Cl.TabAt w → Calls Tryd.prog 8 #[.int .i64 m, .agg (st f), .int .i64 k, .int .u64 y] w fun e w' => e = .returned (.agg (st g)) ∧ Below w.heap.size w w') ∧
    (∀ w, Calls Tryd.prog 9 #[.int .i64 m, .agg (st f), .int .i64 k, .int .u64 y] w fun e w' => e = .returned (.agg (st g)) ∧ Below w.heap.size w w') := by
  by_cases hk : k < 0
  · exact ⟨f, hf, fun w _ => pmon_out f m k y (.inr (.inr (.inl hk))) m0 m1 k0 k1 w, fun w => rmon_lo f m k y hk w⟩
  by_cases hk7 : 7 < k
  · refine ⟨f, hf, fun w _ => pmon_out f m k y ?_ m0 m1 k0 k1 w, fun w => rmon_hi f m k y hk7 w⟩
    by_cases h0 : m < 0
    · exact .inl h0
    by_cases h1 : 10 ≤ m
    · exact .inr (.inl h1)
    refine .inr (.inr (.inr ⟨m.toNat, by omega, by omega, ?_⟩))
    unfold wds; split <;> omega
  obtain ⟨n, rfl⟩ : ∃ n : Nat, k = n := ⟨k.toNat, by omega⟩
  have hn : n < 8 := by omega
  have hfn := hf n
  by_cases h0 : m < 0
  · exact ⟨f, hf, fun w _ => pmon_out f m n y (.inl h0) m0 m1 k0 k1 w, fun w => rmon_below f m y n hn (by omega) w⟩
  by_cases h10 : 9 < m
  · exact ⟨f, hf, fun w _ => pmon_out f m n y (.inr (.inl (by omega))) m0 m1 k0 k1 w, fun w => rmon_above f m y n hn h10 w⟩
  have hm : m = 0 ∨ m = 1 ∨ m = 2 ∨ m = 3 ∨ m = 4 ∨ m = 5 ∨ m = 6 ∨ m = 7 ∨ m = 8 ∨ m = 9 := by omega
  rcases hm with rfl | rfl | rfl | rfl | rfl | rfl | rfl | rfl | rfl | rfl
  · exact ⟨f, hf, fun w _ => pmon_0 f n y hn hf y0 y1 w, fun w => rmon_below f 0 y n hn (by omega) w⟩
  · exact ⟨up1 f n (min (f n) y), up1_rng hf (by omega), fun w _ => pmon_1 f n y hn hf y0 y1 w, fun w => rmon_1 f n y hn hf y0 y1 w⟩
  · exact ⟨up1 f n (max (f n) y), up1_rng hf (by omega), fun w _ => pmon_2 f n y hn hf y0 y1 w, fun w => rmon_2 f n y hn hf y0 y1 w⟩
  · exact ⟨up1 f n (if wrap64 y < wrap64 (f n) then y else f n), up1_rng hf (by split <;> omega), fun w _ => pmon_3 f n y hn hf y0 y1 w, fun w => rmon_3 f n y hn hf y0 y1 w⟩
  · exact ⟨up1 f n (if wrap64 (f n) < wrap64 y then y else f n), up1_rng hf (by split <;> omega), fun w _ => pmon_4 f n y hn hf y0 y1 w, fun w => rmon_4 f n y hn hf y0 y1 w⟩
  · exact ⟨up1 f n (IntKind.u64.wrap (f n + y)), up1_rng hf (by rw [IntKind.wrap_u64]; omega), fun w _ => pmon_5 f n y hn hf y0 y1 w, fun w => rmon_5 f n y hn hf y0 y1 w⟩
  · exact ⟨up1 f n (bits .and .u64 (f n) y), up1_rng hf (bits_and_rng _ _ hfn ⟨y0, y1⟩), fun w _ => pmon_6 f n y hn hf y0 y1 w, fun w => rmon_6 f n y hn hf y0 y1 w⟩
  · exact ⟨up1 f n (bits .or .u64 (f n) y), up1_rng hf (bits_or_rng _ _ hfn ⟨y0, y1⟩), fun w _ => pmon_7 f n y hn hf y0 y1 w, fun w => rmon_7 f n y hn hf y0 y1 w⟩
  · obtain ⟨x, hx⟩ : ∃ x : Nat, f n = x := ⟨(f n).toNat, by omega⟩
    obtain ⟨z, rfl⟩ : ∃ z : Nat, y = z := ⟨y.toNat, by omega⟩
    have hb := nmax_lt x z 16
    have e16 : (16 : Nat) ^ 16 = 18446744073709551616 := by decide
    exact ⟨up1 f n (Nb.nmax x z 16), up1_rng hf (by omega), fun w _ => pmon_8 f n x z hn hx (by omega) (by omega) w, fun w => rmon_8 f n x z hn hx (by omega) (by omega) w⟩
  · by_cases h2 : 2 < n
    · refine ⟨f, hf, fun w _ => pmon_out f 9 n y (.inr (.inr (.inr ⟨9, by omega, rfl, ?_⟩))) m0 m1 k0 k1 w, fun w => rmon_nine f y n hn h2 w⟩
      show (8 : Int) - wds 9 < n
      unfold wds; simp; omega
    · obtain ⟨N, _, _, hN⟩ := six_sm (f (n + 0)) (f (n + 1)) (f (n + 2)) (f (n + 3)) (f (n + 4)) (f (n + 5)) (hf _) (hf _) (hf _) (hf _) (hf _) (hf _)
      have hw : ∀ i, i < 6 → f (n + i) = wd N i := by
        intro i hi
        have h1 := sm_get N i hi
        rw [← hN] at h1
        match i, hi with
        | 0, _ => simpa using h1
        | 1, _ => simpa using h1
        | 2, _ => simpa using h1
        | 3, _ => simpa using h1
        | 4, _ => simpa using h1
        | 5, _ => simpa using h1
      have hg : Rng (upS f n (pt N (y % 4294967296))) := fun i => by
        unfold upS; split
        · exact wd_b _ _
        · exact hf i
      refine ⟨_, hg, ?_, fun w => rmon_9 f n y N (by omega) hw y0 y1 w⟩
      have hc : n = 0 ∨ n = 1 ∨ n = 2 := by omega
      rcases hc with rfl | rfl | rfl
      · exact fun w ht => pmon_9_0 f y N hw y0 y1 w ht
      · exact fun w ht => pmon_9_1 f y N hw y0 y1 w ht
      · exact fun w ht => pmon_9_2 f y N hw y0 y1 w ht
set_option maxHeartbeats 800000 in
theorem eq8 (T : TypeId) (hu : Tryd.prog.underlying T = some (.array 8 22)) (x0 x1 x2 x3 x4 x5 x6 x7 : Int) (w : World) :
    (Op.equalIn 10000 T (.agg #[.int .u64 x0, .int .u64 x1, .int .u64 x2, .int .u64 x3, .int .u64 x4, .int .u64 x5, .int .u64 x6, .int .u64 x7]) (.agg #[.int .u64 x0, .int .u64 x1, .int .u64 x2, .int .u64 x3, .int .u64 x4, .int .u64 x5, .int .u64 x6, .int .u64 x7])).run Tryd.prog w = .ok true w := by
  have uU := Tryd.underlying22
  have aU := Tryd.isAgg22
  have zU := Tryd.sizeOf22
  rw [show (10000 : Nat) = 9999 + 1 from rfl, Op.equalIn]
  simp only [Sem.run_bind, run_underlying hu, Result.andThen_ok]
  simp only [Std.Legacy.Range.forIn_eq_forIn_range', Std.Legacy.Range.size, Nat.sub_zero, Nat.add_sub_cancel, Nat.div_one, List.range'_succ, List.range'_zero, List.forIn_cons, List.forIn_nil]
  go_simp
theorem eq_st (T : TypeId) (hu : Tryd.prog.underlying T = some (.array 8 22)) (f : Nat → Int) (w : World) : (Op.equalIn 10000 T (.agg (st f)) (.agg (st f))).run Tryd.prog w = .ok true w := eq8 T hu _ _ _ _ _ _ _ _ w
end Ty
end Go.Proofs.YtbnmjmlcedkoaaaDoor
