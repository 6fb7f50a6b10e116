import Derived.Test.YtdphfhpohlodcaaJnC
namespace Go.Proofs.Ytdphfhpohlodcaa
namespace Jn
open Go.RowKit
set_option linter.unusedVariables false
/-- The powers' loop. -/
def run (M : Nat → Int) (a : Int) (n : Nat) : Int :=
  if h : n = 0 then a else run (sq M) (if n % 2 = 1 then ofL M a 32 else a) (n / 2)
termination_by n
decreasing_by omega
theorem run_zero (M : Nat → Int) (a : Int) : run M a 0 = a := by rw [run]; simp
theorem run_pos (M : Nat → Int) (a : Int) (n : Nat) (h : 0 < n) : run M a n = run (sq M) (if n % 2 = 1 then ofL M a 32 else a) (n / 2) := by
  rw [run, dif_neg (by omega)]
theorem run_two (M : Nat → Int) (a : Int) (n : Nat) : run M a (2 * n) = run (sq M) a n := by
  rcases Nat.eq_zero_or_pos n with rfl | h
  · rw [Nat.mul_zero, run_zero, run_zero]
  · rw [run_pos M a (2 * n) (by omega), if_neg (by omega), show 2 * n / 2 = n by omega]
theorem run_eight (M : Nat → Int) (a : Int) (n : Nat) : run M a (8 * n) = run (sq (sq (sq M))) a n := by
  rw [show 8 * n = 2 * (2 * (2 * n)) by omega, run_two, run_two, run_two]
/-- What stands at the head of a round of 'Join'. -/
def Pw (t : TypeId) (w wr : World) (p : Nat) (M : Nat → Int) : Prop :=
  Below w.heap.size w wr ∧ p < wr.heap.size ∧ w.heap.size ≤ p ∧ ∃ c, wr.heap[p]? = some (.cells c t (0, 0)) ∧ Arr c M
theorem i64_and1 (n : Int) : bits .and .i64 n 1 = n % 2 := by
  have h1 : (BitVec.ofInt 64 1).toNat = 2 ^ 1 - 1 := by decide
  have key : (BitVec.ofInt 64 n &&& BitVec.ofInt 64 1).toNat = (n % ((2 ^ 64 : Nat) : Int)).toNat % 2 ^ 1 := by
    rw [BitVec.toNat_and, BitVec.toNat_ofInt, h1, Nat.and_two_pow_sub_one_eq_mod]
  show IntKind.i64.wrap ((BitVec.ofInt 64 n &&& BitVec.ofInt 64 1).toNat : Nat) = n % 2
  rw [key, IntKind.wrap_i64]
  omega
theorem and1_odd (n : Nat) (h : n % 2 = 1) : bits .and .i64 (n : Int) 1 = 1 := by
  rw [i64_and1]; omega
theorem and1_even (n : Nat) (h : ¬ n % 2 = 1) : bits .and .i64 (n : Int) 1 = 0 := by
  rw [i64_and1]; omega
def val (a b n : Int) : Int := if n < 0 ∨ n > 1099511627776 then 0 else bits .xor .u32 (run seed a (8 * n.toNat)) b
def err (n : Int) : Int := if n < 0 ∨ n > 1099511627776 then 12 else 0
theorem ret_two {k1 k2 : IntKind} {a b c d : Int} (h : a = c) (h2 : b = d) : Ending.returned (.tuple #[.int k1 a, .int k2 b]) = .returned (.tuple #[.int k1 c, .int k2 d]) := by rw [h, h2]
theorem pw_step {w wr w2 : World} {p : Nat} {t : TypeId} {c d : Array Value} {N : Nat → Int} (b1 : Below w.heap.size w wr) (b2 : p < wr.heap.size) (b3 : w.heap.size ≤ p) (hc : wr.heap[p]? = some (.cells c t (0, 0)))
    (hb : Below wr.heap.size wr w2) (hd : Arr d N) : Pw t w (w2.setRow p d) p N := by
  have hs := hb.size
  refine ⟨?_, by simp; omega, b3, d, setRow_heap _ p c _ t (0, 0) ((hb.block _ b2).trans hc), hd⟩
  exact (b1.trans (hb.mono b1.size)).trans ⟨rfl, rfl, rfl, by simp, fun k hk => setRow_other _ _ k _ (by omega)⟩
set_option maxHeartbeats 800000 in
theorem join_any (a b n : Int) (ha : W32 a) (hb : W32 b) (w : World) :
    Calls Try.prog 11 #[.int .u32 a, .int .u32 b, .int .i64 n] w fun e w' => e = .returned (.tuple #[.int .u32 (val a b n), .int .i64 (err n)]) ∧ Below w.heap.size w w' := by
  by_cases hout : n < 0 ∨ n > 1099511627776
  · have H1 : Hid (val a b n = 0) := by show _ = _; unfold val; rw [if_pos hout]
    have H2 : Hid (err n = 12) := by show _ = _; unfold err; rw [if_pos hout]
    by_cases h0 : n < 0
    · clear hout
      go_enter Try.func11, Try.ntmps11
      go_wp2
      go_ret2
      exact ⟨ret_two H1.out.symm H2.out.symm, Below.refl _ _⟩
    · have h1 : 1099511627776 < n := by omega
      clear hout
      go_enter Try.func11, Try.ntmps11
      go_wp2
      go_ret2
      exact ⟨ret_two H1.out.symm H2.out.symm, Below.refl _ _⟩
  · obtain ⟨m, rfl⟩ := Int.eq_ofNat_of_zero_le (show 0 ≤ n by omega)
    have hm : m ≤ 1099511627776 := by omega
    have H1 : Hid (val a b m = bits .xor .u32 (run (sq (sq (sq seed))) a m) b) := by
      show _ = _; unfold val; rw [if_neg hout, Int.toNat_natCast, run_eight]
    have H2 : Hid (err m = 0) := by show _ = _; unfold err; rw [if_neg hout]
    have hm' : ¬ (1099511627776 < (m : Int)) := by omega
    clear hout
    have HB := byteShift_any w
    generalize sq (sq (sq seed)) = M0 at *
    have HB' : Hid (Calls Try.prog 17 #[] w fun e w' => ∃ d, e = .returned (.agg d) ∧ Arr d M0 ∧ Below w.heap.size w w') := HB
    clear HB
    go_enter Try.func11, Try.ntmps11
    go_wp2_with (fail)
    refine HB'.out.mono ?_
    rintro e1 w1 ⟨d, rfl, hd, hb1⟩
    clear HB'
    have HD : Hid (Arr d M0 ∧ Below w.heap.size w w1) := ⟨hd, hb1⟩
    have hall := all_one hd
    have hsz := hd.1
    have hh := heap_alloc_last w1 (.cells (Array.replicate 32 (.int .u32 0)) 46)
    clear hd hb1
    go_wp2_with (refine wpList_store46 rfl _ _ rfl w1.heap.size d (Array.replicate 32 (.int .u32 0)) rfl rfl hsz rfl hall hh ?_)
    clear hh hall hsz
    dsimp only [Act.put]
    have hp0 : w.heap.size ≤ w1.heap.size := HD.out.2.size
    go_loopw [0, 2] (fun av nv wr => ∃ (a' : Int) (n' : Nat) (M : Nat → Int), av = .int .u32 a' ∧ nv = .int .i64 n' ∧ W32 a' ∧ n' ≤ 1099511627776 ∧ Pw 46 w wr w1.heap.size M ∧ run M a' n' = run M0 a m) (fun _ nv _ => (intOf nv).toNat)
    case atStart =>
      refine ⟨a, m, M0, rfl, rfl, ha, hm, ⟨?_, ?_, hp0, ?_⟩, rfl⟩
      · exact HD.out.2.trans ((Below.refl _ _).alloc hp0 _ |>.trans ⟨rfl, rfl, rfl, by simp, fun k hk => setRow_other _ _ k _ (by omega)⟩)
      · simp
      · exact ⟨d, setRow_heap _ w1.heap.size _ _ 46 (0, 0) (heap_alloc_last w1 _), HD.out.1⟩
    case round =>
      obtain ⟨a', n', M, rfl, rfl, ha', hn', ⟨b1, b2, b3, c, hc, hA⟩, HR⟩ := hrel
      have HR' : Hid (run M a' n' = run M0 a m) := HR
      have HA : Hid (Arr c M) := hA
      have hsz := hA.1
      clear HR hA
      by_cases hpos : 0 < n'
      · have hposI : (0 : Int) < (n' : Int) := by omega
        by_cases hodd : n' % 2 = 1
        · have hand := and1_odd n' hodd
          go_wp2_with (refine wpList_load46 rfl _ rfl w1.heap.size c rfl hsz hc ?_)
          refine (of_any c M a' _ HA.out ha').mono ?_
          rintro e9 w9 ⟨rfl, hb9⟩
          have hc9 := (hb9.block _ b2).trans hc
          have b19 := b1.trans (hb9.mono b1.size)
          have b29 := Nat.lt_of_lt_of_le b2 hb9.size
          clear hc b1 b2 hb9
          go_wp2_with (refine wpList_load46 rfl _ rfl w1.heap.size c rfl hsz hc9 ?_)
          refine (squared_any c M _ HA.out).mono ?_
          rintro e2 w2 ⟨d2, rfl, a2, c2⟩
          have hP : Hid (Pw 46 w (w2.setRow w1.heap.size d2) w1.heap.size (sq M)) := pw_step b19 b29 b3 hc9 c2 a2
          have hc2 := (c2.block _ b29).trans hc9
          have hall := all_one a2
          have hsz2 := a2.1
          obtain ⟨hcsz, -⟩ := HA.out
          clear c2 a2 b19 b29 b3 hc9
          go_wp2_with (refine wpList_store46 rfl _ _ rfl w1.heap.size d2 c rfl rfl hsz2 hcsz hall hc2 ?_)
          refine ⟨⟨ofL M a' 32, n' / 2, sq M, rfl, by go_num, ofL_b _ _ _, by omega, hP.out, ?_⟩, by simp [intOf]; omega⟩
          rw [← HR'.out, run_pos M a' n' hpos, if_pos hodd]
        · have hand := and1_even n' hodd
          go_wp2_with (refine wpList_load46 rfl _ rfl w1.heap.size c rfl hsz hc ?_)
          refine (squared_any c M _ HA.out).mono ?_
          rintro e2 w2 ⟨d2, rfl, a2, c2⟩
          have hP : Hid (Pw 46 w (w2.setRow w1.heap.size d2) w1.heap.size (sq M)) := pw_step b1 b2 b3 hc c2 a2
          have hc2 := (c2.block _ b2).trans hc
          have hall := all_one a2
          have hsz2 := a2.1
          obtain ⟨hcsz, -⟩ := HA.out
          clear c2 a2 b1 b2 b3 hc
          go_wp2_with (refine wpList_store46 rfl _ _ rfl w1.heap.size d2 c rfl rfl hsz2 hcsz hall hc2 ?_)
          refine ⟨⟨a', n' / 2, sq M, rfl, by go_num, ha', by omega, hP.out, ?_⟩, by simp [intOf]; omega⟩
          rw [← HR'.out, run_pos M a' n' hpos, if_neg hodd]
      · obtain rfl : n' = 0 := by omega
        go_wp2
        go_ret2
        exact ⟨ret_two (by rw [H1.out, ← HR'.out, run_zero]) H2.out.symm, b1⟩
end Jn
end Go.Proofs.Ytdphfhpohlodcaa
