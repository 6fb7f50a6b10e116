import Derived.Test.YtgoigcpdfecfhaaGreatDoorKtA
import Derived.Test.YtgoigcpdfecfhaaGreatDoorRnZ
import Derived.Laws.Externs
import Derived.Laws.BitsAllLaws
namespace Go.Proofs.YtgoigcpdfecfhaaGreatDoor
namespace Kt
open Go.RowKit Ieee Rn
set_option linter.unusedVariables false
set_option maxRecDepth 8000
theorem tobits (b : Nat) (w : World) : (callFunc 119 #[.float .f32 b]).run Tryz.prog w = .ok (.value (.int .u32 b)) w := by
  rw [run_callFunc_extern Tryz.func119 (by kernel_rfl) (by kernel_rfl) (by kernel_rfl) (e := Extern.MathFloatBits.float32bits) (by kernel_rfl)]
  rfl
theorem bits_any (b : Nat) (w : World) : Calls Tryz.prog 71 #[.float .f32 b] w fun e w' => e = .returned (.int .u32 b) ∧ w' = w := by
  have h := tobits b w
  go_enter Tryz.func71, Tryz.ntmps71
  go_wp2
  go_ret
  exact ⟨rfl, rfl⟩
theorem fdiv_run {x y r : Nat} (h : Ieee.single.div x y = some r) (W : World) : (binOp .quo 98 (.float .f32 x) (.float .f32 y)).run Tryz.prog W = .ok (.float .f32 r) W := by
  show (Op.floatArith .quo .f32 x y).run Tryz.prog W = _
  unfold Op.floatArith
  simp [FloatKind.format, h]
theorem fconv_run (n : Int) (W : World) : (convert 28 98 (.int .u64 n)).run Tryz.prog W = .ok (.float .f32 (Ieee.single.nearest (decide (n < 0)) n.natAbs 0)) W := by
  unfold convert
  simp only [Sem.run_bind, run_underlying Tryz.underlying28, run_underlying Tryz.underlying98, Result.andThen_ok]
  rfl
theorem whole_any (x : Int) (h0 : 0 ≤ x) (h1 : x < 18446744073709551616) (w : World) : Calls Tryz.prog 113 #[.int .u64 x] w fun e w' => e = .returned (.int .u32 (Rd.rnd false x 0)) ∧ w' = w := by
  have HR := hide (Rd.ref_any false x 0 h0 h1 (by omega) (by omega))
  clear h0 h1
  go_enter Tryz.func113, Tryz.ntmps113
  go_wp2_with (fail)
  refine (HR.out _).mono ?_
  rintro e1 w1 ⟨rfl, hw1⟩
  subst w1
  go_wp2
  go_ret
  exact ⟨rfl, rfl⟩
/-- A whole number as a float32. -/
theorem wh (x : Int) (h0 : 0 < x) (h1 : x < 18446744073709551616) : single.nearest (decide (x < 0)) x.natAbs 0 = (Rd.rnd false x 0).toNat ∧ 8388608 ≤ Rd.rnd false x 0 ∧ Rd.rnd false x 0 < 2139095040 := by
  obtain ⟨z, rfl⟩ := Int.eq_ofNat_of_zero_le (show 0 ≤ x by omega)
  have hd : decide ((z : Int) < 0) = false := by simp
  rw [hd, Int.natAbs_natCast, ← Fl.nearest_rnd false z 0 (by omega) (by omega) (by omega), Int.toNat_natCast]
  have := Fl.whole_b z (by omega) (by omega)
  omega
/-- How great it is, about. -/
theorem wh_e (x : Int) (h0 : 0 < x) (h1 : x < 18446744073709551616) : 127 ≤ Rd.rnd false x 0 / 8388608 ∧ Rd.rnd false x 0 / 8388608 ≤ 191 := by
  obtain ⟨z, rfl⟩ := Int.eq_ofNat_of_zero_le (show 0 ≤ x by omega)
  rw [← Fl.nearest_rnd false z 0 (by omega) (by omega) (by omega)]
  have hz : z ≠ 0 := by omega
  have hlb := (Nat.log2_eq_iff hz).1 rfl
  have hl64 : z.log2 < 64 := (Nat.log2_lt hz).2 (by omega)
  have e : Fl.lst z 0 = (z.log2 : Int) - 23 := by unfold Fl.lst; omega
  rw [Fl.nearest_raw false z 0 hz, e]
  have hq : 2 ^ (z.log2 + 1) * 2 ^ (0 - ((z.log2 : Int) - 23)).toNat = 16777216 * 2 ^ ((z.log2 : Int) - 23 - 0).toNat := by
    rw [show (16777216 : Nat) = 2 ^ 24 from rfl, ← Nat.pow_add, ← Nat.pow_add]; congr 1; omega
  have hq2 : 2 ^ z.log2 * 2 ^ (0 - ((z.log2 : Int) - 23)).toNat = 8388608 * 2 ^ ((z.log2 : Int) - 23 - 0).toNat := by
    rw [show (8388608 : Nat) = 2 ^ 23 from rfl, ← Nat.pow_add, ← Nat.pow_add]; congr 1; omega
  have hr : Fl.rhe (z * 2 ^ (0 - ((z.log2 : Int) - 23)).toNat) (2 ^ ((z.log2 : Int) - 23 - 0).toNat) ≤ 16777216 := by
    refine Fl.rhe_le _ _ _ (Nat.two_pow_pos _) ?_
    rw [← hq]; exact Nat.mul_le_mul_right _ (by omega)
  have hr2 : 8388608 ≤ Fl.rhe (z * 2 ^ (0 - ((z.log2 : Int) - 23)).toNat) (2 ^ ((z.log2 : Int) - 23 - 0).toNat) := by
    refine Fl.rhe_ge _ _ _ (Nat.two_pow_pos _) ?_
    rw [← hq2]; exact Nat.mul_le_mul_right _ hlb.1
  generalize Fl.rhe (z * 2 ^ (0 - ((z.log2 : Int) - 23)).toNat) (2 ^ ((z.log2 : Int) - 23 - 0).toNat) = R at *
  unfold Fl.wd
  simp only [Bool.false_eq_true, if_false]
  omega
/-- The share. -/
def sh (c m : Int) : Int := if m = 0 then 0 else if c = 0 then 0 else dv (Rd.rnd false c 0) (Rd.rnd false m 0)
theorem rnd00 : Rd.rnd false 0 0 = 0 := by decide
end Kt
end Go.Proofs.YtgoigcpdfecfhaaGreatDoor
namespace Go.Proofs.YtgoigcpdfecfhaaGreatDoor
namespace Kt
open Go.RowKit Ieee Rn
set_option linter.unusedVariables false
set_option maxRecDepth 8000
/-- One of the sixteen numbers. -/
def nb (z : Int) (k : Nat) : Int := z / 2 ^ (4 * k) % 16
theorem nb_b (z : Int) (k : Nat) : 0 ≤ nb z k ∧ nb z k < 16 := by unfold nb; omega
def ar (z : Int) (i : Nat) : Array Value := Array.ofFn (n := 16) fun k => .int .u64 (if k.val < i then nb z k.val else 0)
theorem ar_size (z : Int) (i : Nat) : (ar z i).size = 16 := by unfold ar; simp
theorem ar_at (z : Int) (i k : Nat) (h : k < 16) : (ar z i)[k]? = some (.int .u64 (if k < i then nb z k else 0)) := by
  unfold ar; rw [Array.getElem?_ofFn]; simp [h]
theorem ar_zero (z : Int) : ar z 0 = #[.int .u64 0, .int .u64 0, .int .u64 0, .int .u64 0, .int .u64 0, .int .u64 0, .int .u64 0, .int .u64 0, .int .u64 0, .int .u64 0, .int .u64 0, .int .u64 0, .int .u64 0, .int .u64 0, .int .u64 0, .int .u64 0] := rfl
theorem ar_set (z : Int) (i : Nat) (h : i < 16) : (ar z i).setIfInBounds i (.int .u64 (nb z i)) = ar z (i + 1) := by
  apply Array.ext
  · simp [ar_size]
  · intro k h1 h2
    have hk : k < 16 := by rw [ar_size] at h2; exact h2
    rw [Array.getElem_setIfInBounds]
    have e1 : ∀ j, (ar z j)[k]? = some (.int .u64 (if k < j then nb z k else 0)) := fun j => ar_at z j k hk
    have e2 : (ar z (i + 1))[k]'h2 = .int .u64 (if k < i + 1 then nb z k else 0) := by
      have := e1 (i + 1); rw [Array.getElem?_eq_getElem (by rw [ar_size]; exact hk)] at this; exact Option.some.inj this
    have e3 : (ar z i)[k]'(by rw [ar_size]; exact hk) = .int .u64 (if k < i then nb z k else 0) := by
      have := e1 i; rw [Array.getElem?_eq_getElem (by rw [ar_size]; exact hk)] at this; exact Option.some.inj this
    rw [e2]
    by_cases c : i = k
    · subst c; rw [if_pos rfl, if_pos (by omega)]
    · rw [if_neg c, e3]
      by_cases d : k < i
      · rw [if_pos d, if_pos (by omega)]
      · rw [if_neg d, if_neg (by omega)]
    rw [ar_size]; exact hk
theorem and15 (x : Int) (h0 : 0 ≤ x) (h1 : x < 18446744073709551616) : bits .and .u64 x 15 = x % 16 := by
  rw [u64_and x 15 h0 h1 (by omega) (by omega)]
  obtain ⟨n, rfl⟩ := Int.eq_ofNat_of_zero_le h0
  rw [Int.toNat_natCast, show (15 : Int).toNat = 2 ^ 4 - 1 from rfl, Nat.and_two_pow_sub_one_eq_mod]; simp
theorem div_b (z : Int) (j : Nat) (h0 : 0 ≤ z) (h1 : z < 18446744073709551616) : 0 ≤ z / 2 ^ j ∧ z / 2 ^ j < 18446744073709551616 := by
  have hp : (0 : Int) < 2 ^ j := by exact_mod_cast Nat.two_pow_pos j
  exact ⟨Int.ediv_nonneg h0 (by omega), Int.lt_of_le_of_lt (Int.ediv_le_self _ h0) h1⟩
theorem below_setRow {B b : Nat} {w wr : World} (h : Below B w wr) (hb : B ≤ b) (c : Array Value) : Below B w (wr.setRow b c) :=
  h.trans ⟨rfl, rfl, rfl, by simp, fun k hk => setRow_other wr _ k c (by omega)⟩
theorem ar_one (z : Int) (i : Nat) : (ar z i).all (·.oneCell') = true := by
  unfold ar
  rw [Array.all_eq_true]
  intro k hk
  simp [Value.oneCell']
theorem wpList_storeN (n : Nat) (t : TypeId) (hi : (Tryz.prog.info? t).map (·.size) = some n) {w : World} {ops : Array Oper} {rest : List Oper} {o : Oper} {a : Act} {Q : Exit → Act → World → Prop} (hgd : o.guard = none) (s x : Operand) (ho : o.op = .store t s x)
    (b : Nat) (c old : Array Value) (hs : a.eval s = .pointer (some ⟨b, 0, none⟩)) (hx : a.eval x = .agg c) (hsz : c.size = n) (hoz : old.size = n) (h1 : c.all (·.oneCell') = true) (hh : w.heap[b]? = some (.cells old t (0, 0)))
    (h : wpList Tryz.prog ops Q rest (a.put o.dst undef) (w.setRow b c)) : wpList Tryz.prog ops Q (o :: rest) a w := by
  have hl : (Instr.storeAt t (.pointer (some ⟨b, 0, none⟩)) (.agg c)).run Tryz.prog w = .ok () (w.setRow b c) := by
    simp only [Instr.storeAt, Instr.sureAddr, Sem.run_bind, Sem.run_pure, Result.andThen]
    exact run_storeVar_row _ _ t t old c hh (by rw [hsz]; exact hi) (by omega) h1
  refine wpList_plain hgd fun K hK => ?_
  unfold Oper.wp execOp
  simp only [ho, hs, hx, Sem.run_bind, Sem.run_pure, Result.andThen_ok, hl]
  exact hK _ _ h
end Kt
end Go.Proofs.YtgoigcpdfecfhaaGreatDoor
namespace Go.Proofs.YtgoigcpdfecfhaaGreatDoor
namespace Kt
open Go.RowKit Ieee Rn
set_option linter.unusedVariables false
set_option maxRecDepth 8000
/-- The sum, in parts of which 2^15 make 1. -/
def pt (z : Int) : Nat → Int
  | 0 => 0
  | i + 1 => pt z i + 2 ^ (15 - nb z i).toNat
theorem p2_b (z : Int) (i : Nat) : (1 : Int) ≤ 2 ^ (15 - nb z i).toNat ∧ (2 : Int) ^ (15 - nb z i).toNat ≤ 32768 := by
  have h : (15 - nb z i).toNat ≤ 15 := by have := nb_b z i; omega
  have a1 : 2 ^ (15 - nb z i).toNat ≤ 2 ^ 15 := Nat.pow_le_pow_right (by omega) h
  have a2 : 1 ≤ 2 ^ (15 - nb z i).toNat := Nat.two_pow_pos _
  have e : (2 : Int) ^ (15 - nb z i).toNat = ((2 ^ (15 - nb z i).toNat : Nat) : Int) := by simp
  rw [e]; omega
theorem pt_b (z : Int) (i : Nat) : (i : Int) ≤ pt z i ∧ pt z i ≤ 32768 * i := by
  induction i with
  | zero => exact ⟨Int.le_refl _, Int.le_refl _⟩
  | succ i ih => unfold pt; have := p2_b z i; omega
theorem fconv_int (n : Int) (W : World) : (convert 3 98 (.int .i64 n)).run Tryz.prog W = .ok (.float .f32 (Ieee.single.nearest (decide (n < 0)) n.natAbs 0)) W := by
  unfold convert
  simp only [Sem.run_bind, run_underlying Tryz.underlying3, run_underlying Tryz.underlying98, Result.andThen_ok]
  rfl
/-- Parts of 2^15, as a float32. -/
theorem pf (x : Int) (h0 : 16 ≤ x) (h1 : x ≤ 524288) : ∃ r : Nat, single.div (single.nearest (decide (x < 0)) x.natAbs 0) 1191182336 = some r ∧ (r : Int) = Rd.rnd false x (-15) ∧ 8388608 ≤ Rd.rnd false x (-15) ∧ Rd.rnd false x (-15) < 2139095040 ∧ 100 ≤ Rd.rnd false x (-15) / 8388608 := by
  obtain ⟨z, rfl⟩ := Int.eq_ofNat_of_zero_le (show 0 ≤ x by omega)
  have hd : decide ((z : Int) < 0) = false := by simp
  rw [hd, Int.natAbs_natCast]
  refine ⟨_, Fl.div_pow z 15 (by omega) (by omega) (by omega), Fl.nearest_rnd false z _ (by omega) (by omega) (by omega), ?_⟩
  rw [← Fl.nearest_rnd false z (-15) (by omega) (by omega) (by omega)]
  have hz : z ≠ 0 := by omega
  have hlb := (Nat.log2_eq_iff hz).1 rfl
  have hl64 : z.log2 < 24 := (Nat.log2_lt hz).2 (by omega)
  have e : Fl.lst z (-15) = (z.log2 : Int) - 38 := by unfold Fl.lst; omega
  have b1 : z * 2 ^ (23 - z.log2) < 16777216 := by
    have := Nat.mul_lt_mul_of_pos_right hlb.2 (Nat.two_pow_pos (23 - z.log2))
    rw [← Nat.pow_add, show z.log2 + 1 + (23 - z.log2) = 24 by omega] at this; exact this
  rw [Fl.nearest_raw false z (-15) hz, e, show ((z.log2 : Int) - 38 - -15).toNat = 0 by omega, Nat.pow_zero, Fl.rhe_one, show (-15 - ((z.log2 : Int) - 38)).toNat = 23 - z.log2 by omega, show ((z.log2 : Int) - 38 + 149).toNat = z.log2 + 111 by omega]
  generalize z * 2 ^ (23 - z.log2) = X at *
  unfold Fl.wd
  simp only [Bool.false_eq_true, if_false]
  omega
/-- The size. -/
def siz (z : Int) : Int := dv 1126975930 (Rd.rnd false (pt z 16) (-15))
theorem shr15 (x : Int) (h0 : 0 ≤ x) (h1 : x < 16) : (32768 : Int) / 2 ^ x.toNat = 2 ^ (15 - x).toNat := by
  obtain ⟨n, rfl⟩ := Int.eq_ofNat_of_zero_le h0
  rw [Int.toNat_natCast, show (15 - (n : Int)).toNat = 15 - n by omega]
  have e : (2 : Int) ^ n * 2 ^ (15 - n) = 32768 := by
    rw [← Int.pow_add, show n + (15 - n) = 15 by omega]; rfl
  rw [← e]
  exact Int.mul_ediv_cancel_left _ (Int.ne_of_gt (by exact_mod_cast Nat.two_pow_pos n))
set_option maxHeartbeats 2000000 in
theorem rsize_any (z : Int) (hz0 : 0 ≤ z) (hz1 : z < 18446744073709551616) (w : World) : Calls Tryz.prog 107 #[.int .u64 z] w fun e w' => e = .returned (.int .u32 (siz z)) ∧ Below w.heap.size w w' := by
  have ptb := pt_b z 16
  obtain ⟨r, e1, e2, e3, e4, e5⟩ := pf (pt z 16) (by omega) (by omega)
  have HR := hide (Rd.ref_any false (pt z 16) (-15) (by omega) (by omega) (by omega) (by omega))
  have HD := hide (divf_any 1126975930 (Rd.rnd false (pt z 16) (-15)) (by omega) (by omega) e3 e4)
  have HV : Hid (siz z = dv 1126975930 (Rd.rnd false (pt z 16) (-15))) := rfl
  rw [HV.out]
  clear ptb e1 e2 e3 e4 e5 HV
  go_enter Tryz.func107, Tryz.ntmps107
  go_wp2
  go_loop [3, 4] (fun p v => ∃ i : Nat, i ≤ 16 ∧ v = .int .i64 i ∧ p = .int .u64 (pt z i)) (fun _ v => 16 - (intOf v).toNat)
  case atStart => exact ⟨0, by omega, rfl, rfl⟩
  case round =>
    obtain ⟨i, hi, rfl, rfl⟩ := hrel
    have b0 := pt_b z i
    by_cases c : i < 16
    · have hn := nb_b z i
      have hp := p2_b z i
      have HS : Hid (pt z (i + 1) = pt z i + 2 ^ (15 - nb z i).toNat) := rfl
      have hb0 : 0 ≤ pt z i := by omega
      have hb1 : pt z i ≤ 524288 := by omega
      obtain ⟨hn0, hn1⟩ := hn
      obtain ⟨hp0, hp1⟩ := hp
      have hX : (z / 2 ^ (4 * i)).tmod 16 = nb z i := by rw [Int.tmod_eq_emod_of_nonneg (div_b z _ hz0 hz1).1]; rfl
      have hY := shr15 (nb z i) hn0 hn1
      clear b0
      go_wp2
      exact ⟨⟨i + 1, by omega, by first | rfl | congr 1, rfl⟩, by simp [intOf]; omega⟩
    · have hi2 : i = 16 := by omega
      rw [show pt z i = pt z 16 by rw [hi2]]
      have c2 : ¬ ((i : Int) < 16) := by omega
      clear b0 hi2 c hi
      go_wp2_with (fail)
      refine (HR.out _).mono ?_
      rintro e9 w9 ⟨rfl, hw9⟩
      subst w9
      go_wp2_with (fail)
      refine (HD.out _).mono ?_
      rintro e9 w9 ⟨rfl, hw9⟩
      go_wp2
      all_goals go_ret
      all_goals exact ⟨rfl, hw9⟩
end Kt
end Go.Proofs.YtgoigcpdfecfhaaGreatDoor
