import Derived.WalkKit
import Derived.Test.YtgoigcpdfecfhaaGreatDoorRows
import Derived.BigQuiet
import Derived.Deep.QuietTactic
import Derived.WalkSmall
import Derived.Handy
import Derived.Deep.OwnRows
import Derived.Deep.WholeRow
import Derived.Laws.Externs
import Derived.Deep.RegionWith
import Derived.Deep.RegionHeld
namespace Go.Proofs.YtgoigcpdfecfhaaGreatDoor
namespace Ty
set_option linter.unusedVariables false
/-- Digit i of N, to the base 2^v; the numbers below it come round. -/
def dg (v : Nat) (N : Int) (i : Nat) : Int := N / 2 ^ (v * i) % 2 ^ v
def cr (v : Nat) (A B : Int) (i : Nat) : Int := (A % 2 ^ (v * i) + B % 2 ^ (v * i)) / 2 ^ (v * i)
def bw (v : Nat) (A : Int) (i : Nat) : Int := -((-(A % 2 ^ (v * i))) / 2 ^ (v * i))
theorem pw (k : Nat) : (0 : Int) < 2 ^ k := Int.pow_pos (by decide)
theorem dg_b (v : Nat) (N : Int) (i : Nat) : 0 ≤ dg v N i ∧ dg v N i < 2 ^ v := ⟨Int.emod_nonneg _ (Int.ne_of_gt (pw v)), Int.emod_lt_of_pos _ (pw v)⟩
/-- What lies below digit i + 1. -/
theorem low_succ (P Q A : Int) (hP : 0 < P) (hQ : 0 < Q) : A % (P * Q) = P * (A / P % Q) + A % P := by
  have h1 := Int.mul_ediv_add_emod A P
  have h2 := Int.mul_ediv_add_emod (A / P) Q
  have r1 := Int.emod_nonneg A (Int.ne_of_gt hP)
  have r2 := Int.emod_lt_of_pos A hP
  have r3 := Int.emod_nonneg (A / P) (Int.ne_of_gt hQ)
  have r4 := Int.emod_lt_of_pos (A / P) hQ
  generalize A / P % Q = x at *
  generalize A % P = y at *
  have e : A = P * x + y + (P * Q) * (A / P / Q) := by
    rw [Int.mul_assoc]
    have e3 : P * (Q * (A / P / Q)) = P * (A / P - x) := by rw [show Q * (A / P / Q) = A / P - x by omega]
    rw [e3, Int.mul_sub]; omega
  rw [e, Int.add_mul_emod_self_left]
  refine Int.emod_eq_of_lt (Int.add_nonneg (Int.mul_nonneg (Int.le_of_lt hP) r3) r1) ?_
  have h5 : P * (x + 1) ≤ P * Q := Int.mul_le_mul_of_nonneg_left (by omega) (Int.le_of_lt hP)
  rw [Int.mul_add] at h5
  omega
theorem pow_succ' (v i : Nat) : (2 : Int) ^ (v * (i + 1)) = 2 ^ (v * i) * 2 ^ v := by rw [Nat.mul_succ, Int.pow_add]
theorem split (P A : Int) (hP : 0 < P) : A = P * (A / P) + A % P := (Int.mul_ediv_add_emod A P).symm
theorem div_mul (P Q x y : Int) (hP : 0 < P) (hy : 0 ≤ y) (hy2 : y < P) (hQ : 0 < Q) : (P * x + y) / (P * Q) = x / Q := by
  rw [← Int.ediv_ediv_of_nonneg (Int.le_of_lt hP), Int.add_comm, Int.add_mul_ediv_left _ _ (Int.ne_of_gt hP), Int.ediv_eq_zero_of_lt hy hy2, Int.zero_add]
theorem add_step (v : Nat) (A B : Int) (i : Nat) : (dg v A i + dg v B i + cr v A B i) % 2 ^ v = dg v (A + B) i ∧ (dg v A i + dg v B i + cr v A B i) / 2 ^ v = cr v A B (i + 1) := by
  unfold dg cr
  rw [pow_succ' v i]
  have hP := pw (v * i)
  have hQ := pw v
  generalize (2 : Int) ^ (v * i) = P at *
  generalize (2 : Int) ^ v = Q at *
  have ea := split P A hP
  have eb := split P B hP
  have ec := split P (A % P + B % P) hP
  have r1 := Int.emod_nonneg (A % P + B % P) (Int.ne_of_gt hP)
  have r2 := Int.emod_lt_of_pos (A % P + B % P) hP
  rw [low_succ P Q A hP hQ, low_succ P Q B hP hQ]
  constructor
  · have e1 : (A + B) / P = A / P + B / P + (A % P + B % P) / P := by
      have e2 : A + B = (A % P + B % P) + P * (A / P + B / P) := by rw [Int.mul_add]; omega
      rw [e2, Int.add_mul_ediv_left _ _ (Int.ne_of_gt hP)]
      have e3 : (A % P + B % P + P * (A / P + B / P)) = A + B := by omega
      omega
    rw [e1]
    have e4 : A / P % Q + B / P % Q + (A % P + B % P) / P = A / P + B / P + (A % P + B % P) / P + Q * (-(A / P / Q) - B / P / Q) := by
      have h1 := Int.mul_ediv_add_emod (A / P) Q
      have h2 := Int.mul_ediv_add_emod (B / P) Q
      rw [Int.mul_sub, Int.mul_neg]; omega
    rw [e4, Int.add_mul_emod_self_left]
  · have e1 : P * (A / P % Q) + A % P + (P * (B / P % Q) + B % P) = P * (A / P % Q + B / P % Q + (A % P + B % P) / P) + (A % P + B % P) % P := by
      rw [Int.mul_add, Int.mul_add]; omega
    rw [e1, div_mul P Q _ _ hP r1 r2 hQ]
theorem neg_step (v : Nat) (A : Int) (i : Nat) : (0 - dg v A i - bw v A i) % 2 ^ v = dg v (-A) i ∧ -((0 - dg v A i - bw v A i) / 2 ^ v) = bw v A (i + 1) := by
  unfold dg bw
  rw [pow_succ' v i]
  have hP := pw (v * i)
  have hQ := pw v
  generalize (2 : Int) ^ (v * i) = P at *
  generalize (2 : Int) ^ v = Q at *
  have ea := split P A hP
  have ec := split P (-(A % P)) hP
  have r1 := Int.emod_nonneg (-(A % P)) (Int.ne_of_gt hP)
  have r2 := Int.emod_lt_of_pos (-(A % P)) hP
  rw [low_succ P Q A hP hQ]
  constructor
  · have e1 : (-A) / P = -(A / P) + (-(A % P)) / P := by
      have e2 : -A = -(A % P) + P * (-(A / P)) := by rw [Int.mul_neg]; omega
      have e3 := Int.add_mul_ediv_left (-(A % P)) (-(A / P)) (Int.ne_of_gt hP)
      rw [← e2] at e3; omega
    rw [e1]
    have e4 : 0 - A / P % Q - -(-(A % P) / P) = -(A / P) + (-(A % P)) / P + Q * (A / P / Q) := by
      have := Int.mul_ediv_add_emod (A / P) Q; omega
    rw [e4, Int.add_mul_emod_self_left]
  · have e1 : -(P * (A / P % Q) + A % P) = P * (0 - A / P % Q - -(-(A % P) / P)) + (-(A % P)) % P := by
      rw [Int.mul_sub, Int.mul_sub, Int.mul_neg]; omega
    rw [e1, div_mul P Q _ _ hP r1 r2 hQ]
theorem cr_zero (v : Nat) (A B : Int) : cr v A B 0 = 0 := by
  unfold cr; simp [Int.emod_one]
theorem bw_zero (v : Nat) (A : Int) : bw v A 0 = 0 := by
  unfold bw; simp [Int.emod_one]
theorem cr_b (v : Nat) (A B : Int) (i : Nat) : 0 ≤ cr v A B i ∧ cr v A B i ≤ 1 := by
  unfold cr
  have hP := pw (v * i)
  generalize (2 : Int) ^ (v * i) = P at *
  have r1 := Int.emod_nonneg A (Int.ne_of_gt hP)
  have r2 := Int.emod_lt_of_pos A hP
  have r3 := Int.emod_nonneg B (Int.ne_of_gt hP)
  have r4 := Int.emod_lt_of_pos B hP
  refine ⟨Int.ediv_nonneg (by omega) (by omega), ?_⟩
  have : (A % P + B % P) / P < 2 := Int.ediv_lt_of_lt_mul hP (by omega)
  omega
theorem bw_b (v : Nat) (A : Int) (i : Nat) : 0 ≤ bw v A i ∧ bw v A i ≤ 1 := by
  unfold bw
  have hP := pw (v * i)
  generalize (2 : Int) ^ (v * i) = P at *
  have r1 := Int.emod_nonneg A (Int.ne_of_gt hP)
  have r2 := Int.emod_lt_of_pos A hP
  have h1 : (-1 : Int) ≤ (-(A % P)) / P := Int.le_ediv_of_mul_le hP (by omega)
  have h2 : (-(A % P)) / P < 1 := Int.ediv_lt_of_lt_mul hP (by omega)
  omega
end Ty
end Go.Proofs.YtgoigcpdfecfhaaGreatDoor
namespace Go.Proofs.YtgoigcpdfecfhaaGreatDoor
namespace Ty
open Go.RowKit
set_option linter.unusedVariables false
theorem two64 : (2 : Int) ^ 64 = 18446744073709551616 := by decide
def wd (N : Int) (i : Nat) : Int := N / 2 ^ (64 * i) % 18446744073709551616
theorem wd_dg (N : Int) (i : Nat) : wd N i = dg 64 N i := by unfold wd dg; rw [two64]
theorem wd_b (N : Int) (i : Nat) : 0 ≤ wd N i ∧ wd N i < 18446744073709551616 := by unfold wd; omega
/-- The six words of a number, which comes round. -/
def sm (N : Int) : Array Value := #[.int .u64 (wd N 0), .int .u64 (wd N 1), .int .u64 (wd N 2), .int .u64 (wd N 3), .int .u64 (wd N 4), .int .u64 (wd N 5)]
theorem sm_get (N : Int) (i : Nat) (h : i < 6) : (sm N)[i]? = some (.int .u64 (wd N i)) := by
  match i, h with
  | 0, _ => rfl
  | 1, _ => rfl
  | 2, _ => rfl
  | 3, _ => rfl
  | 4, _ => rfl
  | 5, _ => rfl
theorem sm_of (c : Array Value) (N : Int) (hs : c.size = 6) (h : ∀ i, i < 6 → c[i]? = some (.int .u64 (wd N i))) : c = sm N := by
  apply Array.ext_getElem?
  intro i
  by_cases hi : i < 6
  · rw [h i hi, sm_get N i hi]
  · rw [Array.getElem?_eq_none (by omega), Array.getElem?_eq_none (by show 6 ≤ i; omega)]
theorem wd_add (A B : Int) (i : Nat) : (wd A i + wd B i + cr 64 A B i) % 18446744073709551616 = wd (A + B) i ∧ (wd A i + wd B i + cr 64 A B i) / 18446744073709551616 = cr 64 A B (i + 1) := by
  have h := add_step 64 A B i
  rw [two64] at h
  rw [wd_dg, wd_dg, wd_dg]; exact h
theorem add64 (x y c : Int) (hx : 0 ≤ x) (hy : 0 ≤ y) (hc : 0 ≤ c) (hc1 : c ≤ 1) (w : World) : (callFunc 258 #[.int .u64 x, .int .u64 y, .int .u64 c]).run Tryz.prog w =
    .ok (.value (.tuple #[.int .u64 ((x + y + c) % 18446744073709551616), .int .u64 ((x + y + c) / 18446744073709551616)])) w := by
  rw [run_callFunc_extern Tryz.func258 (by kernel_rfl) (by kernel_rfl) (by kernel_rfl) (e := add64Entry) (by kernel_rfl), run_add64 x y c hx hy hc hc1]
  simp [Result.andThen]
def sub64Entry : Array Value → Sem Value := fun args => do
  let (x, y, b) ← Extern.MathBitsCarry.three "Sub64" args
  pure (Extern.MathBitsCarry.pair ((x + Extern.MathBitsCarry.m64 - y - b) % Extern.MathBitsCarry.m64) (if x < y + b then 1 else 0))
theorem run_sub64 {P : Program} (y c : Int) (hy : 0 ≤ y) (hy1 : y < 18446744073709551616) (hc0 : 0 ≤ c) (hc : c ≤ 1) (w : World) :
    (sub64Entry #[.int .u64 0, .int .u64 y, .int .u64 c]).run P w =
      .ok (.tuple #[.int .u64 ((0 - y - c) % 18446744073709551616), .int .u64 (-((0 - y - c) / 18446744073709551616))]) w := by
  have key : ∀ k : Nat, k ≤ 1 → (sub64Entry #[.int .u64 0, .int .u64 y, .int .u64 (k : Int)]).run P w =
      .ok (Extern.MathBitsCarry.pair ((0 + Extern.MathBitsCarry.m64 - y.toNat - k) % Extern.MathBitsCarry.m64) (if 0 < y.toNat + k then 1 else 0)) w := by
    intro k hk
    have : k = 0 ∨ k = 1 := by omega
    rcases this with rfl | rfl <;> rfl
  obtain ⟨k, rfl⟩ := Int.eq_ofNat_of_zero_le hc0
  rw [key k (by omega)]
  obtain ⟨Y, rfl⟩ := Int.eq_ofNat_of_zero_le hy
  simp only [Extern.MathBitsCarry.pair, Extern.MathBitsCarry.m64, Int.toNat_natCast]
  congr 4
  · congr 1
    simp only [Int.ofNat_eq_natCast]; omega
  · congr 2
    split <;> simp only [Int.ofNat_eq_natCast] <;> omega
theorem sub64 (y c : Int) (hy : 0 ≤ y) (hy1 : y < 18446744073709551616) (hc : 0 ≤ c) (hc1 : c ≤ 1) (w : World) : (callFunc 257 #[.int .u64 0, .int .u64 y, .int .u64 c]).run Tryz.prog w =
    .ok (.value (.tuple #[.int .u64 ((0 - y - c) % 18446744073709551616), .int .u64 (-((0 - y - c) / 18446744073709551616))])) w := by
  rw [run_callFunc_extern Tryz.func257 (by kernel_rfl) (by kernel_rfl) (by kernel_rfl) (e := sub64Entry) (by kernel_rfl), run_sub64 y c hy hy1 hc hc1]
  simp [Result.andThen]
theorem wd_neg (A : Int) (i : Nat) : (0 - wd A i - bw 64 A i) % 18446744073709551616 = wd (-A) i ∧ -((0 - wd A i - bw 64 A i) / 18446744073709551616) = bw 64 A (i + 1) := by
  have h := neg_step 64 A i
  rw [two64] at h
  rw [wd_dg, wd_dg]; exact h
theorem wd_mod (A : Int) (i : Nat) (h : i < 6) : wd (A % 2 ^ 384) i = wd A i := by
  have e : (2 : Int) ^ 384 = 2 ^ (64 * i) * (18446744073709551616 * 2 ^ (384 - 64 * (i + 1))) := by
    rw [← two64, ← Int.pow_add, ← Int.pow_add]; congr 1; omega
  unfold wd
  rw [e]
  have hP := pw (64 * i)
  have hR := pw (384 - 64 * (i + 1))
  generalize (2 : Int) ^ (64 * i) = P at *
  generalize (2 : Int) ^ (384 - 64 * (i + 1)) = R at *
  have hQ : 0 < 18446744073709551616 * R := by omega
  rw [low_succ P _ A hP hQ, Int.add_comm, Int.add_mul_ediv_left _ _ (Int.ne_of_gt hP), Int.ediv_eq_zero_of_lt (Int.emod_nonneg _ (Int.ne_of_gt hP)) (Int.emod_lt_of_pos _ hP), Int.zero_add]
  rw [Int.emod_emod_of_dvd _ (Int.dvd_mul_right _ _)]
end Ty
end Go.Proofs.YtgoigcpdfecfhaaGreatDoor
namespace Go.Proofs.YtgoigcpdfecfhaaGreatDoor
namespace Ty
open Go.RowKit
set_option linter.unusedVariables false
theorem sizeSum : (Tryz.prog.info? 175).map (·.size) = some 6 := by kernel_rfl
theorem sizeRSum : (Tryz.prog.info? 159).map (·.size) = some 6 := by kernel_rfl
theorem loadAt6 (t e : TypeId) (hu : Tryz.prog.underlying t = some (.array 6 e)) (hi : (Tryz.prog.info? t).map (·.size) = some 6) (w : World) (b : Nat) (c : Array Value) (hs : c.size = 6) (h : w.heap[b]? = some (.cells c t (0, 0))) :
    (Instr.loadAt t (.pointer (some ⟨b, 0, none⟩))).run Tryz.prog w = .ok (.agg c) w := by
  simp only [Instr.loadAt, Instr.sureAddr, Sem.run_bind, Sem.run_pure, Result.andThen]
  exact run_loadVar_row _ _ t t c (0, 0) _ h hu rfl (by rw [hs]; exact hi)
theorem storeAt6 (t : TypeId) (hi : (Tryz.prog.info? t).map (·.size) = some 6) (w : World) (b : Nat) (c old : Array Value) (hs : c.size = 6) (ho : old.size = 6) (h1 : c.all (·.oneCell') = true) (h : w.heap[b]? = some (.cells old t (0, 0))) :
    (Instr.storeAt t (.pointer (some ⟨b, 0, none⟩)) (.agg c)).run Tryz.prog w = .ok () (w.setRow b c) := by
  simp only [Instr.storeAt, Instr.sureAddr, Sem.run_bind, Sem.run_pure, Result.andThen]
  exact run_storeVar_row _ _ t t old c h (by rw [hs]; exact hi) (by omega) h1
theorem wpList_load6 (t e : TypeId) (hu : Tryz.prog.underlying t = some (.array 6 e)) (hi : (Tryz.prog.info? t).map (·.size) = some 6) {w : World} {ops : Array Oper} {rest : List Oper} {o : Oper} {a : Act} {Q : Exit → Act → World → Prop} (hgd : o.guard = none) (s : Operand) (ho : o.op = .load t s)
    (b : Nat) (c : Array Value) (hs : a.eval s = .pointer (some ⟨b, 0, none⟩)) (hsz : c.size = 6) (hh : w.heap[b]? = some (.cells c t (0, 0)))
    (h : wpList Tryz.prog ops Q rest (a.put o.dst (.agg c)) w) : wpList Tryz.prog ops Q (o :: rest) a w := by
  refine wpList_plain hgd fun K hK => ?_
  unfold Oper.wp execOp
  simp only [ho, hs, Sem.run_bind, Sem.run_pure, Result.andThen_ok, loadAt6 t e hu hi w b c hsz hh]
  exact hK _ _ h
theorem wpList_store6 (t : TypeId) (hi : (Tryz.prog.info? t).map (·.size) = some 6) {w : World} {ops : Array Oper} {rest : List Oper} {o : Oper} {a : Act} {Q : Exit → Act → World → Prop} (hgd : o.guard = none) (s x : Operand) (ho : o.op = .store t s x)
    (b : Nat) (c old : Array Value) (hs : a.eval s = .pointer (some ⟨b, 0, none⟩)) (hx : a.eval x = .agg c) (hsz : c.size = 6) (hoz : old.size = 6) (h1 : c.all (·.oneCell') = true) (hh : w.heap[b]? = some (.cells old t (0, 0)))
    (h : wpList Tryz.prog ops Q rest (a.put o.dst undef) (w.setRow b c)) : wpList Tryz.prog ops Q (o :: rest) a w := by
  refine wpList_plain hgd fun K hK => ?_
  unfold Oper.wp execOp
  simp only [ho, hs, hx, Sem.run_bind, Sem.run_pure, Result.andThen_ok, storeAt6 t hi w b c old hsz hoz h1 hh]
  exact hK _ _ h
theorem sm_one (N : Int) : (sm N).all (·.oneCell') = true := by
  rw [Array.all_eq_true]
  intro i hi
  have h1 := sm_get N i hi
  rw [Array.getElem?_eq_getElem hi] at h1
  rw [Option.some.inj h1]; rfl
theorem row_sm {w : World} {b : Nat} {t : TypeId} {N : Int} (h : w.heap[b]? = some (.cells (sm N) t (0, 0))) : w.rowIs b t 6 (fun i => .int .u64 (wd N i)) :=
  ⟨_, h, rfl, fun i hi => sm_get N i hi⟩
theorem sm_row {w : World} {b : Nat} {t : TypeId} {N : Int} (h : w.rowIs b t 6 (fun i => .int .u64 (wd N i))) : w.heap[b]? = some (.cells (sm N) t (0, 0)) := by
  obtain ⟨c, h1, h2, h3⟩ := h
  rw [h1, sm_of c N h2 h3]
theorem blk_alloc (w : World) (o : Obj) (b : Nat) (h : b < w.heap.size) : (w.alloc o).heap[b]? = w.heap[b]? := by
  show (w.heap.push o)[b]? = _
  rw [Array.getElem?_push, if_neg (by omega)]
theorem heap_two (w : World) (o1 o2 : Obj) : ((w.alloc o1).alloc o2).heap[w.heap.size]? = some o1 ∧ ((w.alloc o1).alloc o2).heap[w.heap.size + 1]? = some o2 := by
  show ((w.heap.push o1).push o2)[w.heap.size]? = some o1 ∧ ((w.heap.push o1).push o2)[w.heap.size + 1]? = some o2
  constructor
  · rw [Array.getElem?_push, if_neg (by simp), Array.getElem?_push, if_pos rfl]
  · rw [Array.getElem?_push, if_pos (by simp)]
theorem heap_three (w : World) (o1 o2 o3 : Obj) : (((w.alloc o1).alloc o2).alloc o3).heap[w.heap.size]? = some o1 ∧ (((w.alloc o1).alloc o2).alloc o3).heap[w.heap.size + 1]? = some o2 ∧ (((w.alloc o1).alloc o2).alloc o3).heap[w.heap.size + 1 + 1]? = some o3 := by
  obtain ⟨h1, h2⟩ := heap_two w o1 o2
  refine ⟨(blk_alloc _ _ _ (by simp; omega)).trans h1, (blk_alloc _ _ _ (by simp)).trans h2, ?_⟩
  have h3 := heap_alloc_last ((w.alloc o1).alloc o2) o3
  have e : ((w.alloc o1).alloc o2).heap.size = w.heap.size + 1 + 1 := by simp
  rw [e] at h3; exact h3
theorem zero_wd (i : Nat) : wd 0 i = 0 := by unfold wd; simp
theorem zeros_sm : #[Value.int .u64 0, .int .u64 0, .int .u64 0, .int .u64 0, .int .u64 0, .int .u64 0] = sm 0 := by
  unfold sm; simp only [zero_wd]
theorem below_setRow {w wr : World} (b : Nat) (c : Array Value) (h : Below w.heap.size w wr) (hb : w.heap.size ≤ b) : Below w.heap.size w (wr.setRow b c) :=
  h.trans ⟨rfl, rfl, rfl, by simp, fun k hk => setRow_other wr _ k c (by omega)⟩
/-- What the variables of 'Merge' hold behind k rounds. -/
def MMid (w wr : World) (A B : Int) (k : Nat) : Prop :=
  Below w.heap.size w wr ∧ wr.rowIs w.heap.size 175 6 (fun i => .int .u64 (if i < k then wd (A + B) i else wd A i)) ∧
  wr.rowIs (w.heap.size + 1) 175 6 (fun i => .int .u64 (wd B i)) ∧ wr.rowIs (w.heap.size + 1 + 1) 175 6 (fun i => .int .u64 (wd 0 i))
theorem mm_start (w : World) (A B : Int) : MMid w (((w.alloc (.cells (sm A) 175)).alloc (.cells (sm B) 175)).alloc (.cells (sm 0) 175)) A B 0 := by
  obtain ⟨h1, h2, h3⟩ := heap_three w (.cells (sm A) 175) (.cells (sm B) 175) (.cells (sm 0) 175)
  refine ⟨(((Below.refl _ _).alloc (Nat.le_refl _) _).alloc (by simp) _).alloc (by simp; omega) _, (row_sm h1).congr (fun i hi => by simp), row_sm h2, row_sm h3⟩
theorem mm_step {w wr : World} {A B : Int} {k : Nat} (hm : MMid w wr A B k) : MMid w (wr.drew.setCell ⟨w.heap.size, k, none⟩ (.int .u64 ((wd A k + wd B k + cr 64 A B k) % 18446744073709551616))) A B (k + 1) := by
  obtain ⟨b1, r0, r1, r2⟩ := hm
  refine ⟨b1.drew.setCell (Nat.le_refl _) _, ?_, (r1.of_block rfl).setOther (by show w.heap.size + 1 ≠ w.heap.size; omega) _, (r2.of_block rfl).setOther (by show w.heap.size + 1 + 1 ≠ w.heap.size; omega) _⟩
  refine (World.rowIs.set (w := wr.drew) (r0.of_block rfl) k _).congr (fun i hi => ?_)
  by_cases e : i = k
  · subst e; simp [(wd_add A B i).1]
  · simp only [e, if_false]
    by_cases h : i < k
    · rw [if_pos h, if_pos (by omega)]
    · rw [if_neg h, if_neg (by omega)]
set_option maxHeartbeats 800000 in
theorem merge_any (A B : Int) (w : World) :
    Calls Tryz.prog 240 #[.agg (sm A), .agg (sm B)] w fun e w' => e = .returned (.agg (sm (A + B))) ∧ Below w.heap.size w w' := by
  have h0 := mm_start w A B
  rw [← zeros_sm] at h0
  have hone := sm_one (A + B)
  have hz6 : (sm (A + B)).size = 6 := rfl
  generalize hsa : sm A = ca at *
  generalize hsb : sm B = cb at *
  go_enter Tryz.func240, Tryz.ntmps240
  go_wp2
  go_loopw [5, 7] (fun c i wr => ∃ k : Nat, k ≤ 6 ∧ i = .int .i64 k ∧ c = .int .u64 (cr 64 A B k) ∧ MMid w wr A B k) (fun _ i _ => 6 - (intOf i).toNat)
  case atStart => exact ⟨0, by omega, rfl, by rw [cr_zero], h0⟩
  case round =>
    clear h0 hsa hsb
    obtain ⟨k, hk, rfl, rfl, hm⟩ := hrel
    by_cases hlt : k < 6
    · have HM : Hid (MMid w (wr.drew.setCell ⟨w.heap.size, k, none⟩ (.int .u64 ((wd A k + wd B k + cr 64 A B k) % 18446744073709551616))) A B (k + 1)) := mm_step hm
      have HC : Hid ((wd A k + wd B k + cr 64 A B k) / 18446744073709551616 = cr 64 A B (k + 1)) := (wd_add A B k).2
      obtain ⟨b1, r0, r1, r2⟩ := hm
      have c0 := r0.cell hlt
      have c1 := r1.cell hlt
      have f0 := r0.frozen k
      simp only [Nat.lt_irrefl, if_false] at c0
      clear r0 r1 r2 b1 hone hz6
      have hcr := cr_b 64 A B k
      have ha := (wd_b A k).1
      have hb := (wd_b B k).1
      have hA := fun w' => add64 _ _ _ ha hb hcr.1 hcr.2 w'
      clear hcr ha hb
      generalize wd A k = x at *
      generalize wd B k = y at *
      generalize hcc : cr 64 A B k = c at *
      go_wp2
      go_region_with (simp only [hA])
      all_goals (go_wp2; exact ⟨⟨k + 1, by omega, by go_num, by rw [HC.out], HM.out⟩, by simp [intOf]; omega⟩)
    · obtain rfl : k = 6 := by omega
      obtain ⟨b1, r0, r1, r2⟩ := hm
      have q0 := sm_row (N := A + B) (r0.congr (fun i hi => by rw [if_pos hi]))
      have q2 := sm_row (N := 0) r2
      have hbel := below_setRow (w.heap.size + 1 + 1) (sm (A + B)) b1 (by omega)
      have hld : (loadVar 175 ⟨w.heap.size + 1 + 1, 0, none⟩).run Tryz.prog (wr.setRow (w.heap.size + 1 + 1) (sm (A + B))) = .ok (.agg (sm (A + B))) (wr.setRow (w.heap.size + 1 + 1) (sm (A + B))) :=
        run_loadVar_row _ _ 175 175 _ (0, 0) _ (setRow_heap wr (w.heap.size + 1 + 1) _ _ 175 (0, 0) q2) Tryz.underlying175 rfl sizeSum
      clear r0 r1 r2
      go_wp2_with (first
        | (refine wpList_load6 175 _ Tryz.underlying175 sizeSum rfl _ rfl w.heap.size (sm (A + B)) rfl rfl q0 ?_)
        | (refine wpList_store6 175 sizeSum rfl _ _ rfl (w.heap.size + 1 + 1) (sm (A + B)) (sm 0) rfl rfl rfl rfl hone q2 ?_))
      refine bodyPost_ret (v := .agg (sm (A + B))) ?_ rfl ⟨rfl, hbel⟩
      simp [results, Tryz.results240, asAddr, Act.put, hld]
end Ty
end Go.Proofs.YtgoigcpdfecfhaaGreatDoor
