import Derived.Test.YtobhmadckoemdaaKtB
import Derived.Laws.BitsAllLaws
namespace Go.Proofs.Ytobhmadckoemdaa
namespace Kt
open Go.RowKit Ieee Rn
set_option linter.unusedVariables false
set_option maxRecDepth 8000
/-- One of the sixteen numbers. -/
def nb (z : Int) (k : Nat) : Int := z / 2 ^ (4 * k) % 16
theorem nb_b (z : Int) (k : Nat) : 0 ≤ nb z k ∧ nb z k < 16 := by unfold nb; omega
def ar (z : Int) (i : Nat) : Array Value := Array.ofFn (n := 16) fun k => .int .u64 (if k.val < i then nb z k.val else 0)
theorem ar_size (z : Int) (i : Nat) : (ar z i).size = 16 := by unfold ar; simp
theorem ar_at (z : Int) (i k : Nat) (h : k < 16) : (ar z i)[k]? = some (.int .u64 (if k < i then nb z k else 0)) := by
  unfold ar; rw [Array.getElem?_ofFn]; simp [h]
theorem ar_zero (z : Int) : ar z 0 = #[.int .u64 0, .int .u64 0, .int .u64 0, .int .u64 0, .int .u64 0, .int .u64 0, .int .u64 0, .int .u64 0, .int .u64 0, .int .u64 0, .int .u64 0, .int .u64 0, .int .u64 0, .int .u64 0, .int .u64 0, .int .u64 0] := rfl
theorem ar_set (z : Int) (i : Nat) (h : i < 16) : (ar z i).setIfInBounds i (.int .u64 (nb z i)) = ar z (i + 1) := by
  apply Array.ext
  · simp [ar_size]
  · intro k h1 h2
    have hk : k < 16 := by rw [ar_size] at h2; exact h2
    rw [Array.getElem_setIfInBounds]
    have e1 : ∀ j, (ar z j)[k]? = some (.int .u64 (if k < j then nb z k else 0)) := fun j => ar_at z j k hk
    have e2 : (ar z (i + 1))[k]'h2 = .int .u64 (if k < i + 1 then nb z k else 0) := by
      have := e1 (i + 1); rw [Array.getElem?_eq_getElem (by rw [ar_size]; exact hk)] at this; exact Option.some.inj this
    have e3 : (ar z i)[k]'(by rw [ar_size]; exact hk) = .int .u64 (if k < i then nb z k else 0) := by
      have := e1 i; rw [Array.getElem?_eq_getElem (by rw [ar_size]; exact hk)] at this; exact Option.some.inj this
    rw [e2]
    by_cases c : i = k
    · subst c; rw [if_pos rfl, if_pos (by omega)]
    · rw [if_neg c, e3]
      by_cases d : k < i
      · rw [if_pos d, if_pos (by omega)]
      · rw [if_neg d, if_neg (by omega)]
    rw [ar_size]; exact hk
theorem set_ar (w : World) (z : Int) (i : Nat) (h : i < 16) : (w.alloc (.cells (ar z i) 33)).setCell ⟨w.heap.size, i, none⟩ (.int .u64 (nb z i)) = w.alloc (.cells (ar z (i + 1)) 33) := by
  rw [← ar_set z i h]
  go_simp
theorem and15 (x : Int) (h0 : 0 ≤ x) (h1 : x < 18446744073709551616) : bits .and .u64 x 15 = x % 16 := by
  rw [u64_and x 15 h0 h1 (by omega) (by omega)]
  obtain ⟨n, rfl⟩ := Int.eq_ofNat_of_zero_le h0
  rw [Int.toNat_natCast, show (15 : Int).toNat = 2 ^ 4 - 1 from rfl, Nat.and_two_pow_sub_one_eq_mod]; simp
theorem div_b (z : Int) (j : Nat) (h0 : 0 ≤ z) (h1 : z < 18446744073709551616) : 0 ≤ z / 2 ^ j ∧ z / 2 ^ j < 18446744073709551616 := by
  have hp : (0 : Int) < 2 ^ j := by exact_mod_cast Nat.two_pow_pos j
  exact ⟨Int.ediv_nonneg h0 (by omega), Int.lt_of_le_of_lt (Int.ediv_le_self _ h0) h1⟩
theorem below_setRow {B b : Nat} {w wr : World} (h : Below B w wr) (hb : B ≤ b) (c : Array Value) : Below B w (wr.setRow b c) :=
  h.trans ⟨rfl, rfl, rfl, by simp, fun k hk => setRow_other wr _ k c (by omega)⟩
theorem ar_one (z : Int) (i : Nat) : (ar z i).all (·.oneCell') = true := by
  unfold ar
  rw [Array.all_eq_true]
  intro k hk
  simp [Value.oneCell']
theorem wpList_storeN (n : Nat) (t : TypeId) (hi : (Try.prog.info? t).map (·.size) = some n) {w : World} {ops : Array Oper} {rest : List Oper} {o : Oper} {a : Act} {Q : Exit → Act → World → Prop} (hgd : o.guard = none) (s x : Operand) (ho : o.op = .store t s x)
    (b : Nat) (c old : Array Value) (hs : a.eval s = .pointer (some ⟨b, 0, none⟩)) (hx : a.eval x = .agg c) (hsz : c.size = n) (hoz : old.size = n) (h1 : c.all (·.oneCell') = true) (hh : w.heap[b]? = some (.cells old t (0, 0)))
    (h : wpList Try.prog ops Q rest (a.put o.dst undef) (w.setRow b c)) : wpList Try.prog ops Q (o :: rest) a w := by
  have hl : (Instr.storeAt t (.pointer (some ⟨b, 0, none⟩)) (.agg c)).run Try.prog w = .ok () (w.setRow b c) := by
    simp only [Instr.storeAt, Instr.sureAddr, Sem.run_bind, Sem.run_pure, Result.andThen]
    exact run_storeVar_row _ _ t t old c hh (by rw [hsz]; exact hi) (by omega) h1
  refine wpList_plain hgd fun K hK => ?_
  unfold Oper.wp execOp
  simp only [ho, hs, hx, Sem.run_bind, Sem.run_pure, Result.andThen_ok, hl]
  exact hK _ _ h
theorem size33 : (Try.prog.info? 33).map (·.size) = some 16 := by kernel_rfl
set_option maxHeartbeats 2000000 in
theorem apart_any (z : Int) (h0 : 0 ≤ z) (h1 : z < 18446744073709551616) (w : World) : Calls Try.prog 16 #[.int .u64 z] w fun e w' => e = .returned (.agg (ar z 16)) ∧ Below w.heap.size w w' := by
  obtain ⟨A, hA⟩ : ∃ A, ar z 16 = A := ⟨_, rfl⟩
  have hs : A.size = 16 := by rw [← hA]; exact ar_size z 16
  have ho : A.all (·.oneCell') = true := by rw [← hA]; exact ar_one z 16
  rw [hA]
  go_enter Try.func16, Try.ntmps16
  go_wp2
  go_loopw [4] (fun v wr => ∃ i : Nat, i ≤ 16 ∧ v = .int .i64 i ∧ wr = w.alloc (.cells (ar z i) 33)) (fun v _ => 16 - (intOf v).toNat)
  case atStart => exact ⟨0, by omega, rfl, rfl⟩
  case round =>
    obtain ⟨i, hi, rfl, rfl⟩ := hrel
    by_cases c : i < 16
    · have hc : (w.alloc (.cells (ar z i) 33)).cell? ⟨w.heap.size, i, none⟩ = some (.int .u64 0) := by
        have := (cell_of_row (w.alloc (.cells (ar z i) 33)) w.heap.size i _ 33 (0, 0) (at0 w _)).trans (ar_at z i i c)
        rw [if_neg (by omega)] at this; exact this
      go_wp2
      refine ⟨⟨i + 1, by omega, by first | rfl | (congr 1), ?_⟩, by simp [intOf]; omega⟩
      rw [and15 _ (div_b z _ h0 h1).1 (div_b z _ h0 h1).2, show z / 2 ^ (4 * i) % 16 = nb z i from rfl, ar_set z i c]
    · have hi2 : i = 16 := by omega
      have HA := hide hA
      rw [show ar z i = A by rw [hi2, hA]]
      have hr := at0 w (.cells A 33)
      have c2 : ¬ ((i : Int) < 16) := by omega
      clear hi2 c hi HA hA
      go_wp2_with (first | (refine wpList_loadN 16 33 22 Try.underlying33 size33 rfl _ rfl w.heap.size _ rfl hs hr ?_) | (refine wpList_storeN 16 33 size33 rfl _ _ rfl w.heap.size A A rfl rfl hs hs ho hr ?_))
      refine bodyPost_ret (v := .agg A) ?_ rfl ⟨rfl, below_setRow (b1 _ _ _) (Nat.le_refl _) _⟩
      simp only [results, Try.results16, asAddr]
      simp [run_loadVar_row _ _ 33 33 _ (0, 0) _ (setRow_heap _ _ _ A 33 (0, 0) hr) Try.underlying33 rfl (by rw [hs]; exact size33)]
end Kt
end Go.Proofs.Ytobhmadckoemdaa
