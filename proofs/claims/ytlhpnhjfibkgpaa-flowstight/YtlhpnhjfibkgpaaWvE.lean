import Derived.Test.YtlhpnhjfibkgpaaWvD
import Derived.Test.YtlhpnhjfibkgpaaWpO
import Derived.Test.YtlhpnhjfibkgpaaWrA
import Derived.Laws.EntriesVeiled
namespace Go.Proofs.Ytlhpnhjfibkgpaa
namespace Wp
open Go.RowKit
set_option linter.unusedVariables false
set_option maxRecDepth 8000
set_option maxHeartbeats 2000000 in
theorem ways_of (n s k : Int) (w : World) : Calls Try.prog 35 #[.int .u32 n, .int .u32 s, .int .i64 k] w fun e w' => e = .returned (.pointer (some ⟨w.heap.size, 0, none⟩)) ∧ WO w' w.heap.size n s k ∧ Below w.heap.size w w' := by
  go_enter Try.func35, Try.ntmps35
  go_wp2
  go_ret
  exact ⟨rfl, at0 _ _, b1 _ _ _⟩
set_option maxHeartbeats 2000000 in
theorem sssp_any (n s k : Int) (h1 : 1 ≤ n) (h2 : n ≤ 2147483647) (hs : s < n) (hk : k = 1 ∨ k = 2) (w : World) : Calls Try.prog 19 #[.int .u32 n, .int .u32 s, .int .i64 k] w fun e w' => ∃ fb wb, e = .returned (.tuple #[.pointer (some ⟨fb, 0, none⟩), .int .i64 0]) ∧ w.heap.size ≤ fb ∧ w.heap.size ≤ wb ∧ FW n s k wb fb w' ∧ Below w.heap.size w w' := by
  have HZ := hide (isSize_any n h1 h2)
  have HW := hide (ways_of n s k)
  have hlt : decide (n ≤ s) = false := by simp; omega
  obtain ⟨q1, q2⟩ : ∃ q : Bool, ((k != 1) = q ∧ (q = true → (k != 2) = false)) := ⟨_, rfl, fun e => by simp at e ⊢; omega⟩
  cases q1 with
  | false =>
    have p1 := q2.1
    clear hk hs q2 h1 h2
    go_enter Try.func19, Try.ntmps19
    go_wp2_with (fail)
    refine (HZ.out _).mono ?_
    rintro e1 w1 ⟨rfl, hw1⟩
    subst w1
    go_wp2_with (fail)
    refine (HW.out _).mono ?_
    rintro e2 w2 ⟨rfl, hO, hB⟩
    have HO := hide hO
    have HB := hide hB
    clear hO hB HW HZ
    go_wp2
    all_goals go_ret2
    all_goals exact ⟨w2.heap.size, w.heap.size, rfl, HB.out.size, Nat.le_refl _, ⟨by simp, at0 _ _, HO.out.on (b1 _ _ _)⟩, bA HB.out HB.out.size _⟩
  | true =>
    have p1 := q2.1
    have p2 := q2.2 rfl
    clear hk hs q2 h1 h2
    go_enter Try.func19, Try.ntmps19
    go_wp2_with (fail)
    refine (HZ.out _).mono ?_
    rintro e1 w1 ⟨rfl, hw1⟩
    subst w1
    go_wp2_with (fail)
    refine (HW.out _).mono ?_
    rintro e2 w2 ⟨rfl, hO, hB⟩
    have HO := hide hO
    have HB := hide hB
    clear hO hB HW HZ
    go_wp2
    all_goals go_ret2
    all_goals exact ⟨w2.heap.size, w.heap.size, rfl, HB.out.size, Nat.le_refl _, ⟨by simp, at0 _ _, HO.out.on (b1 _ _ _)⟩, bA HB.out HB.out.size _⟩
/-- SSSP's program. -/
def gW (n s k : Int) : Pg := ⟨4, false, 3, 3, wyStart s, fun c t _ _ z b => wySc n k c t z b, wyAp n, fun a _ t => wyFo a t, fun c ch r => (ctlN c r, ch == 0 || decide (n ≤ c 0)), fun t a => up t 3 (mni (t 3) a), fun _ t _ _ z => t 0 ≠ 9223372036854775807 → -9223372036854775808 ≤ wrap64 (t 0) + wt k z ∧ wrap64 (t 0) + wt k z ≤ 9223372036854775807⟩
theorem obW (n s k : Int) (h0 : 0 ≤ n) (h1 : n < 4294967296) (wb fb B : Nat) (w : World) (hf : FW n s k wb fb w) (hB : fb < B) (hQ : wb < B) : Ob (gW n s k) fb B w := by
  have h : ∀ W, Below B w W → FW n s k wb fb W := fun W q => ⟨Nat.lt_of_lt_of_le hf.1 q.size, (q.block _ hB).trans hf.2.1, (q.block _ hQ).trans hf.2.2⟩
  exact ⟨fun W q => words_W n s k wb fb W (h W q), fun W q => both_W n s k wb fb W (h W q), fun W q => sink_W n s k wb fb W (h W q), fun v a b _ _ W q => start_W n s k wb fb v a b W (h W q), fun c t x y z b ok W q => scatter_W n s k wb fb c t x y z b h0 h1 ok W (h W q), fun c a v t c0 c1 W q => apply_W n s k wb fb c a v t h0 h1 c0 c1 W (h W q), fun c a v t _ _ h2 h3 W q => fold_W n s k wb fb c a v t h2 h3 W (h W q), fun c a ch r h2 h3 W q => turn_W n s k wb fb c a ch r h0 h1 h2 h3 W (h W q), fun t a W => mon_mi t a W⟩
set_option maxHeartbeats 2000000 in
theorem sane_W (n s k : Int) (wb fb : Nat) (w : World) (hF : FW n s k wb fb w) : Calls Try.prog 30 #[.pointer (some ⟨fb, 0, none⟩)] w fun e w' => e = .returned (.bool true) ∧ Below w.heap.size w w' := by
  have HW := hide (words_W n s k wb fb w hF)
  have HF := hide hF
  clear hF
  go_enter Try.func30, Try.ntmps30
  go_wp2_with (fail)
  refine HW.out.mono ?_
  rintro e1 w1 ⟨rfl, hw1⟩
  have HB1 := hide hw1
  have HK := hide (sink_W n s k wb fb w1 (HF.out.on hw1))
  clear hw1 HW
  go_wp2_with (fail)
  refine HK.out.mono ?_
  rintro e2 w2 ⟨rfl, hw2⟩
  have HB2 := hide hw2
  clear hw2 HK
  go_wp2
  all_goals go_ret
  all_goals exact ⟨rfl, bA (HB1.out.trans (HB2.out.mono HB1.out.size)) (Nat.le_trans HB1.out.size HB2.out.size) _⟩
end Wp
end Go.Proofs.Ytlhpnhjfibkgpaa
