import Derived.Test.YtfgjhljhjclegaaRfQ
import Derived.Deep.DeepCutAuto
namespace Go.Proofs.Ytfgjhljhjclegaa
namespace Rt
open Go.RowKit
set_option linter.unusedVariables false
set_option maxRecDepth 10000
abbrev ST (h : Nat) (W : World) : Prop := S3 h (.int .i64 20) (.func (.func 52) #[] #[]) (.func (.func 53) #[] #[]) W
abbrev SU (h b : Nat) (p q r : Int) (W : World) : Prop := S3 h (.int .i64 20) (.func (.func 52) #[] #[]) (.func (.func 53) #[] #[]) W ∧ S3 b (.int .u32 p) (.int .u64 q) (.int .u64 r) W
/-- Some words made zero. -/
def mid (s : Nat → Int) (m j : Nat) : Nat → Int := fun k => if m ≤ k ∧ k < j then 0 else s k
theorem mid_zero (s : Nat → Int) (m : Nat) : mid s m m = s := by funext k; unfold mid; rw [if_neg (by omega)]
theorem mid_all (s : Nat → Int) (m k : Nat) (h : k < 8) : mid s m 8 k = upto s m k := by
  unfold mid upto; split <;> split <;> first | rfl | omega
theorem S8.congr {b : Nat} {s s' : Nat → Int} {W : World} (h : S8 b s W) (e : ∀ k, k < 8 → s k = s' k) : S8 b s' W := S8.mk fun k hk => by rw [← e k hk]; exact h.at k hk
theorem S8.mid {b j m : Nat} {s : Nat → Int} {W : World} (h : S8 b (mid s m j) W) (h1 : m ≤ j) (hj : j < 8) : S8 b (mid s m (j + 1)) (W.setCell ⟨b, j, none⟩ (.int .u64 0)) := by
  refine S8.mk fun k hk => ?_
  by_cases e : k = j
  · subst e
    have h2 : Rt.mid s m (k + 1) k = 0 := by unfold Rt.mid; rw [if_pos (by omega)]
    rw [h2]
    exact World.cell?_setCell_same W _ _ (h.at k hk)
  · have h2 : Rt.mid s m (j + 1) k = Rt.mid s m j k := by unfold Rt.mid; split <;> split <;> first | rfl | omega
    rw [h2, ← h.at k hk]
    exact World.cell?_setCell_other W _ _ _ (by simp)
theorem eq8 (a0 a1 a2 a3 a4 a5 a6 a7 : Int) (w : World) : (Op.equalIn 10000 45 (.agg #[.int .u64 a0, .int .u64 a1, .int .u64 a2, .int .u64 a3, .int .u64 a4, .int .u64 a5, .int .u64 a6, .int .u64 a7]) (.agg #[.int .u64 a0, .int .u64 a1, .int .u64 a2, .int .u64 a3, .int .u64 a4, .int .u64 a5, .int .u64 a6, .int .u64 a7])).run Try.prog w = .ok true w := by
  have hu := Try.underlying45
  have uU := Try.underlying41
  have aU := Try.isAgg41
  have zU := Try.sizeOf41
  rw [show (10000 : Nat) = 9999 + 1 from rfl, Op.equalIn]
  simp only [Sem.run_bind, run_underlying hu, Result.andThen_ok]
  simp only [Std.Legacy.Range.forIn_eq_forIn_range', Std.Legacy.Range.size, Nat.sub_zero, Nat.add_sub_cancel, Nat.div_one, List.range'_succ, List.range'_zero, List.forIn_cons, List.forIn_nil]
  go_simp
theorem bz {W w20 : World} (b20 : Below (W.alloc (.cells #[.int .u32 0, .int .u64 0, .int .u64 0] 43)).drew.heap.size (W.alloc (.cells #[.int .u32 0, .int .u64 0, .int .u64 0] 43)).drew w20) :
    Below W.heap.size W w20 ∧ S3 W.heap.size (.int .u32 0) (.int .u64 0) (.int .u64 0) w20 ∧ ∀ j, w20.frozen? ⟨W.heap.size, j, none⟩ = false := by
  have h1 : Below (W.alloc (.cells #[.int .u32 0, .int .u64 0, .int .u64 0] 43)).heap.size (W.alloc (.cells #[.int .u32 0, .int .u64 0, .int .u64 0] 43)) w20 := ⟨b20.os, b20.tape, b20.output, b20.size, b20.block⟩
  have zc := S3.new W (.int .u32 0) (.int .u64 0) (.int .u64 0) 43
  exact ⟨(b1 W _).trans (h1.mono (by simp)), zc.below h1 zc.lt, fun j => (h1.frozen (p := ⟨W.heap.size, j, none⟩) zc.lt).trans (frozen_new W _ 43 j)⟩
theorem skp {H : Nat} {W X : World} (h : ST H W) (l : H < W.heap.size) (hb : Below W.heap.size W X) : ST H X ∧ Below W.heap.size W X := ⟨S3.below h hb l, hb⟩
end Rt
end Go.Proofs.Ytfgjhljhjclegaa
