import Derived.Test.YtcepfmeoeepjdabAyK
import Derived.Test.YtcepfmeoeepjdabAyP
namespace Go.Proofs.Ytcepfmeoeepjdab
namespace Au
open Go.RowKit
set_option linter.unusedVariables false
set_option maxRecDepth 8000
theorem cw2 (n : Nat) (h : n < 4294967296) : wrap64 (2 * (n : Int)) = 2 * (n : Int) := by unfold wrap64; omega
theorem q_a (w : World) (o : Obj) : ((w.alloc (.cells #[] 22)).alloc o).drew.heap[w.heap.size]? = some (.cells #[] 22 (0, 0)) := keep _ (at0 w (.cells #[] 22))
theorem q_b (w : World) (o : Obj) : ((w.alloc o).alloc (.cells #[] 22)).drew.heap[w.heap.size + 1]? = some (.cells #[] 22 (0, 0)) := by
  have := at0 (w.alloc o) (.cells #[] 22)
  rw [World.size_alloc] at this
  exact this
theorem Fd.aq {W w' : World} {q g Bt Bf : Nat} {Q : List Nat} {ua : Option Addr} {L : List T3} {f : Int} (h : Fd W g Bt Bf L f) (hA : Aq W q Q ua w') (h1 : g ≠ q) (h2 : Bt ≠ q) (h3 : Bf ≠ q) : Fd w' g Bt Bf L f := h.of (hA.oth _ h.lt.1 h1) (hA.oth _ h.lt.2.1 h2) (hA.oth _ h.lt.2.2 h3)
/-- A list of sources that lies at n or above. -/
structure Ap (n : Nat) (W : World) (ua : Option Addr) (Q : List Nat) : Prop where
  row : Row1 W ua Q
  ge : ∀ x, ua = some x → n ≤ x.block ∧ x.block < W.heap.size
theorem Ap.b {n : Nat} {W W' : World} {ua : Option Addr} {Q : List Nat} (h : Ap n W ua Q) (hb : Below W.heap.size W W') : Ap n W' ua Q := ⟨h.row.on hb (Nat.le_refl _), fun x e => ⟨(h.ge x e).1, Nat.lt_of_lt_of_le (h.ge x e).2 hb.size⟩⟩
theorem Aq.ap {n q : Nat} {W W' : World} {ua : Option Addr} {Q : List Nat} (h : Aq W q Q ua W') (hn : n ≤ q) : Ap n W' ua Q := ⟨h.row, fun x e => ⟨Nat.le_trans hn (h.ge x e).1, (h.ge x e).2⟩⟩
theorem Ap.ne {n rb : Nat} {W : World} {ua : Option Addr} {Q : List Nat} (h : Ap n W ua Q) (hr : rb < n) : ∀ x, ua = some x → x.block ≠ rb ∧ x.block < W.heap.size := fun x e => ⟨by have := (h.ge x e).1; omega, (h.ge x e).2⟩
theorem wp_cutW {P : Program} {c : Code} {Q : Exit → Act → World → Prop} {a : Act} {w : World} (T : World → Prop) (A1 : Value → Value → Value → Act)
    (h : c.wp P (fun e a' w' => match e with | .normal => ∃ fv sv av, a' = A1 fv sv av ∧ T w' | _ => False) a w) (hq : ∀ fv sv av w', T w' → Q .normal (A1 fv sv av) w') : c.wp P Q a w := by
  refine Code.wp_mono ?_ h
  intro e a' w' hh
  cases e with
  | normal => obtain ⟨fv, sv, av, rfl, ht⟩ := hh; exact hq fv sv av w' ht
  | _ => exact hh.elim
end Au
end Go.Proofs.Ytcepfmeoeepjdab
