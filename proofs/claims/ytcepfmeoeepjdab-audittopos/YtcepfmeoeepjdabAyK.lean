import Derived.Test.YtcepfmeoeepjdabAyH
import Derived.Test.YtcepfmeoeepjdabAuT
import Derived.Test.YtcepfmeoeepjdabAuU
namespace Go.Proofs.Ytcepfmeoeepjdab
namespace Au
open Go.RowKit
set_option linter.unusedVariables false
set_option maxRecDepth 8000
/-- What AuditSpreads asks of its two audits. -/
abbrev PL (c : Cs) (S : Nat → Nat → Int) (near : Bool) (Q : List Nat) (L : List T3) (o : Vd) : Prop := Lm (PS S c.N (fq S near) Q L) o
theorem fq_false (S : Nat → Nat → Int) : fq S false = (fun u : Nat => (u : Int)) := rfl
theorem fq_true (S : Nat → Nat → Int) : fq S true = fun u => S u 1 := rfl
abbrev Sh (w wB : World) (c : Cs) (S : Nat → Nat → Int) (D : Int) (P : Vd → Prop) (o : Vd) (b : Bool) (x y : Int) (sg rb : Nat) (W : World) (e : Ending) (w' : World) : Prop := e = .returned (.tuple #[.agg #[.bool b, .int .u32 x, .int .i64 y], .int .i64 D]) ∧ (D = 0 → P o) ∧ Sp w' rb (2 * c.N) (rm c) ∧ Ch (fun k => k = rb) W w' ∧ Cb w' w.heap.size c ∧ SR w' sg (c.sn + 2) (mk c.sn c.sn S) ∧ Below w.heap.size w w' ∧ wB.heap.size ≤ w'.heap.size
theorem g19 (c : Cs) (src : Nat) (hsrc : c.src = (src : Int)) (L : List T3) (S : Nat → Nat → Int) (f D : Int) (o : Vd) (b : Bool) (x y : Int) (w : World) (hN : c.N < 4294967296) (hs64 : c.sn * 64 ≤ 140737488351232) (hl12 : L.length * 12 ≤ 140737488351232) (hsr : ∀ v, 0 ≤ S v 0 ∧ S v 0 < 18446744073709551616)
    (hD : dk (sr c.N [src]) c.N c.sn (rm c) 2 0 L f = D) (hone : ∀ E o', E = D → (E = 0 → PL c S false [src] L o') → vx E o' = vx D o ∧ (E = 0 → PL c S false [src] L o)) (hv : vx D o = #[.bool b, .int .u32 x, .int .i64 y])
    (wB : World) (sg cap rb : Nat) (hC : Cb wB w.heap.size c) (hR : SR wB sg (c.sn + 2) (mk c.sn c.sn S)) (hS : Sp wB rb (2 * c.N) (rm c)) (hB : Below w.heap.size w wB) (l1 : w.heap.size < sg) (l2 : sg < rb) (W : World) (g Bt Bf : Nat) (hF : Fd W g Bt Bf L f) (hg : wB.heap.size ≤ g) (ht : wB.heap.size ≤ Bt) (hf : wB.heap.size ≤ Bf) (hW : Below wB.heap.size wB W) :
    Calls Try.prog 19 #[.int .u32 (c.N : Int), .int .u32 c.src, fe Bt Bf, .slice (some ⟨sg, 0, none⟩) c.sn cap, .slice (some ⟨rb, 0, none⟩) (rm c) (rm c)] W fun e w' => Sh w wB c S D (PL c S false [src] L) o b x y sg rb W e w' := by
  have l3 := hS.lt
  have l4 := hR.lt
  obtain ⟨U0, u1, u2⟩ := hS
  have hsz := hW.size
  have hcl := hC.lt
  have hrm := (rm_b c).1
  have hR0 : SR W sg c.sn S := (hR.of (hW.block _ l4)).mono (by omega) (fun v hv => mk_self _ _ v hv)
  have hU0 : GU W rb (rm c) U0 := u1.of (hW.block _ l3)
  rw [hsrc]
  refine (alevels_any c.N src (rm c) rb sg c.sn cap Bt Bf g L f S U0 hsr hN (by omega) hrm (by omega) W hU0 u2 hF hR0 (by omega) (by omega) (by omega)).mono ?_
  rintro e w' ⟨E, o', rfl, q1, q2, q3, q4⟩
  obtain ⟨k1, k2⟩ := hone E o' (q1.trans hD) q2
  have hED : E = D := q1.trans hD
  subst hED
  have hs4 := q4.size
  rw [k1, hv]
  have hx : Below w.heap.size w W := hB.trans (hW.mono (by omega))
  exact ⟨rfl, k2, q3, q4, ((q4.block _ (by omega) (by omega)).trans (hW.block _ (by omega))).trans hC, hR.of ((q4.block _ (by omega) (by omega)).trans (hW.block _ (by omega))), hx.trans (q4.below (fun k hk h => by omega) (by omega)), by omega⟩
theorem g22 (c : Cs) (Q : List Nat) (L : List T3) (S : Nat → Nat → Int) (f D : Int) (o : Vd) (b : Bool) (x y : Int) (w : World) (hN : c.N < 4294967296) (hs64 : c.sn * 64 ≤ 140737488351232) (hl12 : L.length * 12 ≤ 140737488351232) (hq4 : Q.length * 4 ≤ 140737488351232) (hsr : ∀ v, 0 ≤ S v 0 ∧ S v 0 < 18446744073709551616)
    (hD : dk (sr c.N Q) c.N c.sn (rm c) 2 0 L f = D) (hone : ∀ E o', E = D → (E = 0 → PL c S true Q L o') → vx E o' = vx D o ∧ (E = 0 → PL c S true Q L o)) (hv : vx D o = #[.bool b, .int .u32 x, .int .i64 y])
    (wB : World) (sg cap rb : Nat) (hC : Cb wB w.heap.size c) (hR : SR wB sg (c.sn + 2) (mk c.sn c.sn S)) (hS : Sp wB rb (2 * c.N) (rm c)) (hB : Below w.heap.size w wB) (l1 : w.heap.size < sg) (l2 : sg < rb) (W : World) (g Bt Bf uc : Nat) (ua : Option Addr) (hua : Row1 W ua Q) (hux : ∀ x, ua = some x → x.block ≠ rb ∧ x.block < W.heap.size) (hF : Fd W g Bt Bf L f) (hg : wB.heap.size ≤ g) (ht : wB.heap.size ≤ Bt) (hf : wB.heap.size ≤ Bf) (hW : Below wB.heap.size wB W) :
    Calls Try.prog 22 #[.int .u32 (c.N : Int), fe Bt Bf, .slice (some ⟨sg, 0, none⟩) c.sn cap, .slice (some ⟨rb, 0, none⟩) (rm c) (rm c), .slice ua Q.length uc] W fun e w' => Sh w wB c S D (PL c S true Q L) o b x y sg rb W e w' := by
  have l3 := hS.lt
  have l4 := hR.lt
  obtain ⟨U0, u1, u2⟩ := hS
  have hsz := hW.size
  have hcl := hC.lt
  have hrm := (rm_b c).1
  have hR0 : SR W sg c.sn S := (hR.of (hW.block _ l4)).mono (by omega) (fun v hv => mk_self _ _ v hv)
  have hU0 : GU W rb (rm c) U0 := u1.of (hW.block _ l3)
  refine (reached_any c.N (rm c) rb sg c.sn cap uc Bt Bf g ua Q L f S U0 hsr hN (by omega) hrm (by omega) (by omega) W hU0 u2 hF hR0 hua hux (by omega) (by omega) (by omega)).mono ?_
  rintro e w' ⟨E, o', rfl, q1, q2, q3, q4⟩
  obtain ⟨k1, k2⟩ := hone E o' (q1.trans hD) q2
  have hED : E = D := q1.trans hD
  subst hED
  have hs4 := q4.size
  rw [k1, hv]
  have hx : Below w.heap.size w W := hB.trans (hW.mono (by omega))
  exact ⟨rfl, k2, q3, q4, ((q4.block _ (by omega) (by omega)).trans (hW.block _ (by omega))).trans hC, hR.of ((q4.block _ (by omega) (by omega)).trans (hW.block _ (by omega))), hx.trans (q4.below (fun k hk h => by omega) (by omega)), by omega⟩
theorem d21 (c : Cs) (near : Bool) (Q : List Nat) (L : List T3) (S : Nat → Nat → Int) (f D : Int) (o : Vd) (b : Bool) (x y : Int) (w : World) (hf0 : 0 ≤ f) (hs64 : c.sn * 64 ≤ 140737488351232) (hl12 : L.length * 12 ≤ 140737488351232) (hq4 : Q.length * 4 ≤ 140737488351232) (hsr : ∀ v i, i < 8 → 0 ≤ S v i ∧ S v i < 18446744073709551616) (hL : c.en = L.length)
    (hD : dk (sr c.N Q) c.N c.sn (rm c) 2 0 L f = D) (hva : D = 0 → b = vR o ∧ x = vV o ∧ y = vK o) (hS : Row8 w c.sa c.sn S) (hE : Row3 .u32 w c.ea L) (hD0 : D = 0) (hP : PL c S near Q L o) (W : World) (ua : Option Addr) (uc : Nat) (hW : Below w.heap.size w W) (hua : Row1 W ua Q) :
    Calls Try.prog 21 #[.int .u32 (c.N : Int), .slice ua Q.length uc, .bool near, .slice c.ea c.en c.ec, .slice c.sa c.sn c.sc] W fun e w' => e = .returned (.agg #[.bool b, .int .u32 x, .int .i64 y]) ∧ Below W.heap.size W w' := by
  have hrm := (rm_b c).1
  have hak : ak (sr c.N Q) c.N c.sn (rm c) 2 = 0 := by
    have h := hD
    unfold dk at h
    split at h
    · rename_i h1; rw [hD0] at h; exact absurd h h1
    · rename_i h1; simpa using h1
  obtain ⟨hsr0, hsn, hrl⟩ := ak_zero hak
  have hfa : fa c.N 0 L f = 0 := by
    have h := hD
    rw [dk_eq hak] at h
    exact h.trans hD0
  have hgd := fa_good hf0 hfa
  obtain ⟨eb, ex, ey⟩ := hva hD0
  have hz : sz c.N = 0 ∧ ∀ q ∈ Q, q < c.N := by
    unfold sr at hsr0
    split at hsr0
    · rename_i h1; exact absurd hsr0 h1
    · rename_i h1
      split at hsr0
      · cases hsr0
      · rename_i h2
        refine ⟨by simpa using h1, fun q hq => ?_⟩
        apply Classical.byContradiction
        intro h3
        exact h2 (.inr (.inr ⟨q, hq, by omega⟩))
  have hn0 : 0 < c.N := by
    have h := hz.1
    unfold sz at h
    split at h
    · cases h
    · omega
  have hr := hS.on hW (Nat.le_refl _)
  rw [hL]
  rw [hsn] at hr ⊢
  refine (rspread_any c.N c.ec c.sc uc c.ea c.sa ua near Q L S (fun v _ i hi => hsr v i hi) hn0 (by omega) (by omega) (by omega) W (hE.on hW (Nat.le_refl _)) hr hgd hua hz.2).mono ?_
  rintro e w' ⟨o', rfl, hl, hb⟩
  obtain rfl : o' = o := hl.one hP
  rw [eb, ex, ey]
  exact ⟨rfl, hb⟩
theorem row_one (w : World) (src : Nat) : Row1 (w.alloc (.cells #[.int .u32 (src : Int)] 22)) (some ⟨w.heap.size, 0, none⟩) [src] := fun _ => by
  refine ⟨_, rfl, by simp, fun i q hq => ?_⟩
  match i, hq with
  | 0, hq =>
    obtain rfl : src = q := by simpa using hq
    exact (cell_of_row _ _ _ _ _ _ (at0 _ _)).trans rfl
end Au
end Go.Proofs.Ytcepfmeoeepjdab
