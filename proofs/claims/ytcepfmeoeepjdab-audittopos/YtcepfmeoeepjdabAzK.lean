import Derived.Test.YtcepfmeoeepjdabAzH
import Derived.Test.YtcepfmeoeepjdabAyQ
namespace Go.Proofs.Ytcepfmeoeepjdab
namespace Au
open Go.RowKit
set_option linter.unusedVariables false
set_option maxRecDepth 8000
theorem AC.one {n : Nat} {L : List T3} {S : Nat → Nat → Int} {o o' : Vd} (h : AC n L S o) (h' : AC n L S o') : o = o' := by
  obtain ⟨U, ro, a, b⟩ := h
  obtain ⟨U', ro', a', b'⟩ := h'
  have hc : ∀ v, v < n → col n ro v = col n ro' v := fun v hv => by
    unfold col; rw [a.one a' v (by omega), a.one a' (v + n) (by omega)]
  refine b.one (b'.ext (fun v r => ?_))
  constructor
  · rintro ⟨p, q, x⟩; exact ⟨p, q, by rw [hc v q]; exact x⟩
  · rintro ⟨p, q, x⟩; exact ⟨p, q, by rw [← hc v q]; exact x⟩
abbrev Sh9 (w wB : World) (c : Cs) (S : Nat → Nat → Int) (need : Nat) (D : Int) (P : Vd → Prop) (o : Vd) (b : Bool) (x y : Int) (sg rb : Nat) (W : World) (e : Ending) (w' : World) : Prop := e = .returned (.tuple #[.agg #[.bool b, .int .u32 x, .int .i64 y], .int .i64 D]) ∧ (D = 0 → P o) ∧ Sp w' rb need (rm c) ∧ Ch (fun k => k = rb) W w' ∧ Cb w' w.heap.size c ∧ SR w' sg (c.sn + 2) (mk c.sn c.sn S) ∧ Below w.heap.size w w' ∧ wB.heap.size ≤ w'.heap.size
theorem g7 (c : Cs) (L : List T3) (S : Nat → Nat → Int) (f D : Int) (o : Vd) (b : Bool) (x y : Int) (w : World) (hN : c.N < 4294967296) (hs64 : c.sn * 64 ≤ 140737488351232) (hl12 : L.length * 12 ≤ 140737488351232) (hsr : ∀ v, 0 ≤ S v 0 ∧ S v 0 < 18446744073709551616)
    (hD : dk (sz c.N) c.N c.sn (rm c) 1 0 L f = D) (hone : ∀ E o', E = D → (E = 0 → Lm (PT S c.N L) o') → vx E o' = vx D o ∧ (E = 0 → Lm (PT S c.N L) o)) (hv : vx D o = #[.bool b, .int .u32 x, .int .i64 y])
    (wB : World) (sg cap rb : Nat) (hC : Cb wB w.heap.size c) (hR : SR wB sg (c.sn + 2) (mk c.sn c.sn S)) (hS : Sp wB rb c.N (rm c)) (hB : Below w.heap.size w wB) (l1 : w.heap.size < sg) (l2 : sg < rb) (W : World) (g Bt Bf : Nat) (hF : Fd W g Bt Bf L f) (hg : wB.heap.size ≤ g) (ht : wB.heap.size ≤ Bt) (hf : wB.heap.size ≤ Bf) (hW : Below wB.heap.size wB W) :
    Calls Try.prog 7 #[.int .u32 (c.N : Int), fe Bt Bf, .slice (some ⟨sg, 0, none⟩) c.sn cap, .slice (some ⟨rb, 0, none⟩) (rm c) (rm c)] W fun e w' => Sh9 w wB c S c.N D (Lm (PT S c.N L)) o b x y sg rb W e w' := by
  have l3 := hS.lt
  have l4 := hR.lt
  obtain ⟨U0, u1, u2⟩ := hS
  have hsz := hW.size
  have hcl := hC.lt
  have hrm := (rm_b c).1
  have hR0 : SR W sg c.sn S := (hR.of (hW.block _ l4)).mono (by omega) (fun v hv => mk_self _ _ v hv)
  have hU0 : GU W rb (rm c) U0 := u1.of (hW.block _ l3)
  refine (topo_any c.N (rm c) rb sg c.sn cap Bt Bf g L f S U0 hN (by omega) hrm (by omega) hsr W hU0 u2 hF hR0 (by omega) (by omega) (by omega) (by omega)).mono ?_
  rintro e w' ⟨E, o', rfl, q1, q2, q3, q4⟩
  obtain ⟨k1, k2⟩ := hone E o' (q1.trans hD) q2
  have hED : E = D := q1.trans hD
  subst hED
  have hs4 := q4.size
  rw [k1, hv]
  have hx : Below w.heap.size w W := hB.trans (hW.mono (by omega))
  exact ⟨rfl, k2, q3, q4, ((q4.block _ (by omega) (by omega)).trans (hW.block _ (by omega))).trans hC, hR.of ((q4.block _ (by omega) (by omega)).trans (hW.block _ (by omega))), hx.trans (q4.below (fun k hk h => by omega) (by omega)), by omega⟩
theorem g15 (c : Cs) (L : List T3) (S : Nat → Nat → Int) (f D : Int) (o : Vd) (b : Bool) (x y : Int) (w : World) (hN : c.N < 4294967296) (hs64 : c.sn * 64 ≤ 140737488351232) (hl12 : L.length * 12 ≤ 140737488351232)
    (hD : dk (sz c.N) c.N c.sn (rm c) 2 0 L f = D) (hone : ∀ E o', E = D → (E = 0 → AC c.N L S o') → vx E o' = vx D o ∧ (E = 0 → AC c.N L S o)) (hv : vx D o = #[.bool b, .int .u32 x, .int .i64 y])
    (wB : World) (sg cap rb : Nat) (hC : Cb wB w.heap.size c) (hR : SR wB sg (c.sn + 2) (mk c.sn c.sn S)) (hS : Sp wB rb c.N (rm c)) (hB : Below w.heap.size w wB) (l1 : w.heap.size < sg) (l2 : sg < rb) (W : World) (g Bt Bf : Nat) (hF : Fd W g Bt Bf L f) (hg : wB.heap.size ≤ g) (ht : wB.heap.size ≤ Bt) (hf : wB.heap.size ≤ Bf) (hW : Below wB.heap.size wB W) :
    Calls Try.prog 15 #[.int .u32 (c.N : Int), fe Bt Bf, .slice (some ⟨sg, 0, none⟩) c.sn cap, .slice (some ⟨rb, 0, none⟩) (rm c) (rm c)] W fun e w' => Sh9 w wB c S (2 * c.N) D (AC c.N L S) o b x y sg rb W e w' := by
  have l3 := hS.lt
  have l4 := hR.lt
  obtain ⟨U0, u1, u2⟩ := hS
  have hsz := hW.size
  have hcl := hC.lt
  have hrm := (rm_b c).1
  have hR0 : SR W sg c.sn S := (hR.of (hW.block _ l4)).mono (by omega) (fun v hv => mk_self _ _ v hv)
  have hU0 : GU W rb (rm c) U0 := u1.of (hW.block _ l3)
  refine (two_any c.N (rm c) rb sg c.sn cap Bt Bf g L f S U0 hN (by omega) hrm (by omega) W hU0 (fun x h1 h2 => u2 x (by omega) h2) hF hR0 (by omega) (by omega) (by omega) (by omega)).mono ?_
  rintro e w' ⟨E, o', rfl, q1, q2, q3, q4⟩
  obtain ⟨k1, k2⟩ := hone E o' (q1.trans hD) q2
  have hED : E = D := q1.trans hD
  subst hED
  have hs4 := q4.size
  rw [k1, hv]
  have hx : Below w.heap.size w W := hB.trans (hW.mono (by omega))
  exact ⟨rfl, k2, q3, q4, ((q4.block _ (by omega) (by omega)).trans (hW.block _ (by omega))).trans hC, hR.of ((q4.block _ (by omega) (by omega)).trans (hW.block _ (by omega))), hx.trans (q4.below (fun k hk h => by omega) (by omega)), by omega⟩
theorem dz {c : Cs} {L : List T3} {f D : Int} {p : Nat} (hf0 : 0 ≤ f) (hD : dk (sz c.N) c.N c.sn (rm c) p 0 L f = D) (hD0 : D = 0) : 0 < c.N ∧ c.sn = c.N ∧ p * c.N ≤ rm c ∧ ∀ e ∈ L, e.1 < c.N ∧ e.2.1 < c.N := by
  have hak : ak (sz c.N) c.N c.sn (rm c) p = 0 := by
    have h := hD
    unfold dk at h
    split at h
    · rename_i h1; rw [hD0] at h; exact absurd h h1
    · rename_i h1; simpa using h1
  obtain ⟨hsz0, hsn, hrl⟩ := ak_zero hak
  have hfa : fa c.N 0 L f = 0 := by
    have h := hD
    rw [dk_eq hak] at h
    exact h.trans hD0
  have hn0 : 0 < c.N := by
    have h := hsz0
    unfold sz at h
    split at h
    · cases h
    · omega
  exact ⟨hn0, hsn, hrl, fa_good hf0 hfa⟩
theorem d12 (c : Cs) (L : List T3) (S : Nat → Nat → Int) (f D : Int) (o : Vd) (b : Bool) (x y : Int) (w : World) (hf0 : 0 ≤ f) (hl12 : L.length * 12 ≤ 140737488351232) (hsr : ∀ v, 0 ≤ S v 0 ∧ S v 0 < 18446744073709551616) (hL : c.en = L.length)
    (hD : dk (sz c.N) c.N c.sn (rm c) 1 0 L f = D) (hva : D = 0 → b = vR o ∧ x = vV o ∧ y = vK o) (hS : Row8 w c.sa c.sn S) (hE : Row3 .u32 w c.ea L) (hD0 : D = 0) (hP : Lm (PT S c.N L) o) (W : World) (hW : Below w.heap.size w W) :
    Calls Try.prog 12 #[.int .u32 (c.N : Int), .slice c.ea c.en c.ec, .slice c.sa c.sn c.sc] W fun e w' => e = .returned (.agg #[.bool b, .int .u32 x, .int .i64 y]) ∧ Below W.heap.size W w' := by
  obtain ⟨hn0, hsn, hrl, hgd⟩ := dz hf0 hD hD0
  have hrm := (rm_b c).1
  obtain ⟨eb, ex, ey⟩ := hva hD0
  have hr := hS.on hW (Nat.le_refl _)
  rw [hL]
  rw [hsn] at hr ⊢
  refine (rtopo_any c.N c.ec c.sc c.ea c.sa L S (fun v _ => hsr v) hn0 (by omega) (by omega) W (hE.on hW (Nat.le_refl _)) hr hgd).mono ?_
  rintro e w' ⟨o', rfl, hl, hb⟩
  obtain rfl : o' = o := hl.one hP
  rw [eb, ex, ey]
  exact ⟨rfl, hb⟩
/-- The document's colours lie somewhere of their own. -/
def Cl9 (c : Cs) (L : List T3) (B cb : Nat) (W : World) : Prop := B ≤ cb ∧ ∃ T, GU W cb c.N T ∧ ∀ U2 r, Fo (2 * c.N) (dbl c.N L) U2 r → ∀ v, v < c.N → T v = col c.N r v
theorem d17 (c : Cs) (L : List T3) (f D : Int) (w : World) (hf0 : 0 ≤ f) (hl12 : L.length * 12 ≤ 140737488351232) (hL : c.en = L.length) (hD : dk (sz c.N) c.N c.sn (rm c) 2 0 L f = D) (hE : Row3 .u32 w c.ea L) (hD0 : D = 0) (W : World) (hW : Below w.heap.size w W) :
    Calls Try.prog 17 #[.int .u32 (c.N : Int), .slice c.ea c.en c.ec] W fun e w' => ∃ cb, e = .returned (.slice (some ⟨cb, 0, none⟩) c.N c.N) ∧ Cl9 c L W.heap.size cb w' ∧ Below W.heap.size W w' := by
  obtain ⟨hn0, hsn, hrl, hgd⟩ := dz hf0 hD hD0
  have hrm := (rm_b c).1
  rw [hL]
  refine (rcolours_any c.N L.length c.ec c.ea L rfl (by omega) (by omega) W (hE.on hW (Nat.le_refl _)) hgd).mono ?_
  rintro e w' ⟨cb, T, rfl, h1, h2, h3, h4⟩
  exact ⟨cb, rfl, ⟨h3, T, h1, h2⟩, h4⟩
theorem d16 (c : Cs) (L : List T3) (S : Nat → Nat → Int) (f D : Int) (o : Vd) (b : Bool) (x y : Int) (w : World) (hf0 : 0 ≤ f) (hD : dk (sz c.N) c.N c.sn (rm c) 2 0 L f = D) (hva : D = 0 → b = vR o ∧ x = vV o ∧ y = vK o) (hS : Row8 w c.sa c.sn S) (hD0 : D = 0) (hP : AC c.N L S o) (W : World) (hW : Below w.heap.size w W) (B cb : Nat) (hC : Cl9 c L B cb W) :
    Calls Try.prog 16 #[.int .u32 (c.N : Int), .slice c.sa c.sn c.sc, .int .i64 0, .slice (some ⟨cb, 0, none⟩) c.N c.N] W fun e w' => e = .returned (.agg #[.bool b, .int .u32 x, .int .i64 y]) ∧ Below W.heap.size W w' := by
  obtain ⟨hn0, hsn, hrl, hgd⟩ := dz hf0 hD hD0
  have hrm := (rm_b c).1
  obtain ⟨_, T, hT, hcol⟩ := hC
  obtain ⟨eb, ex, ey⟩ := hva hD0
  have hr := hS.on hW (Nat.le_refl _)
  rw [hsn] at hr ⊢
  refine (words18_any c.N c.sc cb c.sa S T (by omega) W hr hT).mono ?_
  rintro e w' ⟨o', rfl, hl, hb⟩
  obtain ⟨U2, r, hF2, hl2⟩ := hP
  have ho : o' = o := hl.one (hl2.ext (fun v r' => by
    constructor
    · rintro ⟨p, q, k⟩; exact ⟨p, q, by rw [hcol U2 r hF2 v q]; simpa using k⟩
    · rintro ⟨p, q, k⟩; exact ⟨p, q, by rw [hcol U2 r hF2 v q] at k; simpa using k⟩))
  subst ho
  rw [eb, ex, ey]
  exact ⟨rfl, hb⟩
end Au
end Go.Proofs.Ytcepfmeoeepjdab
