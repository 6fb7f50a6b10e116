import Derived.Test.YtgoigcpdfecfhaaGreatDoorCxF
import Derived.Test.YtgoigcpdfecfhaaGreatDoorCrF
import Derived.Test.YtgoigcpdfecfhaaGreatDoorAuU
namespace Go.Proofs.YtgoigcpdfecfhaaGreatDoor
namespace Au
open Go.RowKit
set_option linter.unusedVariables false
set_option maxRecDepth 8000
structure St (w : World) (c : Cs) (S : Nat → Nat → Int) (need sg rb vb ub : Nat) (v u : Array Value) (W : World) : Prop where
  hC : Cb W w.heap.size c
  hR : SR W sg (c.sn + 2) (mk c.sn c.sn S)
  hS : Sp W rb need (rm c)
  hV : W.heap[vb]? = some (.cells v 35 (0, 0))
  hU : W.heap[ub]? = some (.cells u 35 (0, 0))
  hB : Below w.heap.size w W
  gv : w.heap.size ≤ vb
  gu : w.heap.size ≤ ub
  hne : vb ≠ ub
theorem St.b {w : World} {c : Cs} {S : Nat → Nat → Int} {need sg rb vb ub : Nat} {v u : Array Value} {W W' : World} (h : St w c S need sg rb vb ub v u W) (hb : Below W.heap.size W W') : St w c S need sg rb vb ub v u W' :=
  ⟨(hb.block _ h.hC.lt).trans h.hC, h.hR.of (hb.block _ h.hR.lt), h.hS.of (hb.block _ h.hS.lt), (hb.block _ (lt_of_some h.hV)).trans h.hV, (hb.block _ (lt_of_some h.hU)).trans h.hU, h.hB.trans (hb.mono h.hB.size), h.gv, h.gu, h.hne⟩
theorem ne_cb {W : World} {b k : Nat} {c : Cs} {v : Array Value} (hC : Cb W b c) (h : W.heap[k]? = some (.cells v 35 (0, 0))) : b ≠ k := fun e => by
  subst e
  have h2 : W.heap[b]? = some (.cells (cb c) 30 (0, 0)) := hC
  rw [h] at h2; simp at h2
theorem ne_sr {W : World} {sg k n : Nat} {F : Nat → Nat → Int} {v : Array Value} (hR : SR W sg n F) (h : W.heap[k]? = some (.cells v 35 (0, 0))) : sg ≠ k := fun e => by
  subst e
  obtain ⟨Q, h2, _⟩ := hR
  rw [h] at h2; simp at h2
theorem ne_sp {W : World} {rb k n m : Nat} {v : Array Value} (hS : Sp W rb n m) (h : W.heap[k]? = some (.cells v 35 (0, 0))) : rb ≠ k := fun e => by
  subst e
  obtain ⟨U, ⟨Q, h2, _⟩, _⟩ := hS
  rw [h] at h2; simp at h2
theorem chs {w : World} {u : Nat} (a b c : Value) : Ch (fun k => k = u) w (((w.setCell ⟨u, 0, none⟩ a).setCell ⟨u, 1, none⟩ b).setCell ⟨u, 2, none⟩ c) := (((Ch.refl (fun k => k = u) w).set _ _ (Or.inl rfl)).set _ _ (Or.inl rfl)).set _ _ (Or.inl rfl)
theorem St.sv {w : World} {c : Cs} {S : Nat → Nat → Int} {need sg rb vb ub : Nat} {v u : Array Value} {W : World} (h : St w c S need sg rb vb ub v u W) (hs : v.size = 3) (p q r : Value) : St w c S need sg rb vb ub #[p, q, r] u (((W.setCell ⟨vb, 0, none⟩ p).setCell ⟨vb, 1, none⟩ q).setCell ⟨vb, 2, none⟩ r) := by
  have n1 := ne_cb h.hC h.hV
  have n2 := ne_sr h.hR h.hV
  have n3 := ne_sp h.hS h.hV
  have n4 := h.hne
  have hc : Ch (fun k => k = vb) W (((W.setCell ⟨vb, 0, none⟩ p).setCell ⟨vb, 1, none⟩ q).setCell ⟨vb, 2, none⟩ r) := chs p q r
  refine ⟨(hc.block _ h.hC.lt n1).trans h.hC, h.hR.of (hc.block _ h.hR.lt n2), h.hS.of (hc.block _ h.hS.lt n3), ?_, (hc.block _ (lt_of_some h.hU) (fun e => n4 e.symm)).trans h.hU, h.hB.trans (hc.below (fun k hk e => by have := h.gv; omega) h.hB.size), h.gv, h.gu, h.hne⟩
  rw [sets3 h.hV hs]
  exact setRow_heap _ _ _ _ _ _ h.hV
theorem St.su {w : World} {c : Cs} {S : Nat → Nat → Int} {need sg rb vb ub : Nat} {v u : Array Value} {W : World} (h : St w c S need sg rb vb ub v u W) (hs : u.size = 3) (p q r : Value) : St w c S need sg rb vb ub v #[p, q, r] (((W.setCell ⟨ub, 0, none⟩ p).setCell ⟨ub, 1, none⟩ q).setCell ⟨ub, 2, none⟩ r) := by
  have n1 := ne_cb h.hC h.hU
  have n2 := ne_sr h.hR h.hU
  have n3 := ne_sp h.hS h.hU
  have n4 := h.hne
  have hc : Ch (fun k => k = ub) W (((W.setCell ⟨ub, 0, none⟩ p).setCell ⟨ub, 1, none⟩ q).setCell ⟨ub, 2, none⟩ r) := chs p q r
  refine ⟨(hc.block _ h.hC.lt n1).trans h.hC, h.hR.of (hc.block _ h.hR.lt n2), h.hS.of (hc.block _ h.hS.lt n3), (hc.block _ (lt_of_some h.hV) n4).trans h.hV, ?_, h.hB.trans (hc.below (fun k hk e => by have := h.gu; omega) h.hB.size), h.gv, h.gu, h.hne⟩
  rw [sets3 h.hU hs]
  exact setRow_heap _ _ _ _ _ _ h.hU
/-- Behind an audit: only the room's block may have changed. -/
theorem St.ch {w : World} {c : Cs} {S : Nat → Nat → Int} {need sg rb vb ub : Nat} {v u : Array Value} {wB W W' : World} (h : St w c S need sg rb vb ub v u wB) (hb : Below wB.heap.size wB W) (hc : Ch (fun k => k = rb) W W') (h1 : Cb W' w.heap.size c) (h2 : SR W' sg (c.sn + 2) (Au.mk c.sn c.sn S)) (h3 : Sp W' rb need (rm c)) (h4 : Below w.heap.size w W') : St w c S need sg rb vb ub v u W' := by
  have h' := h.b hb
  exact ⟨h1, h2, h3, (hc.block _ (lt_of_some h'.hV) (fun e => ne_sp h'.hS h'.hV e.symm)).trans h'.hV, (hc.block _ (lt_of_some h'.hU) (fun e => ne_sp h'.hS h'.hU e.symm)).trans h'.hU, h4, h.gv, h.gu, h.hne⟩
theorem f35 {w : World} {vb : Nat} {v : Array Value} (h : w.heap[vb]? = some (.cells v 35 (0, 0))) : w.frozen? ⟨vb, 0, none⟩ = false ∧ w.frozen? ⟨vb, 1, none⟩ = false ∧ w.frozen? ⟨vb, 2, none⟩ = false := ⟨frozen_of_row _ _ _ _ _ h, frozen_of_row _ _ _ _ _ h, frozen_of_row _ _ _ _ _ h⟩
theorem St.wk {w : World} {c : Cs} {S : Nat → Nat → Int} {n sg rb vb ub : Nat} {v u : Array Value} {W : World} (h : St w c S n sg rb vb ub v u W) : St w c S (2 * n) sg rb vb ub v u W := by
  obtain ⟨a, b, ⟨U, d, e⟩, f, g, i, j, k, l⟩ := h
  exact ⟨a, b, ⟨U, d, fun x h1 h2 => e x (by omega) h2⟩, f, g, i, j, k, l⟩
theorem St.dr {w : World} {c : Cs} {S : Nat → Nat → Int} {n sg rb vb ub : Nat} {v u : Array Value} {W : World} (h : St w c S n sg rb vb ub v u W) : St w c S n sg rb vb ub v u W.drew := h.b (belowD (Below.refl _ _))
theorem cw2 (n : Nat) (h : n < 4294967296) : wrap64 (2 * (n : Int)) = 2 * (n : Int) := by unfold wrap64; omega
theorem AX.one {n : Nat} {L : List T3} {s : Int} {S : Nat → Nat → Int} {o o' : Vd} (h : AX n L s S o) (h' : AX n L s S o') : o = o' := Lm.one h h'
theorem AR.one {n r : Nat} {L : List T3} {s : Int} {S : Nat → Nat → Int} {o o' : Vd} (h : AR n L s r S o) (h' : AR n L s r S o') : o = o' := Lm.one h h'
/-- The rounds of a case. -/
def rn (c : Cs) : Int := ct (-1) 40 c.rounds
theorem rn_b (c : Cs) : rn c ≤ 40 := (ct_b (-1) 40 c.rounds (by decide)).2
abbrev Sh9 (w wB : World) (c : Cs) (S : Nat → Nat → Int) (need : Nat) (D : Int) (P : Vd → Prop) (o : Vd) (b : Bool) (x y : Int) (sg rb : Nat) (W : World) (e : Ending) (w' : World) : Prop := e = .returned (.tuple #[.agg #[.bool b, .int .u32 x, .int .i64 y], .int .i64 D]) ∧ (D = 0 → P o) ∧ Sp w' rb need (rm c) ∧ Ch (fun k => k = rb) W w' ∧ Cb w' w.heap.size c ∧ SR w' sg (c.sn + 2) (mk c.sn c.sn S) ∧ Below w.heap.size w w' ∧ wB.heap.size ≤ w'.heap.size
theorem g8 (c : Cs) (L : List T3) (S : Nat → Nat → Int) (f D : Int) (o : Vd) (b : Bool) (x y : Int) (w : World) (hN : c.N < 4294967296) (hs64 : c.sn * 64 ≤ 140737488351232) (hl12 : L.length * 12 ≤ 140737488351232) (hf0 : 0 ≤ f) (hsd : 0 ≤ c.seed ∧ c.seed < 18446744073709551616) (hT : Tb w)
    (hD : dk (sz c.N) c.N c.sn (rm c) 1 0 L f = D) (hone : ∀ E o', E = D → (E = 0 → AX c.N L c.seed S o') → vx E o' = vx D o ∧ (E = 0 → AX c.N L c.seed S o)) (hv : vx D o = #[.bool b, .int .u32 x, .int .i64 y])
    (wB : World) (sg cap rb : Nat) (hC : Cb wB w.heap.size c) (hR : SR wB sg (c.sn + 2) (mk c.sn c.sn S)) (hS : Sp wB rb c.N (rm c)) (hB : Below w.heap.size w wB) (l1 : w.heap.size < sg) (l2 : sg < rb) (W : World) (g Bt Bf : Nat) (hF : Fd W g Bt Bf L f) (hg : wB.heap.size ≤ g) (ht : wB.heap.size ≤ Bt) (hf : wB.heap.size ≤ Bf) (hW : Below wB.heap.size wB W) :
    Calls Tryz.prog 8 #[.int .u32 (c.N : Int), .int .u64 c.seed, fe Bt Bf, .slice (some ⟨sg, 0, none⟩) c.sn cap, .slice (some ⟨rb, 0, none⟩) (rm c) (rm c)] W fun e w' => Sh9 w wB c S c.N D (AX c.N L c.seed S) o b x y sg rb W e w' := by
  have l3 := hS.lt
  have l4 := hR.lt
  obtain ⟨U0, u1, u2⟩ := hS
  have hsz := hW.size
  have hcl := hC.lt
  have hrm := (rm_b c).1
  have htl := hT.lt
  have hrn := rn_b c
  have hx : Below w.heap.size w W := hB.trans (hW.mono (by omega))
  have hR0 : SR W sg c.sn S := (hR.of (hW.block _ l4)).mono (by omega) (fun v hv => mk_self _ _ v hv)
  have hU0 : GU W rb (rm c) U0 := u1.of (hW.block _ l3)
  refine (cross_any c.N (rm c) rb sg c.sn cap Bt Bf g L f c.seed S U0 hsd.1 hsd.2 hN (by omega) hrm (by omega) W hU0 u2 hF hR0 (hT.b hx) (by omega) (by omega) (by omega) (by omega) (by omega)).mono ?_
  rintro e w' ⟨E, o', rfl, q1, q2, q3, q4⟩
  obtain ⟨k1, k2⟩ := hone E o' (q1.trans hD) q2
  have hED : E = D := q1.trans hD
  subst hED
  have hs4 := q4.size
  rw [k1, hv]
  exact ⟨rfl, k2, q3, q4, ((q4.block _ (by omega) (by omega)).trans (hW.block _ (by omega))).trans hC, hR.of ((q4.block _ (by omega) (by omega)).trans (hW.block _ (by omega))), hx.trans (q4.below (fun k hk h => by omega) (by omega)), by omega⟩
theorem g16 (c : Cs) (L : List T3) (S : Nat → Nat → Int) (f D : Int) (o : Vd) (b : Bool) (x y : Int) (w : World) (hN : c.N < 4294967296) (hs64 : c.sn * 64 ≤ 140737488351232) (hl12 : L.length * 12 ≤ 140737488351232) (hf0 : 0 ≤ f) (hsd : 0 ≤ c.seed ∧ c.seed < 18446744073709551616) (hT : Tb w)
    (hD : dk (rz c.N (rn c)) c.N c.sn (rm c) 2 0 L f = D) (hone : ∀ E o', E = D → (E = 0 → AR c.N L c.seed (rn c).toNat S o') → vx E o' = vx D o ∧ (E = 0 → AR c.N L c.seed (rn c).toNat S o)) (hv : vx D o = #[.bool b, .int .u32 x, .int .i64 y])
    (wB : World) (sg cap rb : Nat) (hC : Cb wB w.heap.size c) (hR : SR wB sg (c.sn + 2) (mk c.sn c.sn S)) (hS : Sp wB rb c.N (rm c)) (hB : Below w.heap.size w wB) (l1 : w.heap.size < sg) (l2 : sg < rb) (W : World) (g Bt Bf : Nat) (hF : Fd W g Bt Bf L f) (hg : wB.heap.size ≤ g) (ht : wB.heap.size ≤ Bt) (hf : wB.heap.size ≤ Bf) (hW : Below wB.heap.size wB W) :
    Calls Tryz.prog 16 #[.int .u32 (c.N : Int), .int .i64 (rn c), .int .u64 c.seed, fe Bt Bf, .slice (some ⟨sg, 0, none⟩) c.sn cap, .slice (some ⟨rb, 0, none⟩) (rm c) (rm c)] W fun e w' => Sh9 w wB c S (2 * c.N) D (AR c.N L c.seed (rn c).toNat S) o b x y sg rb W e w' := by
  have l3 := hS.lt
  have l4 := hR.lt
  obtain ⟨U0, u1, u2⟩ := hS
  have hsz := hW.size
  have hcl := hC.lt
  have hrm := (rm_b c).1
  have htl := hT.lt
  have hrn := rn_b c
  have hx : Below w.heap.size w W := hB.trans (hW.mono (by omega))
  have hR0 : SR W sg c.sn S := (hR.of (hW.block _ l4)).mono (by omega) (fun v hv => mk_self _ _ v hv)
  have hU0 : GU W rb (rm c) U0 := u1.of (hW.block _ l3)
  refine (regs_any c.N (rm c) rb sg c.sn cap Bt Bf g L f c.seed (rn c) S U0 (by omega) hf0 hsd.1 hsd.2 hN (by omega) hrm (by omega) W hU0 (fun x h1 h2 => u2 x (by omega) h2) hF hR0 (hT.b hx) (by omega) (by omega) (by omega) (by omega) (by omega)).mono ?_
  rintro e w' ⟨E, o', rfl, q1, q2, q3, q4⟩
  obtain ⟨k1, k2⟩ := hone E o' (q1.trans hD) q2
  have hED : E = D := q1.trans hD
  subst hED
  have hs4 := q4.size
  rw [k1, hv]
  exact ⟨rfl, k2, q3, q4, ((q4.block _ (by omega) (by omega)).trans (hW.block _ (by omega))).trans hC, hR.of ((q4.block _ (by omega) (by omega)).trans (hW.block _ (by omega))), hx.trans (q4.below (fun k hk h => by omega) (by omega)), by omega⟩
theorem dz {c : Cs} {L : List T3} {f D made : Int} {p : Nat} (hf0 : 0 ≤ f) (hD : dk made c.N c.sn (rm c) p 0 L f = D) (hD0 : D = 0) : made = 0 ∧ c.sn = c.N ∧ p * c.N ≤ rm c ∧ ∀ e ∈ L, e.1 < c.N ∧ e.2.1 < c.N := by
  have hak : ak made c.N c.sn (rm c) p = 0 := by
    have h := hD
    unfold dk at h
    split at h
    · rename_i h1; rw [hD0] at h; exact absurd h h1
    · rename_i h1; simpa using h1
  obtain ⟨hsz0, hsn, hrl⟩ := ak_zero hak
  have hfa : fa c.N 0 L f = 0 := by
    have h := hD
    rw [dk_eq hak] at h
    exact h.trans hD0
  exact ⟨hsz0, hsn, hrl, fa_good hf0 hfa⟩
theorem d13 (c : Cs) (L : List T3) (S : Nat → Nat → Int) (f D : Int) (o : Vd) (b : Bool) (x y : Int) (w : World) (hf0 : 0 ≤ f) (hl12 : L.length * 12 ≤ 140737488351232) (hsd : 0 ≤ c.seed ∧ c.seed < 18446744073709551616) (hL : c.en = L.length)
    (hD : dk (sz c.N) c.N c.sn (rm c) 1 0 L f = D) (hva : D = 0 → b = vR o ∧ x = vV o ∧ y = vK o) (hS : Row8 w c.sa c.sn S) (hE : Row3 .u32 w c.ea L) (hD0 : D = 0) (hP : AX c.N L c.seed S o) (W : World) (hW : Below w.heap.size w W) :
    Calls Tryz.prog 13 #[.int .u32 (c.N : Int), .int .u64 c.seed, .slice c.ea c.en c.ec, .slice c.sa c.sn c.sc] W fun e w' => e = .returned (.agg #[.bool b, .int .u32 x, .int .i64 y]) ∧ Below W.heap.size W w' := by
  obtain ⟨hn0, hsn, hrl, hgd⟩ := dz hf0 hD hD0
  have hrm := (rm_b c).1
  obtain ⟨eb, ex, ey⟩ := hva hD0
  have hr := hS.on hW (Nat.le_refl _)
  rw [hL]
  rw [hsn] at hr ⊢
  refine (rcross_any c.N L.length c.ec c.sc c.ea c.sa L c.seed S hsd.1 hsd.2 rfl (by omega) (by omega) W (hE.on hW (Nat.le_refl _)) hr hgd).mono ?_
  rintro e w' ⟨o', rfl, hl, hb⟩
  obtain rfl : o' = o := hl.one hP
  rw [eb, ex, ey]
  exact ⟨rfl, hb⟩
set_option maxHeartbeats 1000000 in
theorem rounds_any (c : Cs) (w : World) : Calls Tryz.prog 17 #[.agg (cb c)] w fun e w' => e = .returned (.int .i64 (rn c)) ∧ w' = w.alloc (.cells (cb c) 30) := by
  unfold rn ct
  by_cases h1 : c.rounds < -1
  · rw [if_pos h1]
    go_enter Tryz.func17, Tryz.ntmps17
    go_wp2
    all_goals go_ret
    all_goals exact ⟨rfl, rfl⟩
  · rw [if_neg h1]
    by_cases h2 : 40 < c.rounds
    · rw [if_pos h2]
      go_enter Tryz.func17, Tryz.ntmps17
      go_wp2
      all_goals go_ret
      all_goals first | exact ⟨rfl, rfl⟩ | (exfalso; omega)
    · rw [if_neg h2]
      go_enter Tryz.func17, Tryz.ntmps17
      go_wp2
      all_goals go_ret
      all_goals first | exact ⟨rfl, rfl⟩ | (refine ⟨ret_int ?_, rfl⟩; omega) | (exfalso; omega)
theorem rz_eq (n : Nat) (R : Int) : (rz n R = 2 ∧ (n < 1 ∨ 2147483647 < n ∨ R < 1)) ∨ (rz n R = 0 ∧ 1 ≤ n ∧ n ≤ 2147483647 ∧ 1 ≤ R) := by
  unfold rz sz
  by_cases c1 : n < 1 ∨ 2147483647 < n
  · left
    rw [if_neg (fun h => by rw [if_pos c1] at h; exact absurd h.1 (by decide))]
    exact ⟨rfl, by omega⟩
  · by_cases c2 : 1 ≤ R
    · right
      rw [if_pos ⟨by rw [if_neg c1], c2⟩]
      exact ⟨rfl, by omega, by omega, c2⟩
    · left
      rw [if_neg (fun h => c2 h.2)]
      exact ⟨rfl, by omega⟩
set_option maxHeartbeats 4000000 in
theorem ranked_any (c : Cs) (hN : c.N < 4294967296) (w : World) : Calls Tryz.prog 18 #[.agg (cb c), .bool false] w fun e w' => e = .returned (.int .i64 (rz c.N (rn c))) ∧ Below w.heap.size w w' := by
  obtain ⟨w0, hw0⟩ : ∃ w0, (w.alloc (.cells (cb c) 30)) = w0 := ⟨_, rfl⟩
  have hB0 : Below w.heap.size w w0 := by rw [← hw0]; exact b1 _ _ _
  have hc0 : Cb w0 w.heap.size c := by rw [← hw0]; exact at0 _ _
  have hk := hc0.k
  have HR := hide (rounds_any c w0)
  have HB : Hid (Below w.heap.size w (w0.alloc (.cells (cb c) 30))) := bA2 hB0 _
  have HB0 := hide hB0
  have HV := hide (rz_eq c.N (rn c))
  generalize rn c = R at *
  generalize rz c.N R = z at *
  obtain ⟨k0, k1, k2, k3, k4, k5, k6, k7, k8, k9, k10, k11, k12, k13⟩ := hk
  rw [← hw0] at k0 k1 k2 k3 k4 k5 k6 k7 k8 k9 k10 k11 k12 k13
  have HW := hide hw0
  clear hw0 hB0 hc0
  rcases HV.out with ⟨rfl, h⟩ | ⟨rfl, h1, h2, h3⟩
  · by_cases c1 : c.N < 1
    · go_enter Tryz.func18, Tryz.ntmps18
      go_wp2
      all_goals go_ret
      all_goals exact ⟨rfl, by rw [HW.out]; exact HB0.out⟩
    · by_cases c2 : 2147483647 < c.N
      · go_enter Tryz.func18, Tryz.ntmps18
        go_wp2
        all_goals go_ret
        all_goals exact ⟨rfl, by rw [HW.out]; exact HB0.out⟩
      · have c3 : R < 1 := by omega
        go_enter Tryz.func18, Tryz.ntmps18
        go_wp2_with (fail)
        rw [HW.out]
        refine HR.out.mono ?_
        rintro e1 w1 ⟨rfl, rfl⟩
        go_wp2
        all_goals go_ret
        all_goals exact ⟨rfl, HB.out⟩
  · go_enter Tryz.func18, Tryz.ntmps18
    go_wp2_with (fail)
    rw [HW.out]
    refine HR.out.mono ?_
    rintro e1 w1 ⟨rfl, rfl⟩
    go_wp2
    all_goals go_ret
    all_goals exact ⟨rfl, HB.out⟩
end Au
end Go.Proofs.YtgoigcpdfecfhaaGreatDoor
