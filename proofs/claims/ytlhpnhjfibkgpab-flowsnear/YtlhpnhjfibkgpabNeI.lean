import Derived.Test.YtlhpnhjfibkgpabNeH
import Derived.Test.YtlhpnhjfibkgpabWuC
namespace Go.Proofs.Ytlhpnhjfibkgpab
namespace Wp
open Go.RowKit
set_option linter.unusedVariables false
set_option maxRecDepth 8000
abbrev S8d (lb mb qb pb v i : Nat) (x1 x2 : Int) (q : Nat) (y : Int) (w : World) : Prop := w.cell? ⟨lb, v, none⟩ = some (.int .u64 x1) ∧ w.cell? ⟨mb, v, none⟩ = some (.int .u64 x2) ∧ w.cell? ⟨qb, i, none⟩ = some (.int .u32 (q : Int)) ∧ w.cell? ⟨pb, v, none⟩ = some (.int .u64 y)
theorem Sq.zr {w : World} {qb n : Nat} {Q : List Nat} (h : Sq w qb Q) (hQ : ∀ q ∈ Q, q < n) : Zr w qb n Q.length (fun j => Q.getD j 0) := ⟨h.1, fun j hj => by
  have e : Q[j]? = some Q[j] := List.getElem?_eq_getElem hj
  have e2 : Q.getD j 0 = Q[j] := by simp [List.getD, e]
  show w.cell? ⟨qb, j, none⟩ = some (.int .u32 ((Q.getD j 0 : Nat) : Int)) ∧ Q.getD j 0 < n
  rw [e2]
  exact ⟨h.2 j _ e, hQ _ (List.getElem_mem hj)⟩⟩
theorem zr_mem (Q : List Nat) (v : Nat) : (∃ j, j < Q.length ∧ Q.getD j 0 = v) ↔ v ∈ Q := by
  constructor
  · rintro ⟨j, hj, rfl⟩
    have e : Q[j]? = some Q[j] := List.getElem?_eq_getElem hj
    rw [show Q.getD j 0 = Q[j] by simp [List.getD, e]]
    exact List.getElem_mem hj
  · intro h
    obtain ⟨j, hj, e⟩ := List.mem_iff_getElem.1 h
    have e2 : Q[j]? = some Q[j] := List.getElem?_eq_getElem hj
    exact ⟨j, hj, by rw [show Q.getD j 0 = Q[j] by simp [List.getD, e2]]; exact e⟩
/-- Levels, sources so far, and the list of them, as they lie. -/
structure Rw (w0 w : World) (lb pb qb n : Nat) (L A : Nat → Int) (Q : List Nat) : Prop where
  l : GU w lb n L
  p : GU w pb n A
  q : Sq w qb Q
  b : Below w0.heap.size w0 w
  s : w0.heap.size ≤ pb
theorem Rw.on {w0 w w' : World} {lb pb qb n : Nat} {L A : Nat → Int} {Q : List Nat} (h : Rw w0 w lb pb qb n L A Q) (hb : Below w.heap.size w w') : Rw w0 w' lb pb qb n L A Q :=
  ⟨h.l.on hb, h.p.on hb, h.q.on hb h.q.1, h.b.trans (hb.mono h.b.size), h.s⟩
theorem Rw.set {w0 w : World} {lb pb qb n : Nat} {L A : Nat → Int} {Q : List Nat} (h : Rw w0 w lb pb qb n L A Q) (h1 : lb ≠ pb) (h2 : qb < w0.heap.size) (v : Nat) (x : Int) : Rw w0 (w.setCell ⟨pb, v, none⟩ (.int .u64 x)) lb pb qb n L (up A v x) Q := by
  obtain ⟨g1, C, g2⟩ := h.p.set v x
  have hs := h.s
  refine ⟨h.l.of (by rw [g2]; exact setRow_other w pb lb C h1), g1, ?_, by rw [g2]; exact below_setRow h.b h.s _, h.s⟩
  rw [g2]
  exact ⟨by simp; exact h.q.1, fun i q hq => (cell_setRow_other w _ _ _ (show qb ≠ pb by omega)).trans (h.q.2 i q hq)⟩
theorem Rw.ext {w0 w : World} {lb pb qb n : Nat} {L A A' : Nat → Int} {Q : List Nat} (h : Rw w0 w lb pb qb n L A Q) (e : ∀ v, v < n → A v = A' v) : Rw w0 w lb pb qb n L A' Q := ⟨h.l, h.p.ext e, h.q, h.b, h.s⟩
set_option maxHeartbeats 8000000 in
theorem rreach_any (n m c qb cq : Nat) (a : Option Addr) (E : Nat → Int × Int × Int) (Q : List Nat) (L : Nat → Int) (M : Nat → Nat → Int) (hn1 : 1 ≤ n) (hn : n ≤ 400) (hm : m ≤ 11728124029610) (hQl : Q.length ≤ 64) (hQn : ∀ q ∈ Q, q < n) (w : World) (hE : ERow w a m E) (hI : EIn n m E) (hZ : Sq w qb Q) (hF : Lv n m E (fun v => v ∈ Q) L) (hM : ∀ s, s < n → Lv n m E (fun v => v = s) (M s)) :
    Calls Try.prog 8 #[.int .u32 (n : Int), .slice (some ⟨qb, 0, none⟩) Q.length cq, .slice a m c] w fun e w' => ∃ lb pb, e = .returned (.tuple #[.slice (some ⟨lb, 0, none⟩) n n, .slice (some ⟨pb, 0, none⟩) n n]) ∧ GU w' lb n L ∧ GU w' pb n (frs L M (fun _ => 18446744073709551615) Q) ∧ Below w.heap.size w w' := by
  have HLv := hide (levels_any n m c Q.length qb cq a E (fun j => Q.getD j 0) L hn hm (by omega) w hE hI (hZ.zr hQn) (hF.same (fun v _ => (zr_mem Q v).symm)))
  have HNo := hide (none_any n (by omega))
  have HLs : Hid (∀ W s b cc, s < n → Below w.heap.size w W → W.cell? ⟨b, 0, none⟩ = some (.int .u32 ((s : Nat) : Int)) → b < W.heap.size → Calls Try.prog 18 #[.int .u32 (n : Int), .slice (some ⟨b, 0, none⟩) 1 cc, .slice a m c] W fun e w' => ∃ lb, e = .returned (.slice (some ⟨lb, 0, none⟩) n n) ∧ W.heap.size ≤ lb ∧ GU w' lb n (M s) ∧ Below W.heap.size W w') := fun W s b cc hs hb hc hlt =>
    levels_any n m c 1 b cc a E (fun _ => s) (M s) hn hm (by omega) W (hE.on hb) hI ⟨hlt, fun j hj => (show W.cell? ⟨b, j, none⟩ = some (.int .u32 ((s : Nat) : Int)) ∧ s < n from (by
      have e : j = 0 := by omega
      rw [e]
      exact ⟨hc, hs⟩))⟩ ((hM s hs).same (fun v _ => ⟨fun h => ⟨0, by omega, h.symm⟩, fun ⟨_, _, h⟩ => h.symm⟩))
  have HZ := hide hZ
  have HQn := hide hQn
  have hql : (Q.length : Int) ≤ 64 := by omega
  clear hE hI hF hM hZ hQn
  go_enter Try.func8, Try.ntmps8
  go_wp2_with (fail)
  refine HLv.out.mono ?_
  rintro e1 w1 ⟨lb, rfl, hlb, hL1, hB1⟩
  have HL1 := hide hL1
  have HB1 := hide hB1
  have HLb := hide hlb
  clear hL1 hB1 hlb HLv
  go_wp2_with (fail)
  refine (HNo.out w1).mono ?_
  rintro e2 w2 ⟨rfl, hG2, hB2⟩
  obtain ⟨pb, hpb⟩ : ∃ pb, pb = w1.heap.size := ⟨_, rfl⟩
  rw [← hpb] at hG2
  rw [← hpb]
  have HR2 : Hid (Rw w w2 lb pb qb n L (frs L M (fun _ => 18446744073709551615) (Q.take 0)) Q) := ⟨HL1.out.on hB2, hG2, HZ.out.on (HB1.out.trans (hB2.mono HB1.out.size)) HZ.out.1, HB1.out.trans (hB2.mono HB1.out.size), by rw [hpb]; exact HB1.out.size⟩
  have HNe : Hid (lb ≠ pb ∧ qb < w.heap.size ∧ w.heap.size ≤ lb) := ⟨by have := HL1.out.lt; omega, HZ.out.1, HLb.out⟩
  clear hpb hG2 hB2 HL1 HB1 HNo HZ
  go_wp2_with (fail)
  go_loopw [10] (fun t wr => ∃ i : Nat, i ≤ Q.length ∧ t = .int .i64 i ∧ Hid (Rw w wr lb pb qb n L (frs L M (fun _ => 18446744073709551615) (Q.take i)) Q)) (fun t _ => Q.length - (intOf t).toNat)
  case atStart => exact ⟨0, Nat.zero_le _, rfl, HR2⟩
  case round =>
    clear HR2
    obtain ⟨i, hi, rfl, HR⟩ := hrel
    by_cases ci : i < Q.length
    · have hci : (i : Int) < (Q.length : Int) := by omega
      obtain ⟨s, hs⟩ : ∃ s, Q[i]? = some s := ⟨Q[i], List.getElem?_eq_getElem ci⟩
      have hcs := HR.out.q.2 i s hs
      have hsn := HQn.out s (List.mem_of_getElem? hs)
      have hta : Q.take (i + 1) = Q.take i ++ [s] := by rw [List.take_add_one, hs]; rfl
      have HTa : Hid (frs L M (fun _ => 18446744073709551615) (Q.take (i + 1)) = fr1 L M (frs L M (fun _ => 18446744073709551615) (Q.take i)) s) := by show _ = _; rw [hta, frs_app]
      obtain ⟨A, hA⟩ : ∃ A, frs L M (fun _ => 18446744073709551615) (Q.take i) = A := ⟨_, rfl⟩
      rw [hA] at HR HTa
      have HLm := hide (HLs.out (wr.alloc (.cells #[.int .u32 (s : Int)] 26)) s wr.heap.size)
      have HLm2 := hide (fun cc => HLm.out cc hsn (HR.out.b.trans ((b1 wr 26 #[.int .u32 (s : Int)]).mono HR.out.b.size)) ((cell_of_row _ wr.heap.size 0 _ 26 (0, 0) (at0 wr _)).trans rfl) (by simp))
      have HRa := hide (HR.out.on (b1 wr 26 #[.int .u32 (s : Int)]))
      have hcs2 := HRa.out.q.2 i s hs
      have HSi := hide hs
      clear hta hA HLm hs hi HR
      go_wp2_with (fail)
      refine (HLm2.out _).mono ?_
      rintro e3 w3 ⟨mb, rfl, hmb, hG3, hB3⟩
      have HR3 : Hid (Rw w w3 lb pb qb n L (fun t => if t < 0 then fr1 L M A s t else A t) Q) := (HRa.out.on hB3).ext (fun t _ => by rw [if_neg (by omega)])
      have HG3 := hide hG3
      have HNm : Hid (mb ≠ pb) := by
        have h1 := HRa.out.p.lt
        show mb ≠ pb
        simp only [World.size_alloc] at h1 hmb
        have h2 := HRa.out.p.lt
        omega
      clear hmb hG3 hB3 HRa HLm2 hcs hcs2
      go_wp2_with (fail)
      go_loopw [12] (fun t wr => ∃ v : Nat, v ≤ n ∧ t = .int .i64 v ∧ Hid (Rw w wr lb pb qb n L (fun t => if t < v then fr1 L M A s t else A t) Q) ∧ Hid (GU wr mb n (M s))) (fun t _ => n - (intOf t).toNat)
      case atStart => exact ⟨0, Nat.zero_le _, rfl, HR3, HG3⟩
      case round =>
        clear HR3 HG3
        obtain ⟨v, hv, rfl, HR, HG⟩ := hrel
        by_cases cv : v < n
        · have hcv : (v : Int) < (n : Int) := by omega
          have hl := HR.out.l.cell v cv
          have hmv := HG.out.cell v cv
          have hqi := HR.out.q.2 i s HSi.out
          have hpv := HR.out.p.cell v cv
          rw [if_neg (by omega)] at hpv
          obtain ⟨x1, hx1⟩ : ∃ x1, L v = x1 := ⟨_, rfl⟩
          obtain ⟨x2, hx2⟩ : ∃ x2, M s v = x2 := ⟨_, rfl⟩
          obtain ⟨y, hy⟩ : ∃ y, A v = y := ⟨_, rfl⟩
          have HFr : Hid (fr1 L M A s v = if x1 ≠ 18446744073709551615 ∧ x2 = x1 ∧ (s : Int) < y then (s : Int) else y) := by show _ = _; unfold fr1; rw [hx1, hx2, hy]
          rw [hx1] at hl
          rw [hx2] at hmv
          rw [hy] at hpv
          have HS8 : Hid (S8d lb mb qb pb v i x1 x2 s y wr.drew) := ⟨hl, hmv, hqi, hpv⟩
          have hsw : IntKind.u64.wrap (s : Int) = s := wu _ (by omega) (by omega)
          have HRd : Hid (Rw w wr.drew lb pb qb n L (fun t => if t < v then fr1 L M A s t else A t) Q) := HR.out.on (belowD (Below.refl _ _))
          have HGd : Hid (GU wr.drew mb n (M s)) := HG.out.on (belowD (Below.refl _ _))
          have HNo : Hid (¬ (x1 ≠ 18446744073709551615 ∧ x2 = x1 ∧ (s : Int) < y) → Rw w wr.drew lb pb qb n L (fun t => if t < v + 1 then fr1 L M A s t else A t) Q) := fun hno => HRd.out.ext (fun t ht => by
            by_cases e : t = v
            · subst e; rw [if_neg (by omega), if_pos (by omega), HFr.out, if_neg hno, hy]
            · by_cases e2 : t < v
              · rw [if_pos e2, if_pos (by omega)]
              · rw [if_neg e2, if_neg (by omega)])
          clear hl hmv hqi hpv hx1 hx2 HR HG
          have Hy := hide hy
          clear hy
          by_cases h1 : x1 = 18446744073709551615
          · have hb1 : (x1 != 18446744073709551615) = false := by simpa using h1
            have HR5 := hide (HNo.out (fun h => h.1 h1))
            clear h1 HNo HFr
            go_wp2_with (fail)
            refine wp_region_held_drew (S := (S8d lb mb qb pb v i x1 x2 s y)) (by kernel_rfl) ?_ (fun hHeld => ?_)
            · exact HS8.out
            refine wpAnyH_take (i := 0) (oi := ({ dst := some 39, op := Go.Op.move (Go.Operand.tmp 8), type := 43, pos := "ref.go:85", after := #[], guard := none } : Oper)) (v := ?_) rfl (by kernel_rfl) (by kernel_rfl) (by kernel_rfl) (fun _ _ _ h => h) (Or.inl ⟨by rfl, ?_⟩) (by assumption) ?_
            rotate_left 1
            · (intro w hSw; (try dsimp only at hSw); go_simp; (try with_reducible rfl))
            try simp only [Act.put, List.setIfInBounds_toArray, List.set_cons_zero, List.set_cons_succ]
            refine wpAnyH_take (i := 1) (oi := ({ dst := some 40, op := Go.Op.move (Go.Operand.tmp 12), type := 3, pos := "ref.go:85", after := #[], guard := none } : Oper)) (v := ?_) rfl (by kernel_rfl) (by kernel_rfl) (by kernel_rfl) (fun _ _ _ h => h) (Or.inl ⟨by rfl, ?_⟩) (by assumption) ?_
            rotate_left 1
            · (intro w hSw; (try dsimp only at hSw); go_simp; (try with_reducible rfl))
            try simp only [Act.put, List.setIfInBounds_toArray, List.set_cons_zero, List.set_cons_succ]
            refine wpAnyH_take (i := 2) (oi := ({ dst := some 41, op := Go.Op.indexAddr 43 (Go.Operand.tmp 39) (Go.Operand.tmp 40), type := 0, pos := "ref.go:85", after := #[{ on := 0, ground := Go.Ground.data }, { on := 1, ground := Go.Ground.data }], guard := none } : Oper)) (v := ?_) rfl (by kernel_rfl) (by kernel_rfl) (by kernel_rfl) (fun _ _ _ h => h) (Or.inl ⟨by rfl, ?_⟩) (by assumption) ?_
            rotate_left 1
            · (intro w hSw; (try dsimp only at hSw); go_simp; (try with_reducible rfl))
            try simp only [Act.put, List.setIfInBounds_toArray, List.set_cons_zero, List.set_cons_succ]
            refine wpAnyH_take (i := 3) (oi := ({ dst := some 42, op := Go.Op.load 34 (Go.Operand.tmp 41), type := 34, pos := "ref.go:85", after := #[{ on := 2, ground := Go.Ground.data }], guard := none } : Oper)) (v := ?_) rfl (by kernel_rfl) (by kernel_rfl) (by kernel_rfl) (fun _ _ _ h => h) (Or.inl ⟨by rfl, ?_⟩) (by assumption) ?_
            rotate_left 1
            · (intro w hSw; (try dsimp only at hSw); go_simp; (try with_reducible rfl))
            try simp only [Act.put, List.setIfInBounds_toArray, List.set_cons_zero, List.set_cons_succ]
            refine wpAnyH_take (i := 4) (oi := ({ dst := some 43, op := Go.Op.binOp Go.BinOp.neq 34 (Go.Operand.tmp 42) (Go.Operand.const (Go.Value.int Go.IntKind.u64 18446744073709551615)) 34, type := 4, pos := "ref.go:85", after := #[{ on := 3, ground := Go.Ground.data }], guard := none } : Oper)) (v := ?_) rfl (by kernel_rfl) (by kernel_rfl) (by kernel_rfl) (fun _ _ _ h => h) (Or.inl ⟨by rfl, ?_⟩) (by assumption) ?_
            rotate_left 1
            · (intro w hSw; (try dsimp only at hSw); go_simp; (try with_reducible rfl))
            try simp only [Act.put, List.setIfInBounds_toArray, List.set_cons_zero, List.set_cons_succ]
            refine wpAnyH_take (i := 5) (oi := ({ dst := some 44, op := Go.Op.move (Go.Operand.tmp 43), type := 4, pos := "ref.go:85", after := #[{ on := 4, ground := Go.Ground.data }], guard := none } : Oper)) (v := ?_) rfl (by kernel_rfl) (by kernel_rfl) (by kernel_rfl) (fun _ _ _ h => h) (Or.inl ⟨by rfl, ?_⟩) (by assumption) ?_
            rotate_left 1
            · (intro w hSw; (try dsimp only at hSw); go_simp; (try with_reducible rfl))
            try simp only [Act.put, List.setIfInBounds_toArray, List.set_cons_zero, List.set_cons_succ]
            refine wpAnyH_take (i := 6) (oi := ({ dst := some 45, op := Go.Op.move (Go.Operand.tmp 11), type := 43, pos := "ref.go:85", after := #[{ on := 5, ground := Go.Ground.guard }], guard := some (5, true) } : Oper)) (v := undef) rfl (by kernel_rfl) (by kernel_rfl) (by kernel_rfl) (fun _ _ _ h => h) (Or.inr ⟨by rfl, rfl⟩) (by assumption) ?_
            try simp only [Act.put, List.setIfInBounds_toArray, List.set_cons_zero, List.set_cons_succ]
            refine wpAnyH_take (i := 7) (oi := ({ dst := some 46, op := Go.Op.move (Go.Operand.tmp 12), type := 3, pos := "ref.go:85", after := #[{ on := 5, ground := Go.Ground.guard }], guard := some (5, true) } : Oper)) (v := undef) rfl (by kernel_rfl) (by kernel_rfl) (by kernel_rfl) (fun _ _ _ h => h) (Or.inr ⟨by rfl, rfl⟩) (by assumption) ?_
            try simp only [Act.put, List.setIfInBounds_toArray, List.set_cons_zero, List.set_cons_succ]
            refine wpAnyH_take (i := 8) (oi := ({ dst := some 47, op := Go.Op.indexAddr 43 (Go.Operand.tmp 45) (Go.Operand.tmp 46), type := 0, pos := "ref.go:85", after := #[{ on := 6, ground := Go.Ground.data }, { on := 7, ground := Go.Ground.data }, { on := 5, ground := Go.Ground.guard }], guard := some (5, true) } : Oper)) (v := undef) rfl (by kernel_rfl) (by kernel_rfl) (by kernel_rfl) (fun _ _ _ h => h) (Or.inr ⟨by rfl, rfl⟩) (by assumption) ?_
            try simp only [Act.put, List.setIfInBounds_toArray, List.set_cons_zero, List.set_cons_succ]
            refine wpAnyH_take (i := 9) (oi := ({ dst := some 48, op := Go.Op.load 34 (Go.Operand.tmp 47), type := 34, pos := "ref.go:85", after := #[{ on := 8, ground := Go.Ground.data }, { on := 5, ground := Go.Ground.guard }], guard := some (5, true) } : Oper)) (v := undef) rfl (by kernel_rfl) (by kernel_rfl) (by kernel_rfl) (fun _ _ _ h => h) (Or.inr ⟨by rfl, rfl⟩) (by assumption) ?_
            try simp only [Act.put, List.setIfInBounds_toArray, List.set_cons_zero, List.set_cons_succ]
            refine wpAnyH_take (i := 10) (oi := ({ dst := some 49, op := Go.Op.move (Go.Operand.tmp 8), type := 43, pos := "ref.go:85", after := #[{ on := 5, ground := Go.Ground.guard }], guard := some (5, true) } : Oper)) (v := undef) rfl (by kernel_rfl) (by kernel_rfl) (by kernel_rfl) (fun _ _ _ h => h) (Or.inr ⟨by rfl, rfl⟩) (by assumption) ?_
            try simp only [Act.put, List.setIfInBounds_toArray, List.set_cons_zero, List.set_cons_succ]
            refine wpAnyH_take (i := 11) (oi := ({ dst := some 50, op := Go.Op.move (Go.Operand.tmp 12), type := 3, pos := "ref.go:85", after := #[{ on := 5, ground := Go.Ground.guard }], guard := some (5, true) } : Oper)) (v := undef) rfl (by kernel_rfl) (by kernel_rfl) (by kernel_rfl) (fun _ _ _ h => h) (Or.inr ⟨by rfl, rfl⟩) (by assumption) ?_
            try simp only [Act.put, List.setIfInBounds_toArray, List.set_cons_zero, List.set_cons_succ]
            refine wpAnyH_take (i := 12) (oi := ({ dst := some 51, op := Go.Op.indexAddr 43 (Go.Operand.tmp 49) (Go.Operand.tmp 50), type := 0, pos := "ref.go:85", after := #[{ on := 10, ground := Go.Ground.data }, { on := 11, ground := Go.Ground.data }, { on := 5, ground := Go.Ground.guard }], guard := some (5, true) } : Oper)) (v := undef) rfl (by kernel_rfl) (by kernel_rfl) (by kernel_rfl) (fun _ _ _ h => h) (Or.inr ⟨by rfl, rfl⟩) (by assumption) ?_
            try simp only [Act.put, List.setIfInBounds_toArray, List.set_cons_zero, List.set_cons_succ]
            refine wpAnyH_take (i := 13) (oi := ({ dst := some 52, op := Go.Op.load 34 (Go.Operand.tmp 51), type := 34, pos := "ref.go:85", after := #[{ on := 12, ground := Go.Ground.data }, { on := 5, ground := Go.Ground.guard }], guard := some (5, true) } : Oper)) (v := undef) rfl (by kernel_rfl) (by kernel_rfl) (by kernel_rfl) (fun _ _ _ h => h) (Or.inr ⟨by rfl, rfl⟩) (by assumption) ?_
            try simp only [Act.put, List.setIfInBounds_toArray, List.set_cons_zero, List.set_cons_succ]
            refine wpAnyH_take (i := 14) (oi := ({ dst := some 53, op := Go.Op.binOp Go.BinOp.eql 34 (Go.Operand.tmp 48) (Go.Operand.tmp 52) 34, type := 4, pos := "ref.go:85", after := #[{ on := 9, ground := Go.Ground.data }, { on := 13, ground := Go.Ground.data }, { on := 5, ground := Go.Ground.guard }], guard := some (5, true) } : Oper)) (v := undef) rfl (by kernel_rfl) (by kernel_rfl) (by kernel_rfl) (fun _ _ _ h => h) (Or.inr ⟨by rfl, rfl⟩) (by assumption) ?_
            try simp only [Act.put, List.setIfInBounds_toArray, List.set_cons_zero, List.set_cons_succ]
            refine wpAnyH_take (i := 15) (oi := ({ dst := some 54, op := Go.Op.pick (Go.Operand.tmp 44) (Go.Operand.tmp 53) (Go.Operand.const (Go.Value.bool false)), type := 4, pos := "ref.go:85", after := #[{ on := 5, ground := Go.Ground.data }, { on := 14, ground := Go.Ground.data }], guard := none } : Oper)) (v := ?_) rfl (by kernel_rfl) (by kernel_rfl) (by kernel_rfl) (fun _ _ _ h => h) (Or.inl ⟨by rfl, ?_⟩) (by assumption) ?_
            rotate_left 1
            · (intro w hSw; (try dsimp only at hSw); go_simp; (try with_reducible rfl))
            try simp only [Act.put, List.setIfInBounds_toArray, List.set_cons_zero, List.set_cons_succ]
            refine wpAnyH_take (i := 16) (oi := ({ dst := some 55, op := Go.Op.move (Go.Operand.tmp 54), type := 4, pos := "ref.go:85", after := #[{ on := 15, ground := Go.Ground.data }, { on := 5, ground := Go.Ground.chain }], guard := none } : Oper)) (v := ?_) rfl (by kernel_rfl) (by kernel_rfl) (by kernel_rfl) (fun _ _ _ h => h) (Or.inl ⟨by rfl, ?_⟩) (by assumption) ?_
            rotate_left 1
            · (intro w hSw; (try dsimp only at hSw); go_simp; (try with_reducible rfl))
            try simp only [Act.put, List.setIfInBounds_toArray, List.set_cons_zero, List.set_cons_succ]
            refine wpAnyH_take (i := 17) (oi := ({ dst := some 56, op := Go.Op.move (Go.Operand.tmp 1), type := 25, pos := "ref.go:85", after := #[{ on := 16, ground := Go.Ground.guard }], guard := some (16, true) } : Oper)) (v := undef) rfl (by kernel_rfl) (by kernel_rfl) (by kernel_rfl) (fun _ _ _ h => h) (Or.inr ⟨by rfl, rfl⟩) (by assumption) ?_
            try simp only [Act.put, List.setIfInBounds_toArray, List.set_cons_zero, List.set_cons_succ]
            refine wpAnyH_take (i := 18) (oi := ({ dst := some 57, op := Go.Op.move (Go.Operand.tmp 10), type := 3, pos := "ref.go:85", after := #[{ on := 16, ground := Go.Ground.guard }], guard := some (16, true) } : Oper)) (v := undef) rfl (by kernel_rfl) (by kernel_rfl) (by kernel_rfl) (fun _ _ _ h => h) (Or.inr ⟨by rfl, rfl⟩) (by assumption) ?_
            try simp only [Act.put, List.setIfInBounds_toArray, List.set_cons_zero, List.set_cons_succ]
            refine wpAnyH_take (i := 19) (oi := ({ dst := some 58, op := Go.Op.indexAddr 25 (Go.Operand.tmp 56) (Go.Operand.tmp 57), type := 0, pos := "ref.go:85", after := #[{ on := 17, ground := Go.Ground.data }, { on := 18, ground := Go.Ground.data }, { on := 16, ground := Go.Ground.guard }], guard := some (16, true) } : Oper)) (v := undef) rfl (by kernel_rfl) (by kernel_rfl) (by kernel_rfl) (fun _ _ _ h => h) (Or.inr ⟨by rfl, rfl⟩) (by assumption) ?_
            try simp only [Act.put, List.setIfInBounds_toArray, List.set_cons_zero, List.set_cons_succ]
            refine wpAnyH_take (i := 20) (oi := ({ dst := some 59, op := Go.Op.load 26 (Go.Operand.tmp 58), type := 26, pos := "ref.go:85", after := #[{ on := 19, ground := Go.Ground.data }, { on := 16, ground := Go.Ground.guard }], guard := some (16, true) } : Oper)) (v := undef) rfl (by kernel_rfl) (by kernel_rfl) (by kernel_rfl) (fun _ _ _ h => h) (Or.inr ⟨by rfl, rfl⟩) (by assumption) ?_
            try simp only [Act.put, List.setIfInBounds_toArray, List.set_cons_zero, List.set_cons_succ]
            refine wpAnyH_take (i := 21) (oi := ({ dst := some 60, op := Go.Op.convert 26 34 (Go.Operand.tmp 59), type := 34, pos := "ref.go:85", after := #[{ on := 20, ground := Go.Ground.data }, { on := 16, ground := Go.Ground.guard }], guard := some (16, true) } : Oper)) (v := undef) rfl (by kernel_rfl) (by kernel_rfl) (by kernel_rfl) (fun _ _ _ h => h) (Or.inr ⟨by rfl, rfl⟩) (by assumption) ?_
            try simp only [Act.put, List.setIfInBounds_toArray, List.set_cons_zero, List.set_cons_succ]
            refine wpAnyH_take (i := 22) (oi := ({ dst := some 61, op := Go.Op.move (Go.Operand.tmp 9), type := 43, pos := "ref.go:85", after := #[{ on := 16, ground := Go.Ground.guard }], guard := some (16, true) } : Oper)) (v := undef) rfl (by kernel_rfl) (by kernel_rfl) (by kernel_rfl) (fun _ _ _ h => h) (Or.inr ⟨by rfl, rfl⟩) (by assumption) ?_
            try simp only [Act.put, List.setIfInBounds_toArray, List.set_cons_zero, List.set_cons_succ]
            refine wpAnyH_take (i := 23) (oi := ({ dst := some 62, op := Go.Op.move (Go.Operand.tmp 12), type := 3, pos := "ref.go:85", after := #[{ on := 16, ground := Go.Ground.guard }], guard := some (16, true) } : Oper)) (v := undef) rfl (by kernel_rfl) (by kernel_rfl) (by kernel_rfl) (fun _ _ _ h => h) (Or.inr ⟨by rfl, rfl⟩) (by assumption) ?_
            try simp only [Act.put, List.setIfInBounds_toArray, List.set_cons_zero, List.set_cons_succ]
            refine wpAnyH_take (i := 24) (oi := ({ dst := some 63, op := Go.Op.indexAddr 43 (Go.Operand.tmp 61) (Go.Operand.tmp 62), type := 0, pos := "ref.go:85", after := #[{ on := 22, ground := Go.Ground.data }, { on := 23, ground := Go.Ground.data }, { on := 16, ground := Go.Ground.guard }], guard := some (16, true) } : Oper)) (v := undef) rfl (by kernel_rfl) (by kernel_rfl) (by kernel_rfl) (fun _ _ _ h => h) (Or.inr ⟨by rfl, rfl⟩) (by assumption) ?_
            try simp only [Act.put, List.setIfInBounds_toArray, List.set_cons_zero, List.set_cons_succ]
            refine wpAnyH_take (i := 25) (oi := ({ dst := some 64, op := Go.Op.load 34 (Go.Operand.tmp 63), type := 34, pos := "ref.go:85", after := #[{ on := 24, ground := Go.Ground.data }, { on := 16, ground := Go.Ground.guard }], guard := some (16, true) } : Oper)) (v := undef) rfl (by kernel_rfl) (by kernel_rfl) (by kernel_rfl) (fun _ _ _ h => h) (Or.inr ⟨by rfl, rfl⟩) (by assumption) ?_
            try simp only [Act.put, List.setIfInBounds_toArray, List.set_cons_zero, List.set_cons_succ]
            refine wpAnyH_take (i := 26) (oi := ({ dst := some 65, op := Go.Op.binOp Go.BinOp.lss 34 (Go.Operand.tmp 60) (Go.Operand.tmp 64) 34, type := 4, pos := "ref.go:85", after := #[{ on := 21, ground := Go.Ground.data }, { on := 25, ground := Go.Ground.data }, { on := 16, ground := Go.Ground.guard }], guard := some (16, true) } : Oper)) (v := undef) rfl (by kernel_rfl) (by kernel_rfl) (by kernel_rfl) (fun _ _ _ h => h) (Or.inr ⟨by rfl, rfl⟩) (by assumption) ?_
            try simp only [Act.put, List.setIfInBounds_toArray, List.set_cons_zero, List.set_cons_succ]
            refine wpAnyH_take (i := 27) (oi := ({ dst := some 66, op := Go.Op.pick (Go.Operand.tmp 55) (Go.Operand.tmp 65) (Go.Operand.const (Go.Value.bool false)), type := 4, pos := "ref.go:85", after := #[{ on := 16, ground := Go.Ground.data }, { on := 26, ground := Go.Ground.data }], guard := none } : Oper)) (v := ?_) rfl (by kernel_rfl) (by kernel_rfl) (by kernel_rfl) (fun _ _ _ h => h) (Or.inl ⟨by rfl, ?_⟩) (by assumption) ?_
            rotate_left 1
            · (intro w hSw; (try dsimp only at hSw); go_simp; (try with_reducible rfl))
            try simp only [Act.put, List.setIfInBounds_toArray, List.set_cons_zero, List.set_cons_succ]
            refine wpAnyH_done (by kernel_rfl) ?_ _
            clear HS8 HRd
            go_wp2
            go_roundw
            case rel => exact ⟨v + 1, cv, by go_num, HR5, HGd⟩
            case measure => simp [intOf]; omega
          · have hb1 : (x1 != 18446744073709551615) = true := by simpa using h1
            by_cases h2 : x2 = x1
            · subst h2
              have hb2 : (x2 == x2) = true := by simp
              by_cases h3 : (s : Int) < y
              · have hb3 : decide ((s : Int) < y) = true := by simpa using h3
                have hf := HRd.out.p.fz v
                have hc := HRd.out.p.cell v cv
                have hqd := HRd.out.q.2 i s HSi.out
                have HRs : Hid (Rw w (wr.drew.setCell ⟨pb, v, none⟩ (.int .u64 (s : Int))) lb pb qb n L (fun t => if t < v + 1 then fr1 L M A s t else A t) Q) := (HRd.out.set HNe.out.1 HNe.out.2.1 v (s : Int)).ext (fun t ht => by
                  by_cases e : t = v
                  · subst e; rw [up_eq, if_pos (by omega), HFr.out, if_pos ⟨h1, rfl, h3⟩]
                  · rw [up_ne _ _ _ _ e]
                    by_cases e2 : t < v
                    · rw [if_pos e2, if_pos (by omega)]
                    · rw [if_neg e2, if_neg (by omega)])
                have HGs : Hid (GU (wr.drew.setCell ⟨pb, v, none⟩ (.int .u64 (s : Int))) mb n (M s)) := by
                  obtain ⟨_, C, g2⟩ := HRd.out.p.set v (s : Int)
                  show GU _ _ _ _
                  rw [g2]
                  exact HGd.out.of (setRow_other _ _ _ _ HNm.out)
                clear h1 h3 HNo HFr
                go_wp2_with (fail)
                refine wp_region_held_drew (S := (S8d lb mb qb pb v i x2 x2 s y)) (by kernel_rfl) ?_ (fun hHeld => ?_)
                · exact HS8.out
                refine wpAnyH_take (i := 0) (oi := ({ dst := some 39, op := Go.Op.move (Go.Operand.tmp 8), type := 43, pos := "ref.go:85", after := #[], guard := none } : Oper)) (v := ?_) rfl (by kernel_rfl) (by kernel_rfl) (by kernel_rfl) (fun _ _ _ h => h) (Or.inl ⟨by rfl, ?_⟩) (by assumption) ?_
                rotate_left 1
                · (intro w hSw; (try dsimp only at hSw); go_simp; (try with_reducible rfl))
                try simp only [Act.put, List.setIfInBounds_toArray, List.set_cons_zero, List.set_cons_succ]
                refine wpAnyH_take (i := 1) (oi := ({ dst := some 40, op := Go.Op.move (Go.Operand.tmp 12), type := 3, pos := "ref.go:85", after := #[], guard := none } : Oper)) (v := ?_) rfl (by kernel_rfl) (by kernel_rfl) (by kernel_rfl) (fun _ _ _ h => h) (Or.inl ⟨by rfl, ?_⟩) (by assumption) ?_
                rotate_left 1
                · (intro w hSw; (try dsimp only at hSw); go_simp; (try with_reducible rfl))
                try simp only [Act.put, List.setIfInBounds_toArray, List.set_cons_zero, List.set_cons_succ]
                refine wpAnyH_take (i := 2) (oi := ({ dst := some 41, op := Go.Op.indexAddr 43 (Go.Operand.tmp 39) (Go.Operand.tmp 40), type := 0, pos := "ref.go:85", after := #[{ on := 0, ground := Go.Ground.data }, { on := 1, ground := Go.Ground.data }], guard := none } : Oper)) (v := ?_) rfl (by kernel_rfl) (by kernel_rfl) (by kernel_rfl) (fun _ _ _ h => h) (Or.inl ⟨by rfl, ?_⟩) (by assumption) ?_
                rotate_left 1
                · (intro w hSw; (try dsimp only at hSw); go_simp; (try with_reducible rfl))
                try simp only [Act.put, List.setIfInBounds_toArray, List.set_cons_zero, List.set_cons_succ]
                refine wpAnyH_take (i := 3) (oi := ({ dst := some 42, op := Go.Op.load 34 (Go.Operand.tmp 41), type := 34, pos := "ref.go:85", after := #[{ on := 2, ground := Go.Ground.data }], guard := none } : Oper)) (v := ?_) rfl (by kernel_rfl) (by kernel_rfl) (by kernel_rfl) (fun _ _ _ h => h) (Or.inl ⟨by rfl, ?_⟩) (by assumption) ?_
                rotate_left 1
                · (intro w hSw; (try dsimp only at hSw); go_simp; (try with_reducible rfl))
                try simp only [Act.put, List.setIfInBounds_toArray, List.set_cons_zero, List.set_cons_succ]
                refine wpAnyH_take (i := 4) (oi := ({ dst := some 43, op := Go.Op.binOp Go.BinOp.neq 34 (Go.Operand.tmp 42) (Go.Operand.const (Go.Value.int Go.IntKind.u64 18446744073709551615)) 34, type := 4, pos := "ref.go:85", after := #[{ on := 3, ground := Go.Ground.data }], guard := none } : Oper)) (v := ?_) rfl (by kernel_rfl) (by kernel_rfl) (by kernel_rfl) (fun _ _ _ h => h) (Or.inl ⟨by rfl, ?_⟩) (by assumption) ?_
                rotate_left 1
                · (intro w hSw; (try dsimp only at hSw); go_simp; (try with_reducible rfl))
                try simp only [Act.put, List.setIfInBounds_toArray, List.set_cons_zero, List.set_cons_succ]
                refine wpAnyH_take (i := 5) (oi := ({ dst := some 44, op := Go.Op.move (Go.Operand.tmp 43), type := 4, pos := "ref.go:85", after := #[{ on := 4, ground := Go.Ground.data }], guard := none } : Oper)) (v := ?_) rfl (by kernel_rfl) (by kernel_rfl) (by kernel_rfl) (fun _ _ _ h => h) (Or.inl ⟨by rfl, ?_⟩) (by assumption) ?_
                rotate_left 1
                · (intro w hSw; (try dsimp only at hSw); go_simp; (try with_reducible rfl))
                try simp only [Act.put, List.setIfInBounds_toArray, List.set_cons_zero, List.set_cons_succ]
                refine wpAnyH_take (i := 6) (oi := ({ dst := some 45, op := Go.Op.move (Go.Operand.tmp 11), type := 43, pos := "ref.go:85", after := #[{ on := 5, ground := Go.Ground.guard }], guard := some (5, true) } : Oper)) (v := ?_) rfl (by kernel_rfl) (by kernel_rfl) (by kernel_rfl) (fun _ _ _ h => h) (Or.inl ⟨by rfl, ?_⟩) (by assumption) ?_
                rotate_left 1
                · (intro w hSw; (try dsimp only at hSw); go_simp; (try with_reducible rfl))
                try simp only [Act.put, List.setIfInBounds_toArray, List.set_cons_zero, List.set_cons_succ]
                refine wpAnyH_take (i := 7) (oi := ({ dst := some 46, op := Go.Op.move (Go.Operand.tmp 12), type := 3, pos := "ref.go:85", after := #[{ on := 5, ground := Go.Ground.guard }], guard := some (5, true) } : Oper)) (v := ?_) rfl (by kernel_rfl) (by kernel_rfl) (by kernel_rfl) (fun _ _ _ h => h) (Or.inl ⟨by rfl, ?_⟩) (by assumption) ?_
                rotate_left 1
                · (intro w hSw; (try dsimp only at hSw); go_simp; (try with_reducible rfl))
                try simp only [Act.put, List.setIfInBounds_toArray, List.set_cons_zero, List.set_cons_succ]
                refine wpAnyH_take (i := 8) (oi := ({ dst := some 47, op := Go.Op.indexAddr 43 (Go.Operand.tmp 45) (Go.Operand.tmp 46), type := 0, pos := "ref.go:85", after := #[{ on := 6, ground := Go.Ground.data }, { on := 7, ground := Go.Ground.data }, { on := 5, ground := Go.Ground.guard }], guard := some (5, true) } : Oper)) (v := ?_) rfl (by kernel_rfl) (by kernel_rfl) (by kernel_rfl) (fun _ _ _ h => h) (Or.inl ⟨by rfl, ?_⟩) (by assumption) ?_
                rotate_left 1
                · (intro w hSw; (try dsimp only at hSw); go_simp; (try with_reducible rfl))
                try simp only [Act.put, List.setIfInBounds_toArray, List.set_cons_zero, List.set_cons_succ]
                refine wpAnyH_take (i := 9) (oi := ({ dst := some 48, op := Go.Op.load 34 (Go.Operand.tmp 47), type := 34, pos := "ref.go:85", after := #[{ on := 8, ground := Go.Ground.data }, { on := 5, ground := Go.Ground.guard }], guard := some (5, true) } : Oper)) (v := ?_) rfl (by kernel_rfl) (by kernel_rfl) (by kernel_rfl) (fun _ _ _ h => h) (Or.inl ⟨by rfl, ?_⟩) (by assumption) ?_
                rotate_left 1
                · (intro w hSw; (try dsimp only at hSw); go_simp; (try with_reducible rfl))
                try simp only [Act.put, List.setIfInBounds_toArray, List.set_cons_zero, List.set_cons_succ]
                refine wpAnyH_take (i := 10) (oi := ({ dst := some 49, op := Go.Op.move (Go.Operand.tmp 8), type := 43, pos := "ref.go:85", after := #[{ on := 5, ground := Go.Ground.guard }], guard := some (5, true) } : Oper)) (v := ?_) rfl (by kernel_rfl) (by kernel_rfl) (by kernel_rfl) (fun _ _ _ h => h) (Or.inl ⟨by rfl, ?_⟩) (by assumption) ?_
                rotate_left 1
                · (intro w hSw; (try dsimp only at hSw); go_simp; (try with_reducible rfl))
                try simp only [Act.put, List.setIfInBounds_toArray, List.set_cons_zero, List.set_cons_succ]
                refine wpAnyH_take (i := 11) (oi := ({ dst := some 50, op := Go.Op.move (Go.Operand.tmp 12), type := 3, pos := "ref.go:85", after := #[{ on := 5, ground := Go.Ground.guard }], guard := some (5, true) } : Oper)) (v := ?_) rfl (by kernel_rfl) (by kernel_rfl) (by kernel_rfl) (fun _ _ _ h => h) (Or.inl ⟨by rfl, ?_⟩) (by assumption) ?_
                rotate_left 1
                · (intro w hSw; (try dsimp only at hSw); go_simp; (try with_reducible rfl))
                try simp only [Act.put, List.setIfInBounds_toArray, List.set_cons_zero, List.set_cons_succ]
                refine wpAnyH_take (i := 12) (oi := ({ dst := some 51, op := Go.Op.indexAddr 43 (Go.Operand.tmp 49) (Go.Operand.tmp 50), type := 0, pos := "ref.go:85", after := #[{ on := 10, ground := Go.Ground.data }, { on := 11, ground := Go.Ground.data }, { on := 5, ground := Go.Ground.guard }], guard := some (5, true) } : Oper)) (v := ?_) rfl (by kernel_rfl) (by kernel_rfl) (by kernel_rfl) (fun _ _ _ h => h) (Or.inl ⟨by rfl, ?_⟩) (by assumption) ?_
                rotate_left 1
                · (intro w hSw; (try dsimp only at hSw); go_simp; (try with_reducible rfl))
                try simp only [Act.put, List.setIfInBounds_toArray, List.set_cons_zero, List.set_cons_succ]
                refine wpAnyH_take (i := 13) (oi := ({ dst := some 52, op := Go.Op.load 34 (Go.Operand.tmp 51), type := 34, pos := "ref.go:85", after := #[{ on := 12, ground := Go.Ground.data }, { on := 5, ground := Go.Ground.guard }], guard := some (5, true) } : Oper)) (v := ?_) rfl (by kernel_rfl) (by kernel_rfl) (by kernel_rfl) (fun _ _ _ h => h) (Or.inl ⟨by rfl, ?_⟩) (by assumption) ?_
                rotate_left 1
                · (intro w hSw; (try dsimp only at hSw); go_simp; (try with_reducible rfl))
                try simp only [Act.put, List.setIfInBounds_toArray, List.set_cons_zero, List.set_cons_succ]
                refine wpAnyH_take (i := 14) (oi := ({ dst := some 53, op := Go.Op.binOp Go.BinOp.eql 34 (Go.Operand.tmp 48) (Go.Operand.tmp 52) 34, type := 4, pos := "ref.go:85", after := #[{ on := 9, ground := Go.Ground.data }, { on := 13, ground := Go.Ground.data }, { on := 5, ground := Go.Ground.guard }], guard := some (5, true) } : Oper)) (v := ?_) rfl (by kernel_rfl) (by kernel_rfl) (by kernel_rfl) (fun _ _ _ h => h) (Or.inl ⟨by rfl, ?_⟩) (by assumption) ?_
                rotate_left 1
                · (intro w hSw; (try dsimp only at hSw); go_simp; (try with_reducible rfl))
                try simp only [Act.put, List.setIfInBounds_toArray, List.set_cons_zero, List.set_cons_succ]
                refine wpAnyH_take (i := 15) (oi := ({ dst := some 54, op := Go.Op.pick (Go.Operand.tmp 44) (Go.Operand.tmp 53) (Go.Operand.const (Go.Value.bool false)), type := 4, pos := "ref.go:85", after := #[{ on := 5, ground := Go.Ground.data }, { on := 14, ground := Go.Ground.data }], guard := none } : Oper)) (v := ?_) rfl (by kernel_rfl) (by kernel_rfl) (by kernel_rfl) (fun _ _ _ h => h) (Or.inl ⟨by rfl, ?_⟩) (by assumption) ?_
                rotate_left 1
                · (intro w hSw; (try dsimp only at hSw); go_simp; (try with_reducible rfl))
                try simp only [Act.put, List.setIfInBounds_toArray, List.set_cons_zero, List.set_cons_succ]
                refine wpAnyH_take (i := 16) (oi := ({ dst := some 55, op := Go.Op.move (Go.Operand.tmp 54), type := 4, pos := "ref.go:85", after := #[{ on := 15, ground := Go.Ground.data }, { on := 5, ground := Go.Ground.chain }], guard := none } : Oper)) (v := ?_) rfl (by kernel_rfl) (by kernel_rfl) (by kernel_rfl) (fun _ _ _ h => h) (Or.inl ⟨by rfl, ?_⟩) (by assumption) ?_
                rotate_left 1
                · (intro w hSw; (try dsimp only at hSw); go_simp; (try with_reducible rfl))
                try simp only [Act.put, List.setIfInBounds_toArray, List.set_cons_zero, List.set_cons_succ]
                refine wpAnyH_take (i := 17) (oi := ({ dst := some 56, op := Go.Op.move (Go.Operand.tmp 1), type := 25, pos := "ref.go:85", after := #[{ on := 16, ground := Go.Ground.guard }], guard := some (16, true) } : Oper)) (v := ?_) rfl (by kernel_rfl) (by kernel_rfl) (by kernel_rfl) (fun _ _ _ h => h) (Or.inl ⟨by rfl, ?_⟩) (by assumption) ?_
                rotate_left 1
                · (intro w hSw; (try dsimp only at hSw); go_simp; (try with_reducible rfl))
                try simp only [Act.put, List.setIfInBounds_toArray, List.set_cons_zero, List.set_cons_succ]
                refine wpAnyH_take (i := 18) (oi := ({ dst := some 57, op := Go.Op.move (Go.Operand.tmp 10), type := 3, pos := "ref.go:85", after := #[{ on := 16, ground := Go.Ground.guard }], guard := some (16, true) } : Oper)) (v := ?_) rfl (by kernel_rfl) (by kernel_rfl) (by kernel_rfl) (fun _ _ _ h => h) (Or.inl ⟨by rfl, ?_⟩) (by assumption) ?_
                rotate_left 1
                · (intro w hSw; (try dsimp only at hSw); go_simp; (try with_reducible rfl))
                try simp only [Act.put, List.setIfInBounds_toArray, List.set_cons_zero, List.set_cons_succ]
                refine wpAnyH_take (i := 19) (oi := ({ dst := some 58, op := Go.Op.indexAddr 25 (Go.Operand.tmp 56) (Go.Operand.tmp 57), type := 0, pos := "ref.go:85", after := #[{ on := 17, ground := Go.Ground.data }, { on := 18, ground := Go.Ground.data }, { on := 16, ground := Go.Ground.guard }], guard := some (16, true) } : Oper)) (v := ?_) rfl (by kernel_rfl) (by kernel_rfl) (by kernel_rfl) (fun _ _ _ h => h) (Or.inl ⟨by rfl, ?_⟩) (by assumption) ?_
                rotate_left 1
                · (intro w hSw; (try dsimp only at hSw); go_simp; (try with_reducible rfl))
                try simp only [Act.put, List.setIfInBounds_toArray, List.set_cons_zero, List.set_cons_succ]
                refine wpAnyH_take (i := 20) (oi := ({ dst := some 59, op := Go.Op.load 26 (Go.Operand.tmp 58), type := 26, pos := "ref.go:85", after := #[{ on := 19, ground := Go.Ground.data }, { on := 16, ground := Go.Ground.guard }], guard := some (16, true) } : Oper)) (v := ?_) rfl (by kernel_rfl) (by kernel_rfl) (by kernel_rfl) (fun _ _ _ h => h) (Or.inl ⟨by rfl, ?_⟩) (by assumption) ?_
                rotate_left 1
                · (intro w hSw; (try dsimp only at hSw); go_simp; (try with_reducible rfl))
                try simp only [Act.put, List.setIfInBounds_toArray, List.set_cons_zero, List.set_cons_succ]
                refine wpAnyH_take (i := 21) (oi := ({ dst := some 60, op := Go.Op.convert 26 34 (Go.Operand.tmp 59), type := 34, pos := "ref.go:85", after := #[{ on := 20, ground := Go.Ground.data }, { on := 16, ground := Go.Ground.guard }], guard := some (16, true) } : Oper)) (v := ?_) rfl (by kernel_rfl) (by kernel_rfl) (by kernel_rfl) (fun _ _ _ h => h) (Or.inl ⟨by rfl, ?_⟩) (by assumption) ?_
                rotate_left 1
                · (intro w hSw; (try dsimp only at hSw); go_simp; (try with_reducible rfl))
                try simp only [Act.put, List.setIfInBounds_toArray, List.set_cons_zero, List.set_cons_succ]
                refine wpAnyH_take (i := 22) (oi := ({ dst := some 61, op := Go.Op.move (Go.Operand.tmp 9), type := 43, pos := "ref.go:85", after := #[{ on := 16, ground := Go.Ground.guard }], guard := some (16, true) } : Oper)) (v := ?_) rfl (by kernel_rfl) (by kernel_rfl) (by kernel_rfl) (fun _ _ _ h => h) (Or.inl ⟨by rfl, ?_⟩) (by assumption) ?_
                rotate_left 1
                · (intro w hSw; (try dsimp only at hSw); go_simp; (try with_reducible rfl))
                try simp only [Act.put, List.setIfInBounds_toArray, List.set_cons_zero, List.set_cons_succ]
                refine wpAnyH_take (i := 23) (oi := ({ dst := some 62, op := Go.Op.move (Go.Operand.tmp 12), type := 3, pos := "ref.go:85", after := #[{ on := 16, ground := Go.Ground.guard }], guard := some (16, true) } : Oper)) (v := ?_) rfl (by kernel_rfl) (by kernel_rfl) (by kernel_rfl) (fun _ _ _ h => h) (Or.inl ⟨by rfl, ?_⟩) (by assumption) ?_
                rotate_left 1
                · (intro w hSw; (try dsimp only at hSw); go_simp; (try with_reducible rfl))
                try simp only [Act.put, List.setIfInBounds_toArray, List.set_cons_zero, List.set_cons_succ]
                refine wpAnyH_take (i := 24) (oi := ({ dst := some 63, op := Go.Op.indexAddr 43 (Go.Operand.tmp 61) (Go.Operand.tmp 62), type := 0, pos := "ref.go:85", after := #[{ on := 22, ground := Go.Ground.data }, { on := 23, ground := Go.Ground.data }, { on := 16, ground := Go.Ground.guard }], guard := some (16, true) } : Oper)) (v := ?_) rfl (by kernel_rfl) (by kernel_rfl) (by kernel_rfl) (fun _ _ _ h => h) (Or.inl ⟨by rfl, ?_⟩) (by assumption) ?_
                rotate_left 1
                · (intro w hSw; (try dsimp only at hSw); go_simp; (try with_reducible rfl))
                try simp only [Act.put, List.setIfInBounds_toArray, List.set_cons_zero, List.set_cons_succ]
                refine wpAnyH_take (i := 25) (oi := ({ dst := some 64, op := Go.Op.load 34 (Go.Operand.tmp 63), type := 34, pos := "ref.go:85", after := #[{ on := 24, ground := Go.Ground.data }, { on := 16, ground := Go.Ground.guard }], guard := some (16, true) } : Oper)) (v := ?_) rfl (by kernel_rfl) (by kernel_rfl) (by kernel_rfl) (fun _ _ _ h => h) (Or.inl ⟨by rfl, ?_⟩) (by assumption) ?_
                rotate_left 1
                · (intro w hSw; (try dsimp only at hSw); go_simp; (try with_reducible rfl))
                try simp only [Act.put, List.setIfInBounds_toArray, List.set_cons_zero, List.set_cons_succ]
                refine wpAnyH_take (i := 26) (oi := ({ dst := some 65, op := Go.Op.binOp Go.BinOp.lss 34 (Go.Operand.tmp 60) (Go.Operand.tmp 64) 34, type := 4, pos := "ref.go:85", after := #[{ on := 21, ground := Go.Ground.data }, { on := 25, ground := Go.Ground.data }, { on := 16, ground := Go.Ground.guard }], guard := some (16, true) } : Oper)) (v := ?_) rfl (by kernel_rfl) (by kernel_rfl) (by kernel_rfl) (fun _ _ _ h => h) (Or.inl ⟨by rfl, ?_⟩) (by assumption) ?_
                rotate_left 1
                · (intro w hSw; (try dsimp only at hSw); go_simp; (try with_reducible rfl))
                try simp only [Act.put, List.setIfInBounds_toArray, List.set_cons_zero, List.set_cons_succ]
                refine wpAnyH_take (i := 27) (oi := ({ dst := some 66, op := Go.Op.pick (Go.Operand.tmp 55) (Go.Operand.tmp 65) (Go.Operand.const (Go.Value.bool false)), type := 4, pos := "ref.go:85", after := #[{ on := 16, ground := Go.Ground.data }, { on := 26, ground := Go.Ground.data }], guard := none } : Oper)) (v := ?_) rfl (by kernel_rfl) (by kernel_rfl) (by kernel_rfl) (fun _ _ _ h => h) (Or.inl ⟨by rfl, ?_⟩) (by assumption) ?_
                rotate_left 1
                · (intro w hSw; (try dsimp only at hSw); go_simp; (try with_reducible rfl))
                try simp only [Act.put, List.setIfInBounds_toArray, List.set_cons_zero, List.set_cons_succ]
                refine wpAnyH_done (by kernel_rfl) ?_ _
                clear HS8 HRd HGd
                go_wp2
                go_roundw
                case rel => exact ⟨v + 1, cv, by go_num, HRs, HGs⟩
                case measure => simp [intOf]; omega
              · have hb3 : decide ((s : Int) < y) = false := by simpa using h3
                have HR5 := hide (HNo.out (fun h => h3 h.2.2))
                clear h1 h3 HNo HFr
                go_wp2_with (fail)
                refine wp_region_held_drew (S := (S8d lb mb qb pb v i x2 x2 s y)) (by kernel_rfl) ?_ (fun hHeld => ?_)
                · exact HS8.out
                refine wpAnyH_take (i := 0) (oi := ({ dst := some 39, op := Go.Op.move (Go.Operand.tmp 8), type := 43, pos := "ref.go:85", after := #[], guard := none } : Oper)) (v := ?_) rfl (by kernel_rfl) (by kernel_rfl) (by kernel_rfl) (fun _ _ _ h => h) (Or.inl ⟨by rfl, ?_⟩) (by assumption) ?_
                rotate_left 1
                · (intro w hSw; (try dsimp only at hSw); go_simp; (try with_reducible rfl))
                try simp only [Act.put, List.setIfInBounds_toArray, List.set_cons_zero, List.set_cons_succ]
                refine wpAnyH_take (i := 1) (oi := ({ dst := some 40, op := Go.Op.move (Go.Operand.tmp 12), type := 3, pos := "ref.go:85", after := #[], guard := none } : Oper)) (v := ?_) rfl (by kernel_rfl) (by kernel_rfl) (by kernel_rfl) (fun _ _ _ h => h) (Or.inl ⟨by rfl, ?_⟩) (by assumption) ?_
                rotate_left 1
                · (intro w hSw; (try dsimp only at hSw); go_simp; (try with_reducible rfl))
                try simp only [Act.put, List.setIfInBounds_toArray, List.set_cons_zero, List.set_cons_succ]
                refine wpAnyH_take (i := 2) (oi := ({ dst := some 41, op := Go.Op.indexAddr 43 (Go.Operand.tmp 39) (Go.Operand.tmp 40), type := 0, pos := "ref.go:85", after := #[{ on := 0, ground := Go.Ground.data }, { on := 1, ground := Go.Ground.data }], guard := none } : Oper)) (v := ?_) rfl (by kernel_rfl) (by kernel_rfl) (by kernel_rfl) (fun _ _ _ h => h) (Or.inl ⟨by rfl, ?_⟩) (by assumption) ?_
                rotate_left 1
                · (intro w hSw; (try dsimp only at hSw); go_simp; (try with_reducible rfl))
                try simp only [Act.put, List.setIfInBounds_toArray, List.set_cons_zero, List.set_cons_succ]
                refine wpAnyH_take (i := 3) (oi := ({ dst := some 42, op := Go.Op.load 34 (Go.Operand.tmp 41), type := 34, pos := "ref.go:85", after := #[{ on := 2, ground := Go.Ground.data }], guard := none } : Oper)) (v := ?_) rfl (by kernel_rfl) (by kernel_rfl) (by kernel_rfl) (fun _ _ _ h => h) (Or.inl ⟨by rfl, ?_⟩) (by assumption) ?_
                rotate_left 1
                · (intro w hSw; (try dsimp only at hSw); go_simp; (try with_reducible rfl))
                try simp only [Act.put, List.setIfInBounds_toArray, List.set_cons_zero, List.set_cons_succ]
                refine wpAnyH_take (i := 4) (oi := ({ dst := some 43, op := Go.Op.binOp Go.BinOp.neq 34 (Go.Operand.tmp 42) (Go.Operand.const (Go.Value.int Go.IntKind.u64 18446744073709551615)) 34, type := 4, pos := "ref.go:85", after := #[{ on := 3, ground := Go.Ground.data }], guard := none } : Oper)) (v := ?_) rfl (by kernel_rfl) (by kernel_rfl) (by kernel_rfl) (fun _ _ _ h => h) (Or.inl ⟨by rfl, ?_⟩) (by assumption) ?_
                rotate_left 1
                · (intro w hSw; (try dsimp only at hSw); go_simp; (try with_reducible rfl))
                try simp only [Act.put, List.setIfInBounds_toArray, List.set_cons_zero, List.set_cons_succ]
                refine wpAnyH_take (i := 5) (oi := ({ dst := some 44, op := Go.Op.move (Go.Operand.tmp 43), type := 4, pos := "ref.go:85", after := #[{ on := 4, ground := Go.Ground.data }], guard := none } : Oper)) (v := ?_) rfl (by kernel_rfl) (by kernel_rfl) (by kernel_rfl) (fun _ _ _ h => h) (Or.inl ⟨by rfl, ?_⟩) (by assumption) ?_
                rotate_left 1
                · (intro w hSw; (try dsimp only at hSw); go_simp; (try with_reducible rfl))
                try simp only [Act.put, List.setIfInBounds_toArray, List.set_cons_zero, List.set_cons_succ]
                refine wpAnyH_take (i := 6) (oi := ({ dst := some 45, op := Go.Op.move (Go.Operand.tmp 11), type := 43, pos := "ref.go:85", after := #[{ on := 5, ground := Go.Ground.guard }], guard := some (5, true) } : Oper)) (v := ?_) rfl (by kernel_rfl) (by kernel_rfl) (by kernel_rfl) (fun _ _ _ h => h) (Or.inl ⟨by rfl, ?_⟩) (by assumption) ?_
                rotate_left 1
                · (intro w hSw; (try dsimp only at hSw); go_simp; (try with_reducible rfl))
                try simp only [Act.put, List.setIfInBounds_toArray, List.set_cons_zero, List.set_cons_succ]
                refine wpAnyH_take (i := 7) (oi := ({ dst := some 46, op := Go.Op.move (Go.Operand.tmp 12), type := 3, pos := "ref.go:85", after := #[{ on := 5, ground := Go.Ground.guard }], guard := some (5, true) } : Oper)) (v := ?_) rfl (by kernel_rfl) (by kernel_rfl) (by kernel_rfl) (fun _ _ _ h => h) (Or.inl ⟨by rfl, ?_⟩) (by assumption) ?_
                rotate_left 1
                · (intro w hSw; (try dsimp only at hSw); go_simp; (try with_reducible rfl))
                try simp only [Act.put, List.setIfInBounds_toArray, List.set_cons_zero, List.set_cons_succ]
                refine wpAnyH_take (i := 8) (oi := ({ dst := some 47, op := Go.Op.indexAddr 43 (Go.Operand.tmp 45) (Go.Operand.tmp 46), type := 0, pos := "ref.go:85", after := #[{ on := 6, ground := Go.Ground.data }, { on := 7, ground := Go.Ground.data }, { on := 5, ground := Go.Ground.guard }], guard := some (5, true) } : Oper)) (v := ?_) rfl (by kernel_rfl) (by kernel_rfl) (by kernel_rfl) (fun _ _ _ h => h) (Or.inl ⟨by rfl, ?_⟩) (by assumption) ?_
                rotate_left 1
                · (intro w hSw; (try dsimp only at hSw); go_simp; (try with_reducible rfl))
                try simp only [Act.put, List.setIfInBounds_toArray, List.set_cons_zero, List.set_cons_succ]
                refine wpAnyH_take (i := 9) (oi := ({ dst := some 48, op := Go.Op.load 34 (Go.Operand.tmp 47), type := 34, pos := "ref.go:85", after := #[{ on := 8, ground := Go.Ground.data }, { on := 5, ground := Go.Ground.guard }], guard := some (5, true) } : Oper)) (v := ?_) rfl (by kernel_rfl) (by kernel_rfl) (by kernel_rfl) (fun _ _ _ h => h) (Or.inl ⟨by rfl, ?_⟩) (by assumption) ?_
                rotate_left 1
                · (intro w hSw; (try dsimp only at hSw); go_simp; (try with_reducible rfl))
                try simp only [Act.put, List.setIfInBounds_toArray, List.set_cons_zero, List.set_cons_succ]
                refine wpAnyH_take (i := 10) (oi := ({ dst := some 49, op := Go.Op.move (Go.Operand.tmp 8), type := 43, pos := "ref.go:85", after := #[{ on := 5, ground := Go.Ground.guard }], guard := some (5, true) } : Oper)) (v := ?_) rfl (by kernel_rfl) (by kernel_rfl) (by kernel_rfl) (fun _ _ _ h => h) (Or.inl ⟨by rfl, ?_⟩) (by assumption) ?_
                rotate_left 1
                · (intro w hSw; (try dsimp only at hSw); go_simp; (try with_reducible rfl))
                try simp only [Act.put, List.setIfInBounds_toArray, List.set_cons_zero, List.set_cons_succ]
                refine wpAnyH_take (i := 11) (oi := ({ dst := some 50, op := Go.Op.move (Go.Operand.tmp 12), type := 3, pos := "ref.go:85", after := #[{ on := 5, ground := Go.Ground.guard }], guard := some (5, true) } : Oper)) (v := ?_) rfl (by kernel_rfl) (by kernel_rfl) (by kernel_rfl) (fun _ _ _ h => h) (Or.inl ⟨by rfl, ?_⟩) (by assumption) ?_
                rotate_left 1
                · (intro w hSw; (try dsimp only at hSw); go_simp; (try with_reducible rfl))
                try simp only [Act.put, List.setIfInBounds_toArray, List.set_cons_zero, List.set_cons_succ]
                refine wpAnyH_take (i := 12) (oi := ({ dst := some 51, op := Go.Op.indexAddr 43 (Go.Operand.tmp 49) (Go.Operand.tmp 50), type := 0, pos := "ref.go:85", after := #[{ on := 10, ground := Go.Ground.data }, { on := 11, ground := Go.Ground.data }, { on := 5, ground := Go.Ground.guard }], guard := some (5, true) } : Oper)) (v := ?_) rfl (by kernel_rfl) (by kernel_rfl) (by kernel_rfl) (fun _ _ _ h => h) (Or.inl ⟨by rfl, ?_⟩) (by assumption) ?_
                rotate_left 1
                · (intro w hSw; (try dsimp only at hSw); go_simp; (try with_reducible rfl))
                try simp only [Act.put, List.setIfInBounds_toArray, List.set_cons_zero, List.set_cons_succ]
                refine wpAnyH_take (i := 13) (oi := ({ dst := some 52, op := Go.Op.load 34 (Go.Operand.tmp 51), type := 34, pos := "ref.go:85", after := #[{ on := 12, ground := Go.Ground.data }, { on := 5, ground := Go.Ground.guard }], guard := some (5, true) } : Oper)) (v := ?_) rfl (by kernel_rfl) (by kernel_rfl) (by kernel_rfl) (fun _ _ _ h => h) (Or.inl ⟨by rfl, ?_⟩) (by assumption) ?_
                rotate_left 1
                · (intro w hSw; (try dsimp only at hSw); go_simp; (try with_reducible rfl))
                try simp only [Act.put, List.setIfInBounds_toArray, List.set_cons_zero, List.set_cons_succ]
                refine wpAnyH_take (i := 14) (oi := ({ dst := some 53, op := Go.Op.binOp Go.BinOp.eql 34 (Go.Operand.tmp 48) (Go.Operand.tmp 52) 34, type := 4, pos := "ref.go:85", after := #[{ on := 9, ground := Go.Ground.data }, { on := 13, ground := Go.Ground.data }, { on := 5, ground := Go.Ground.guard }], guard := some (5, true) } : Oper)) (v := ?_) rfl (by kernel_rfl) (by kernel_rfl) (by kernel_rfl) (fun _ _ _ h => h) (Or.inl ⟨by rfl, ?_⟩) (by assumption) ?_
                rotate_left 1
                · (intro w hSw; (try dsimp only at hSw); go_simp; (try with_reducible rfl))
                try simp only [Act.put, List.setIfInBounds_toArray, List.set_cons_zero, List.set_cons_succ]
                refine wpAnyH_take (i := 15) (oi := ({ dst := some 54, op := Go.Op.pick (Go.Operand.tmp 44) (Go.Operand.tmp 53) (Go.Operand.const (Go.Value.bool false)), type := 4, pos := "ref.go:85", after := #[{ on := 5, ground := Go.Ground.data }, { on := 14, ground := Go.Ground.data }], guard := none } : Oper)) (v := ?_) rfl (by kernel_rfl) (by kernel_rfl) (by kernel_rfl) (fun _ _ _ h => h) (Or.inl ⟨by rfl, ?_⟩) (by assumption) ?_
                rotate_left 1
                · (intro w hSw; (try dsimp only at hSw); go_simp; (try with_reducible rfl))
                try simp only [Act.put, List.setIfInBounds_toArray, List.set_cons_zero, List.set_cons_succ]
                refine wpAnyH_take (i := 16) (oi := ({ dst := some 55, op := Go.Op.move (Go.Operand.tmp 54), type := 4, pos := "ref.go:85", after := #[{ on := 15, ground := Go.Ground.data }, { on := 5, ground := Go.Ground.chain }], guard := none } : Oper)) (v := ?_) rfl (by kernel_rfl) (by kernel_rfl) (by kernel_rfl) (fun _ _ _ h => h) (Or.inl ⟨by rfl, ?_⟩) (by assumption) ?_
                rotate_left 1
                · (intro w hSw; (try dsimp only at hSw); go_simp; (try with_reducible rfl))
                try simp only [Act.put, List.setIfInBounds_toArray, List.set_cons_zero, List.set_cons_succ]
                refine wpAnyH_take (i := 17) (oi := ({ dst := some 56, op := Go.Op.move (Go.Operand.tmp 1), type := 25, pos := "ref.go:85", after := #[{ on := 16, ground := Go.Ground.guard }], guard := some (16, true) } : Oper)) (v := ?_) rfl (by kernel_rfl) (by kernel_rfl) (by kernel_rfl) (fun _ _ _ h => h) (Or.inl ⟨by rfl, ?_⟩) (by assumption) ?_
                rotate_left 1
                · (intro w hSw; (try dsimp only at hSw); go_simp; (try with_reducible rfl))
                try simp only [Act.put, List.setIfInBounds_toArray, List.set_cons_zero, List.set_cons_succ]
                refine wpAnyH_take (i := 18) (oi := ({ dst := some 57, op := Go.Op.move (Go.Operand.tmp 10), type := 3, pos := "ref.go:85", after := #[{ on := 16, ground := Go.Ground.guard }], guard := some (16, true) } : Oper)) (v := ?_) rfl (by kernel_rfl) (by kernel_rfl) (by kernel_rfl) (fun _ _ _ h => h) (Or.inl ⟨by rfl, ?_⟩) (by assumption) ?_
                rotate_left 1
                · (intro w hSw; (try dsimp only at hSw); go_simp; (try with_reducible rfl))
                try simp only [Act.put, List.setIfInBounds_toArray, List.set_cons_zero, List.set_cons_succ]
                refine wpAnyH_take (i := 19) (oi := ({ dst := some 58, op := Go.Op.indexAddr 25 (Go.Operand.tmp 56) (Go.Operand.tmp 57), type := 0, pos := "ref.go:85", after := #[{ on := 17, ground := Go.Ground.data }, { on := 18, ground := Go.Ground.data }, { on := 16, ground := Go.Ground.guard }], guard := some (16, true) } : Oper)) (v := ?_) rfl (by kernel_rfl) (by kernel_rfl) (by kernel_rfl) (fun _ _ _ h => h) (Or.inl ⟨by rfl, ?_⟩) (by assumption) ?_
                rotate_left 1
                · (intro w hSw; (try dsimp only at hSw); go_simp; (try with_reducible rfl))
                try simp only [Act.put, List.setIfInBounds_toArray, List.set_cons_zero, List.set_cons_succ]
                refine wpAnyH_take (i := 20) (oi := ({ dst := some 59, op := Go.Op.load 26 (Go.Operand.tmp 58), type := 26, pos := "ref.go:85", after := #[{ on := 19, ground := Go.Ground.data }, { on := 16, ground := Go.Ground.guard }], guard := some (16, true) } : Oper)) (v := ?_) rfl (by kernel_rfl) (by kernel_rfl) (by kernel_rfl) (fun _ _ _ h => h) (Or.inl ⟨by rfl, ?_⟩) (by assumption) ?_
                rotate_left 1
                · (intro w hSw; (try dsimp only at hSw); go_simp; (try with_reducible rfl))
                try simp only [Act.put, List.setIfInBounds_toArray, List.set_cons_zero, List.set_cons_succ]
                refine wpAnyH_take (i := 21) (oi := ({ dst := some 60, op := Go.Op.convert 26 34 (Go.Operand.tmp 59), type := 34, pos := "ref.go:85", after := #[{ on := 20, ground := Go.Ground.data }, { on := 16, ground := Go.Ground.guard }], guard := some (16, true) } : Oper)) (v := ?_) rfl (by kernel_rfl) (by kernel_rfl) (by kernel_rfl) (fun _ _ _ h => h) (Or.inl ⟨by rfl, ?_⟩) (by assumption) ?_
                rotate_left 1
                · (intro w hSw; (try dsimp only at hSw); go_simp; (try with_reducible rfl))
                try simp only [Act.put, List.setIfInBounds_toArray, List.set_cons_zero, List.set_cons_succ]
                refine wpAnyH_take (i := 22) (oi := ({ dst := some 61, op := Go.Op.move (Go.Operand.tmp 9), type := 43, pos := "ref.go:85", after := #[{ on := 16, ground := Go.Ground.guard }], guard := some (16, true) } : Oper)) (v := ?_) rfl (by kernel_rfl) (by kernel_rfl) (by kernel_rfl) (fun _ _ _ h => h) (Or.inl ⟨by rfl, ?_⟩) (by assumption) ?_
                rotate_left 1
                · (intro w hSw; (try dsimp only at hSw); go_simp; (try with_reducible rfl))
                try simp only [Act.put, List.setIfInBounds_toArray, List.set_cons_zero, List.set_cons_succ]
                refine wpAnyH_take (i := 23) (oi := ({ dst := some 62, op := Go.Op.move (Go.Operand.tmp 12), type := 3, pos := "ref.go:85", after := #[{ on := 16, ground := Go.Ground.guard }], guard := some (16, true) } : Oper)) (v := ?_) rfl (by kernel_rfl) (by kernel_rfl) (by kernel_rfl) (fun _ _ _ h => h) (Or.inl ⟨by rfl, ?_⟩) (by assumption) ?_
                rotate_left 1
                · (intro w hSw; (try dsimp only at hSw); go_simp; (try with_reducible rfl))
                try simp only [Act.put, List.setIfInBounds_toArray, List.set_cons_zero, List.set_cons_succ]
                refine wpAnyH_take (i := 24) (oi := ({ dst := some 63, op := Go.Op.indexAddr 43 (Go.Operand.tmp 61) (Go.Operand.tmp 62), type := 0, pos := "ref.go:85", after := #[{ on := 22, ground := Go.Ground.data }, { on := 23, ground := Go.Ground.data }, { on := 16, ground := Go.Ground.guard }], guard := some (16, true) } : Oper)) (v := ?_) rfl (by kernel_rfl) (by kernel_rfl) (by kernel_rfl) (fun _ _ _ h => h) (Or.inl ⟨by rfl, ?_⟩) (by assumption) ?_
                rotate_left 1
                · (intro w hSw; (try dsimp only at hSw); go_simp; (try with_reducible rfl))
                try simp only [Act.put, List.setIfInBounds_toArray, List.set_cons_zero, List.set_cons_succ]
                refine wpAnyH_take (i := 25) (oi := ({ dst := some 64, op := Go.Op.load 34 (Go.Operand.tmp 63), type := 34, pos := "ref.go:85", after := #[{ on := 24, ground := Go.Ground.data }, { on := 16, ground := Go.Ground.guard }], guard := some (16, true) } : Oper)) (v := ?_) rfl (by kernel_rfl) (by kernel_rfl) (by kernel_rfl) (fun _ _ _ h => h) (Or.inl ⟨by rfl, ?_⟩) (by assumption) ?_
                rotate_left 1
                · (intro w hSw; (try dsimp only at hSw); go_simp; (try with_reducible rfl))
                try simp only [Act.put, List.setIfInBounds_toArray, List.set_cons_zero, List.set_cons_succ]
                refine wpAnyH_take (i := 26) (oi := ({ dst := some 65, op := Go.Op.binOp Go.BinOp.lss 34 (Go.Operand.tmp 60) (Go.Operand.tmp 64) 34, type := 4, pos := "ref.go:85", after := #[{ on := 21, ground := Go.Ground.data }, { on := 25, ground := Go.Ground.data }, { on := 16, ground := Go.Ground.guard }], guard := some (16, true) } : Oper)) (v := ?_) rfl (by kernel_rfl) (by kernel_rfl) (by kernel_rfl) (fun _ _ _ h => h) (Or.inl ⟨by rfl, ?_⟩) (by assumption) ?_
                rotate_left 1
                · (intro w hSw; (try dsimp only at hSw); go_simp; (try with_reducible rfl))
                try simp only [Act.put, List.setIfInBounds_toArray, List.set_cons_zero, List.set_cons_succ]
                refine wpAnyH_take (i := 27) (oi := ({ dst := some 66, op := Go.Op.pick (Go.Operand.tmp 55) (Go.Operand.tmp 65) (Go.Operand.const (Go.Value.bool false)), type := 4, pos := "ref.go:85", after := #[{ on := 16, ground := Go.Ground.data }, { on := 26, ground := Go.Ground.data }], guard := none } : Oper)) (v := ?_) rfl (by kernel_rfl) (by kernel_rfl) (by kernel_rfl) (fun _ _ _ h => h) (Or.inl ⟨by rfl, ?_⟩) (by assumption) ?_
                rotate_left 1
                · (intro w hSw; (try dsimp only at hSw); go_simp; (try with_reducible rfl))
                try simp only [Act.put, List.setIfInBounds_toArray, List.set_cons_zero, List.set_cons_succ]
                refine wpAnyH_done (by kernel_rfl) ?_ _
                clear HS8 HRd
                go_wp2
                go_roundw
                case rel => exact ⟨v + 1, cv, by go_num, HR5, HGd⟩
                case measure => simp [intOf]; omega
            · have hb2 : (x2 == x1) = false := by simpa using h2
              have HR5 := hide (HNo.out (fun h => h2 h.2.1))
              clear h1 h2 HNo HFr
              go_wp2_with (fail)
              refine wp_region_held_drew (S := (S8d lb mb qb pb v i x1 x2 s y)) (by kernel_rfl) ?_ (fun hHeld => ?_)
              · exact HS8.out
              refine wpAnyH_take (i := 0) (oi := ({ dst := some 39, op := Go.Op.move (Go.Operand.tmp 8), type := 43, pos := "ref.go:85", after := #[], guard := none } : Oper)) (v := ?_) rfl (by kernel_rfl) (by kernel_rfl) (by kernel_rfl) (fun _ _ _ h => h) (Or.inl ⟨by rfl, ?_⟩) (by assumption) ?_
              rotate_left 1
              · (intro w hSw; (try dsimp only at hSw); go_simp; (try with_reducible rfl))
              try simp only [Act.put, List.setIfInBounds_toArray, List.set_cons_zero, List.set_cons_succ]
              refine wpAnyH_take (i := 1) (oi := ({ dst := some 40, op := Go.Op.move (Go.Operand.tmp 12), type := 3, pos := "ref.go:85", after := #[], guard := none } : Oper)) (v := ?_) rfl (by kernel_rfl) (by kernel_rfl) (by kernel_rfl) (fun _ _ _ h => h) (Or.inl ⟨by rfl, ?_⟩) (by assumption) ?_
              rotate_left 1
              · (intro w hSw; (try dsimp only at hSw); go_simp; (try with_reducible rfl))
              try simp only [Act.put, List.setIfInBounds_toArray, List.set_cons_zero, List.set_cons_succ]
              refine wpAnyH_take (i := 2) (oi := ({ dst := some 41, op := Go.Op.indexAddr 43 (Go.Operand.tmp 39) (Go.Operand.tmp 40), type := 0, pos := "ref.go:85", after := #[{ on := 0, ground := Go.Ground.data }, { on := 1, ground := Go.Ground.data }], guard := none } : Oper)) (v := ?_) rfl (by kernel_rfl) (by kernel_rfl) (by kernel_rfl) (fun _ _ _ h => h) (Or.inl ⟨by rfl, ?_⟩) (by assumption) ?_
              rotate_left 1
              · (intro w hSw; (try dsimp only at hSw); go_simp; (try with_reducible rfl))
              try simp only [Act.put, List.setIfInBounds_toArray, List.set_cons_zero, List.set_cons_succ]
              refine wpAnyH_take (i := 3) (oi := ({ dst := some 42, op := Go.Op.load 34 (Go.Operand.tmp 41), type := 34, pos := "ref.go:85", after := #[{ on := 2, ground := Go.Ground.data }], guard := none } : Oper)) (v := ?_) rfl (by kernel_rfl) (by kernel_rfl) (by kernel_rfl) (fun _ _ _ h => h) (Or.inl ⟨by rfl, ?_⟩) (by assumption) ?_
              rotate_left 1
              · (intro w hSw; (try dsimp only at hSw); go_simp; (try with_reducible rfl))
              try simp only [Act.put, List.setIfInBounds_toArray, List.set_cons_zero, List.set_cons_succ]
              refine wpAnyH_take (i := 4) (oi := ({ dst := some 43, op := Go.Op.binOp Go.BinOp.neq 34 (Go.Operand.tmp 42) (Go.Operand.const (Go.Value.int Go.IntKind.u64 18446744073709551615)) 34, type := 4, pos := "ref.go:85", after := #[{ on := 3, ground := Go.Ground.data }], guard := none } : Oper)) (v := ?_) rfl (by kernel_rfl) (by kernel_rfl) (by kernel_rfl) (fun _ _ _ h => h) (Or.inl ⟨by rfl, ?_⟩) (by assumption) ?_
              rotate_left 1
              · (intro w hSw; (try dsimp only at hSw); go_simp; (try with_reducible rfl))
              try simp only [Act.put, List.setIfInBounds_toArray, List.set_cons_zero, List.set_cons_succ]
              refine wpAnyH_take (i := 5) (oi := ({ dst := some 44, op := Go.Op.move (Go.Operand.tmp 43), type := 4, pos := "ref.go:85", after := #[{ on := 4, ground := Go.Ground.data }], guard := none } : Oper)) (v := ?_) rfl (by kernel_rfl) (by kernel_rfl) (by kernel_rfl) (fun _ _ _ h => h) (Or.inl ⟨by rfl, ?_⟩) (by assumption) ?_
              rotate_left 1
              · (intro w hSw; (try dsimp only at hSw); go_simp; (try with_reducible rfl))
              try simp only [Act.put, List.setIfInBounds_toArray, List.set_cons_zero, List.set_cons_succ]
              refine wpAnyH_take (i := 6) (oi := ({ dst := some 45, op := Go.Op.move (Go.Operand.tmp 11), type := 43, pos := "ref.go:85", after := #[{ on := 5, ground := Go.Ground.guard }], guard := some (5, true) } : Oper)) (v := ?_) rfl (by kernel_rfl) (by kernel_rfl) (by kernel_rfl) (fun _ _ _ h => h) (Or.inl ⟨by rfl, ?_⟩) (by assumption) ?_
              rotate_left 1
              · (intro w hSw; (try dsimp only at hSw); go_simp; (try with_reducible rfl))
              try simp only [Act.put, List.setIfInBounds_toArray, List.set_cons_zero, List.set_cons_succ]
              refine wpAnyH_take (i := 7) (oi := ({ dst := some 46, op := Go.Op.move (Go.Operand.tmp 12), type := 3, pos := "ref.go:85", after := #[{ on := 5, ground := Go.Ground.guard }], guard := some (5, true) } : Oper)) (v := ?_) rfl (by kernel_rfl) (by kernel_rfl) (by kernel_rfl) (fun _ _ _ h => h) (Or.inl ⟨by rfl, ?_⟩) (by assumption) ?_
              rotate_left 1
              · (intro w hSw; (try dsimp only at hSw); go_simp; (try with_reducible rfl))
              try simp only [Act.put, List.setIfInBounds_toArray, List.set_cons_zero, List.set_cons_succ]
              refine wpAnyH_take (i := 8) (oi := ({ dst := some 47, op := Go.Op.indexAddr 43 (Go.Operand.tmp 45) (Go.Operand.tmp 46), type := 0, pos := "ref.go:85", after := #[{ on := 6, ground := Go.Ground.data }, { on := 7, ground := Go.Ground.data }, { on := 5, ground := Go.Ground.guard }], guard := some (5, true) } : Oper)) (v := ?_) rfl (by kernel_rfl) (by kernel_rfl) (by kernel_rfl) (fun _ _ _ h => h) (Or.inl ⟨by rfl, ?_⟩) (by assumption) ?_
              rotate_left 1
              · (intro w hSw; (try dsimp only at hSw); go_simp; (try with_reducible rfl))
              try simp only [Act.put, List.setIfInBounds_toArray, List.set_cons_zero, List.set_cons_succ]
              refine wpAnyH_take (i := 9) (oi := ({ dst := some 48, op := Go.Op.load 34 (Go.Operand.tmp 47), type := 34, pos := "ref.go:85", after := #[{ on := 8, ground := Go.Ground.data }, { on := 5, ground := Go.Ground.guard }], guard := some (5, true) } : Oper)) (v := ?_) rfl (by kernel_rfl) (by kernel_rfl) (by kernel_rfl) (fun _ _ _ h => h) (Or.inl ⟨by rfl, ?_⟩) (by assumption) ?_
              rotate_left 1
              · (intro w hSw; (try dsimp only at hSw); go_simp; (try with_reducible rfl))
              try simp only [Act.put, List.setIfInBounds_toArray, List.set_cons_zero, List.set_cons_succ]
              refine wpAnyH_take (i := 10) (oi := ({ dst := some 49, op := Go.Op.move (Go.Operand.tmp 8), type := 43, pos := "ref.go:85", after := #[{ on := 5, ground := Go.Ground.guard }], guard := some (5, true) } : Oper)) (v := ?_) rfl (by kernel_rfl) (by kernel_rfl) (by kernel_rfl) (fun _ _ _ h => h) (Or.inl ⟨by rfl, ?_⟩) (by assumption) ?_
              rotate_left 1
              · (intro w hSw; (try dsimp only at hSw); go_simp; (try with_reducible rfl))
              try simp only [Act.put, List.setIfInBounds_toArray, List.set_cons_zero, List.set_cons_succ]
              refine wpAnyH_take (i := 11) (oi := ({ dst := some 50, op := Go.Op.move (Go.Operand.tmp 12), type := 3, pos := "ref.go:85", after := #[{ on := 5, ground := Go.Ground.guard }], guard := some (5, true) } : Oper)) (v := ?_) rfl (by kernel_rfl) (by kernel_rfl) (by kernel_rfl) (fun _ _ _ h => h) (Or.inl ⟨by rfl, ?_⟩) (by assumption) ?_
              rotate_left 1
              · (intro w hSw; (try dsimp only at hSw); go_simp; (try with_reducible rfl))
              try simp only [Act.put, List.setIfInBounds_toArray, List.set_cons_zero, List.set_cons_succ]
              refine wpAnyH_take (i := 12) (oi := ({ dst := some 51, op := Go.Op.indexAddr 43 (Go.Operand.tmp 49) (Go.Operand.tmp 50), type := 0, pos := "ref.go:85", after := #[{ on := 10, ground := Go.Ground.data }, { on := 11, ground := Go.Ground.data }, { on := 5, ground := Go.Ground.guard }], guard := some (5, true) } : Oper)) (v := ?_) rfl (by kernel_rfl) (by kernel_rfl) (by kernel_rfl) (fun _ _ _ h => h) (Or.inl ⟨by rfl, ?_⟩) (by assumption) ?_
              rotate_left 1
              · (intro w hSw; (try dsimp only at hSw); go_simp; (try with_reducible rfl))
              try simp only [Act.put, List.setIfInBounds_toArray, List.set_cons_zero, List.set_cons_succ]
              refine wpAnyH_take (i := 13) (oi := ({ dst := some 52, op := Go.Op.load 34 (Go.Operand.tmp 51), type := 34, pos := "ref.go:85", after := #[{ on := 12, ground := Go.Ground.data }, { on := 5, ground := Go.Ground.guard }], guard := some (5, true) } : Oper)) (v := ?_) rfl (by kernel_rfl) (by kernel_rfl) (by kernel_rfl) (fun _ _ _ h => h) (Or.inl ⟨by rfl, ?_⟩) (by assumption) ?_
              rotate_left 1
              · (intro w hSw; (try dsimp only at hSw); go_simp; (try with_reducible rfl))
              try simp only [Act.put, List.setIfInBounds_toArray, List.set_cons_zero, List.set_cons_succ]
              refine wpAnyH_take (i := 14) (oi := ({ dst := some 53, op := Go.Op.binOp Go.BinOp.eql 34 (Go.Operand.tmp 48) (Go.Operand.tmp 52) 34, type := 4, pos := "ref.go:85", after := #[{ on := 9, ground := Go.Ground.data }, { on := 13, ground := Go.Ground.data }, { on := 5, ground := Go.Ground.guard }], guard := some (5, true) } : Oper)) (v := ?_) rfl (by kernel_rfl) (by kernel_rfl) (by kernel_rfl) (fun _ _ _ h => h) (Or.inl ⟨by rfl, ?_⟩) (by assumption) ?_
              rotate_left 1
              · (intro w hSw; (try dsimp only at hSw); go_simp; (try with_reducible rfl))
              try simp only [Act.put, List.setIfInBounds_toArray, List.set_cons_zero, List.set_cons_succ]
              refine wpAnyH_take (i := 15) (oi := ({ dst := some 54, op := Go.Op.pick (Go.Operand.tmp 44) (Go.Operand.tmp 53) (Go.Operand.const (Go.Value.bool false)), type := 4, pos := "ref.go:85", after := #[{ on := 5, ground := Go.Ground.data }, { on := 14, ground := Go.Ground.data }], guard := none } : Oper)) (v := ?_) rfl (by kernel_rfl) (by kernel_rfl) (by kernel_rfl) (fun _ _ _ h => h) (Or.inl ⟨by rfl, ?_⟩) (by assumption) ?_
              rotate_left 1
              · (intro w hSw; (try dsimp only at hSw); go_simp; (try with_reducible rfl))
              try simp only [Act.put, List.setIfInBounds_toArray, List.set_cons_zero, List.set_cons_succ]
              refine wpAnyH_take (i := 16) (oi := ({ dst := some 55, op := Go.Op.move (Go.Operand.tmp 54), type := 4, pos := "ref.go:85", after := #[{ on := 15, ground := Go.Ground.data }, { on := 5, ground := Go.Ground.chain }], guard := none } : Oper)) (v := ?_) rfl (by kernel_rfl) (by kernel_rfl) (by kernel_rfl) (fun _ _ _ h => h) (Or.inl ⟨by rfl, ?_⟩) (by assumption) ?_
              rotate_left 1
              · (intro w hSw; (try dsimp only at hSw); go_simp; (try with_reducible rfl))
              try simp only [Act.put, List.setIfInBounds_toArray, List.set_cons_zero, List.set_cons_succ]
              refine wpAnyH_take (i := 17) (oi := ({ dst := some 56, op := Go.Op.move (Go.Operand.tmp 1), type := 25, pos := "ref.go:85", after := #[{ on := 16, ground := Go.Ground.guard }], guard := some (16, true) } : Oper)) (v := undef) rfl (by kernel_rfl) (by kernel_rfl) (by kernel_rfl) (fun _ _ _ h => h) (Or.inr ⟨by rfl, rfl⟩) (by assumption) ?_
              try simp only [Act.put, List.setIfInBounds_toArray, List.set_cons_zero, List.set_cons_succ]
              refine wpAnyH_take (i := 18) (oi := ({ dst := some 57, op := Go.Op.move (Go.Operand.tmp 10), type := 3, pos := "ref.go:85", after := #[{ on := 16, ground := Go.Ground.guard }], guard := some (16, true) } : Oper)) (v := undef) rfl (by kernel_rfl) (by kernel_rfl) (by kernel_rfl) (fun _ _ _ h => h) (Or.inr ⟨by rfl, rfl⟩) (by assumption) ?_
              try simp only [Act.put, List.setIfInBounds_toArray, List.set_cons_zero, List.set_cons_succ]
              refine wpAnyH_take (i := 19) (oi := ({ dst := some 58, op := Go.Op.indexAddr 25 (Go.Operand.tmp 56) (Go.Operand.tmp 57), type := 0, pos := "ref.go:85", after := #[{ on := 17, ground := Go.Ground.data }, { on := 18, ground := Go.Ground.data }, { on := 16, ground := Go.Ground.guard }], guard := some (16, true) } : Oper)) (v := undef) rfl (by kernel_rfl) (by kernel_rfl) (by kernel_rfl) (fun _ _ _ h => h) (Or.inr ⟨by rfl, rfl⟩) (by assumption) ?_
              try simp only [Act.put, List.setIfInBounds_toArray, List.set_cons_zero, List.set_cons_succ]
              refine wpAnyH_take (i := 20) (oi := ({ dst := some 59, op := Go.Op.load 26 (Go.Operand.tmp 58), type := 26, pos := "ref.go:85", after := #[{ on := 19, ground := Go.Ground.data }, { on := 16, ground := Go.Ground.guard }], guard := some (16, true) } : Oper)) (v := undef) rfl (by kernel_rfl) (by kernel_rfl) (by kernel_rfl) (fun _ _ _ h => h) (Or.inr ⟨by rfl, rfl⟩) (by assumption) ?_
              try simp only [Act.put, List.setIfInBounds_toArray, List.set_cons_zero, List.set_cons_succ]
              refine wpAnyH_take (i := 21) (oi := ({ dst := some 60, op := Go.Op.convert 26 34 (Go.Operand.tmp 59), type := 34, pos := "ref.go:85", after := #[{ on := 20, ground := Go.Ground.data }, { on := 16, ground := Go.Ground.guard }], guard := some (16, true) } : Oper)) (v := undef) rfl (by kernel_rfl) (by kernel_rfl) (by kernel_rfl) (fun _ _ _ h => h) (Or.inr ⟨by rfl, rfl⟩) (by assumption) ?_
              try simp only [Act.put, List.setIfInBounds_toArray, List.set_cons_zero, List.set_cons_succ]
              refine wpAnyH_take (i := 22) (oi := ({ dst := some 61, op := Go.Op.move (Go.Operand.tmp 9), type := 43, pos := "ref.go:85", after := #[{ on := 16, ground := Go.Ground.guard }], guard := some (16, true) } : Oper)) (v := undef) rfl (by kernel_rfl) (by kernel_rfl) (by kernel_rfl) (fun _ _ _ h => h) (Or.inr ⟨by rfl, rfl⟩) (by assumption) ?_
              try simp only [Act.put, List.setIfInBounds_toArray, List.set_cons_zero, List.set_cons_succ]
              refine wpAnyH_take (i := 23) (oi := ({ dst := some 62, op := Go.Op.move (Go.Operand.tmp 12), type := 3, pos := "ref.go:85", after := #[{ on := 16, ground := Go.Ground.guard }], guard := some (16, true) } : Oper)) (v := undef) rfl (by kernel_rfl) (by kernel_rfl) (by kernel_rfl) (fun _ _ _ h => h) (Or.inr ⟨by rfl, rfl⟩) (by assumption) ?_
              try simp only [Act.put, List.setIfInBounds_toArray, List.set_cons_zero, List.set_cons_succ]
              refine wpAnyH_take (i := 24) (oi := ({ dst := some 63, op := Go.Op.indexAddr 43 (Go.Operand.tmp 61) (Go.Operand.tmp 62), type := 0, pos := "ref.go:85", after := #[{ on := 22, ground := Go.Ground.data }, { on := 23, ground := Go.Ground.data }, { on := 16, ground := Go.Ground.guard }], guard := some (16, true) } : Oper)) (v := undef) rfl (by kernel_rfl) (by kernel_rfl) (by kernel_rfl) (fun _ _ _ h => h) (Or.inr ⟨by rfl, rfl⟩) (by assumption) ?_
              try simp only [Act.put, List.setIfInBounds_toArray, List.set_cons_zero, List.set_cons_succ]
              refine wpAnyH_take (i := 25) (oi := ({ dst := some 64, op := Go.Op.load 34 (Go.Operand.tmp 63), type := 34, pos := "ref.go:85", after := #[{ on := 24, ground := Go.Ground.data }, { on := 16, ground := Go.Ground.guard }], guard := some (16, true) } : Oper)) (v := undef) rfl (by kernel_rfl) (by kernel_rfl) (by kernel_rfl) (fun _ _ _ h => h) (Or.inr ⟨by rfl, rfl⟩) (by assumption) ?_
              try simp only [Act.put, List.setIfInBounds_toArray, List.set_cons_zero, List.set_cons_succ]
              refine wpAnyH_take (i := 26) (oi := ({ dst := some 65, op := Go.Op.binOp Go.BinOp.lss 34 (Go.Operand.tmp 60) (Go.Operand.tmp 64) 34, type := 4, pos := "ref.go:85", after := #[{ on := 21, ground := Go.Ground.data }, { on := 25, ground := Go.Ground.data }, { on := 16, ground := Go.Ground.guard }], guard := some (16, true) } : Oper)) (v := undef) rfl (by kernel_rfl) (by kernel_rfl) (by kernel_rfl) (fun _ _ _ h => h) (Or.inr ⟨by rfl, rfl⟩) (by assumption) ?_
              try simp only [Act.put, List.setIfInBounds_toArray, List.set_cons_zero, List.set_cons_succ]
              refine wpAnyH_take (i := 27) (oi := ({ dst := some 66, op := Go.Op.pick (Go.Operand.tmp 55) (Go.Operand.tmp 65) (Go.Operand.const (Go.Value.bool false)), type := 4, pos := "ref.go:85", after := #[{ on := 16, ground := Go.Ground.data }, { on := 26, ground := Go.Ground.data }], guard := none } : Oper)) (v := ?_) rfl (by kernel_rfl) (by kernel_rfl) (by kernel_rfl) (fun _ _ _ h => h) (Or.inl ⟨by rfl, ?_⟩) (by assumption) ?_
              rotate_left 1
              · (intro w hSw; (try dsimp only at hSw); go_simp; (try with_reducible rfl))
              try simp only [Act.put, List.setIfInBounds_toArray, List.set_cons_zero, List.set_cons_succ]
              refine wpAnyH_done (by kernel_rfl) ?_ _
              clear HS8 HRd
              go_wp2
              go_roundw
              case rel => exact ⟨v + 1, cv, by go_num, HR5, HGd⟩
              case measure => simp [intOf]; omega
        · have hvn : n = v := by omega
          subst hvn
          have HR5 : Hid (Rw w wr lb pb qb n L (frs L M (fun _ => 18446744073709551615) (Q.take (i + 1))) Q) := by
            show Rw _ _ _ _ _ _ _ _ _
            rw [HTa.out]
            exact HR.out.ext (fun t ht => if_pos ht)
          clear HR HG cv hv HTa
          go_wp2
          go_roundw
          case rel => exact ⟨i + 1, ci, by go_num, HR5⟩
          case measure => simp [intOf]; omega
    · have hin : i = Q.length := by omega
      subst hin
      rw [List.take_length] at HR
      have HEn : Hid (GU wr lb n L ∧ GU wr pb n (frs L M (fun _ => 18446744073709551615) Q) ∧ Below w.heap.size w wr) := ⟨HR.out.l, HR.out.p, HR.out.b⟩
      clear HR ci hi
      go_wp2
      all_goals go_ret2
      all_goals exact ⟨lb, pb, rfl, HEn.out⟩
end Wp
end Go.Proofs.Ytlhpnhjfibkgpab
