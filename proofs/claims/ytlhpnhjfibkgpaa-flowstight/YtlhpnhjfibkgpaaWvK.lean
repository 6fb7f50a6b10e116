import Derived.Test.YtlhpnhjfibkgpaaWvJ
namespace Go.Proofs.Ytlhpnhjfibkgpaa
namespace Wp
open Go.RowKit
set_option linter.unusedVariables false
set_option maxRecDepth 8000
theorem dd_b (m s : Nat) (k : Int) {n : Nat} {E : Nat → Int × Int × Int} (hn : n ≤ 1000) (hI : EIn n m E) (r : Nat) (hr : r ≤ n) (v : Nat) : Dd m s k E r v = 9223372036854775807 ∨ (-2147483648000 ≤ Dd m s k E r v ∧ Dd m s k E r v ≤ 2147483648000) := by
  obtain ⟨Q, W, h⟩ := wy_all n m s k E hn hI r hr
  rcases h.bd v with q | q
  · exact .inl q
  · have : (r : Int) * 2147483648 ≤ 1000 * 2147483648 := by omega
    right; omega
/-- Has something changed in the first i edges? -/
def Cg (n : Nat) (k : Int) (E : Nat → Int × Int × Int) (P : Nat → Int) (i : Nat) (ch : Bool) : Prop := ch = true ↔ ∃ v, v < n ∧ ex k E P i v ≠ P v
theorem Cg.zero (n : Nat) (k : Int) (E : Nat → Int × Int × Int) (P : Nat → Int) : Cg n k E P 0 false := ⟨(fun e => by cases e), (fun ⟨v, _, e⟩ => absurd rfl e)⟩
abbrev Sr (b wb x : Nat) (y z p : Int) (w : World) : Prop := K3 b (x : Int) y z w ∧ w.cell? ⟨wb, x, none⟩ = some (.int .i64 p)
theorem Cg.same {n i : Nat} {k : Int} {E : Nat → Int × Int × Int} {P : Nat → Int} {ch : Bool} (h : Cg n k E P i ch) (e : ex k E P (i + 1) = ex k E P i) : Cg n k E P (i + 1) ch := by unfold Cg; rw [e]; exact h
theorem Cg.set {n i : Nat} {k : Int} {E : Nat → Int × Int × Int} {P : Nat → Int} (y : Nat) (hy : y < n) (h : ex k E P (i + 1) y < ex k E P i y) : Cg n k E P (i + 1) true :=
  ⟨fun _ => ⟨y, hy, by have := ex_le (k := k) (E := E) P i y; omega⟩, fun _ => rfl⟩
/-- The d, and what it was, as they lie. -/
structure Dw (w0 w : World) (db wb n : Nat) (A P : Nat → Int) : Prop where
  d : GL w db n A
  p : GL w wb n P
  b : Below db w0 w
theorem Dw.on {w0 w w' : World} {db wb n : Nat} {A P : Nat → Int} (h : Dw w0 w db wb n A P) (hb : Below w.heap.size w w') : Dw w0 w' db wb n A P :=
  ⟨h.d.on hb, h.p.on hb, h.b.trans (hb.mono (by have := h.d.lt; omega))⟩
theorem Dw.set {w0 w : World} {db wb n : Nat} {A P : Nat → Int} (h : Dw w0 w db wb n A P) (hne : wb ≠ db) (y : Nat) (z : Int) : Dw w0 (w.setCell ⟨db, y, none⟩ (.int .i64 z)) db wb n (up A y z) P := by
  obtain ⟨h1, C, h2⟩ := h.d.set y z
  exact ⟨h1, h.p.of (by rw [h2]; exact setRow_other w db wb C hne), by rw [h2]; exact below_setRow h.b (Nat.le_refl _) _⟩
set_option maxHeartbeats 4000000 in
theorem rsssp_any (n m s c R : Nat) (k : Int) (a : Option Addr) (E : Nat → Int × Int × Int) (h1n : 1 ≤ n) (hn : n ≤ 400) (hm : m ≤ 11728124029610) (hs : s < n) (w : World) (hE : ERow w a m E) (hI : EIn n m E) (hR : R ≤ n)
    (hch : ∀ r, r < R → r < n → ∃ v, v < n ∧ Dd m s k E (r + 1) v ≠ Dd m s k E r v) (hend : R < n → ∀ v, v < n → Dd m s k E (R + 1) v = Dd m s k E R v) :
    Calls Try.prog 25 #[.int .u32 (n : Int), .int .u32 (s : Int), .int .i64 k, .slice a m c] w fun e w' => ∃ ob, e = .returned (.tuple #[.slice (some ⟨ob, 0, none⟩) n n, .bool (decide (R = n))]) ∧ (R < n → GU w' ob n (fun v => us (Dd m s k E (R + 1) v))) ∧ Below w.heap.size w w' := by
  have HE := hide hE
  have HI := hide hI
  have HCh := hide hch
  have HEn := hide hend
  have HDb := hide (fun r hr v => dd_b m s k (by omega) hI r hr v)
  have hmk := make_num w n (by omega)
  have HG0 := hide (GL.new w n)
  have HB0 : Hid (Below w.heap.size w (w.alloc (.cells (madeCells #[.int .i64 0] n) 2))) := b1 _ _ _
  generalize madeCells #[.int .i64 0] n = mc at *
  clear hE hI hch hend
  go_enter Try.func25, Try.ntmps25
  go_wp2_with (fail)
  clear hmk
  generalize w.alloc (.cells mc 2) = w0 at *
  generalize hdb : w.heap.size = db at *
  have HDB := hide hdb
  clear hdb
  go_loopw [11] (fun v wr => ∃ j : Nat, j ≤ n ∧ v = .int .i64 j ∧ Hid (GL wr db n (fun v => if v < j then 9223372036854775807 else 0)) ∧ Hid (Below db w wr)) (fun v _ => n - (intOf v).toNat)
  case atStart => exact ⟨0, Nat.zero_le _, rfl, by simpa using HG0, HB0⟩
  case round =>
    clear HG0 HB0
    obtain ⟨j, hj, rfl, HG, HB⟩ := hrel
    by_cases cc : j < n
    · have hf := HG.out.fz j
      have hc := HG.out.cell j cc
      have HG1 := hide (HG.out.set j 9223372036854775807)
      have HG2 : Hid (GL (wr.setCell ⟨db, j, none⟩ (.int .i64 9223372036854775807)) db n (fun v => if v < j + 1 then 9223372036854775807 else 0)) := HG1.out.1.ext (fun v hv => by
        by_cases e : v = j
        · subst e; rw [up_eq, if_pos (by omega)]
        · rw [up_ne _ _ _ _ e]
          by_cases e2 : v < j
          · rw [if_pos e2, if_pos (by omega)]
          · rw [if_neg e2, if_neg (by omega)])
      have HB2 : Hid (Below db w (wr.setCell ⟨db, j, none⟩ (.int .i64 9223372036854775807))) := by
        obtain ⟨C1, h1⟩ := HG1.out.2
        show Below _ _ _
        rw [h1]
        exact below_setRow HB.out (Nat.le_refl _) _
      clear HG1
      go_wp2
      exact ⟨⟨j + 1, cc, by go_num, HG2, HB2⟩, by simp [intOf]; omega⟩
    · have hjn : n = j := by omega
      subst hjn
      have HG1 : Hid (GL wr db n (fun v => 9223372036854775807)) := HG.out.ext (fun v hv => if_pos hv)
      have hf := HG1.out.fz s
      have hc := HG1.out.cell s hs
      have HG2 := hide (HG1.out.set s 0)
      have HD0 : Hid (GL (wr.setCell ⟨db, s, none⟩ (.int .i64 0)) db n (Dd m s k E 0)) := HG2.out.1.ext (fun v hv => by
        show up _ s 0 v = if v = s then 0 else 9223372036854775807
        unfold up; rfl)
      have HB2 : Hid (Below db w (wr.setCell ⟨db, s, none⟩ (.int .i64 0))) := by
        obtain ⟨C1, h1⟩ := HG2.out.2
        show Below _ _ _
        rw [h1]
        exact below_setRow HB.out (Nat.le_refl _) _
      clear HG HG1 HG2 cc hj HB
      go_wp2_with (fail)
      clear hf hc
      generalize wr.setCell ⟨db, s, none⟩ (.int .i64 0) = w1 at *
      go_loopw [12, 13] (fun cv t wr => ∃ (rr : Nat) (ch : Bool), rr ≤ n ∧ t = .int .u32 rr ∧ cv = .bool ch ∧ ((ch = true ∧ rr ≤ R) ∨ (ch = false ∧ rr = R + 1 ∧ R < n)) ∧ Hid (GL wr db n (Dd m s k E rr)) ∧ Hid (Below db w wr)) (fun _ t _ => n - (intOf t).toNat)
      case atStart => exact ⟨0, true, Nat.zero_le _, rfl, rfl, .inl ⟨rfl, Nat.zero_le _⟩, HD0, HB2⟩
      case round =>
        clear HD0 HB2
        obtain ⟨rr, ch, hrn, rfl, rfl, hcase, HG, HB⟩ := hrel
        by_cases cc : rr < n ∧ ch = true
        · obtain ⟨c1, c2⟩ := cc
          subst c2
          have hrR : rr ≤ R := by rcases hcase with q | q; exact q.2; exact absurd q.1 (by simp)
          have HO := hide (own2 wr)
          have HGa := hide (HG.out.on (b1 wr 2 #[]))
          have hlt : (rr : Int) < n := by omega
          clear hcase
          go_wp2_with (first | (refine wpList_copyI rfl _ _ rfl (.slice (some ⟨wr.heap.size, 0, none⟩) 0 0) db n n wr.heap.size (Dd m s k E rr) rfl HO.out rfl HGa.out (by omega) (by simp) ?_; intro v7 w7 hown7 hgr7) | fail)
          obtain ⟨wb, cap, rfl, hwb, hP⟩ := own_gl hown7 h1n
          have hdl := HG.out.lt
          have HQ0 : Hid (Dw w w7 db wb n (Dd m s k E rr) (Dd m s k E rr)) := ⟨HGa.out.of (hgr7.block db (by rw [World.size_alloc]; omega) (fun e => by have : db = wr.heap.size := (by simpa [Value.ownBlock] using e); omega)), hP, (HB.out.alloc (by omega) _).grown hgr7 (by rw [World.size_alloc]; omega) (fun q hq => by have : wr.heap.size = q := (by simpa [Value.ownBlock] using hq); omega)⟩
          have HNe : Hid (wb ≠ db) := by show wb ≠ db; omega
          clear hown7 hgr7 hP HO HGa HG HB hdl hwb
          go_loopw [12, 15] (fun cv t wr => ∃ (i : Nat) (ch : Bool), i ≤ m ∧ t = .int .i64 i ∧ cv = .bool ch ∧ Hid (Dw w wr db wb n (ex k E (Dd m s k E rr) i) (Dd m s k E rr)) ∧ Hid (Cg n k E (Dd m s k E rr) i ch)) (fun _ t _ => m - (intOf t).toNat)
          case atStart => exact ⟨0, false, Nat.zero_le _, rfl, rfl, HQ0, Cg.zero n k E _⟩
          case round =>
            clear HQ0
            obtain ⟨i, ch, hi, rfl, rfl, HQ, HCg⟩ := hrel
            by_cases cm : i < m
            · have HEr := hide (HE.out.on (by rw [HDB.out]; exact HQ.out.b))
              obtain ⟨eb, rfl, heb, hce⟩ := HEr.out (by omega)
              obtain ⟨x, y, hx, hy, hxn, hyn⟩ := HI.out i cm
              obtain ⟨e1, e2, e3⟩ := hce i cm
              rw [hx] at e1
              rw [hy] at e2
              have t1 : (E i).1.toNat = x := by rw [hx]; rfl
              have t2 : (E i).2.1.toNat = y := by rw [hy]; rfl
              obtain ⟨P, hP⟩ : ∃ P, Dd m s k E rr = P := ⟨_, rfl⟩
              have hPb := HDb.out rr (by omega) x
              have HEx : Hid (ex k E P (i + 1) = if P x = 9223372036854775807 then ex k E P i else if P x + wt k (E i).2.2 < ex k E P i y then up (ex k E P i) y (P x + wt k (E i).2.2) else ex k E P i) := by show _ = _; rw [ex, t1, t2]
              obtain ⟨z, hz⟩ : ∃ z, (E i).2.2 = z := ⟨_, rfl⟩
              rw [hz] at e3 HEx
              rw [hP] at HQ HCg hPb
              have HP := hide hP
              obtain ⟨A, hA⟩ : ∃ A, ex k E P i = A := ⟨_, rfl⟩
              rw [hA] at HQ HEx
              have HA := hide hA
              have HQ8 := hide (HQ.out.on (b1 wr 45 (ev x y z)))
              have hk3 := k3 (at0 wr (.cells (ev x y z) 45))
              have l1 := HQ8.out.p.cell x hxn
              have HK0 := hide (at0 wr (.cells (ev x y z) 45))
              clear hce hx hy t1 t2 hz hP hA heb
              by_cases hU : P x = 9223372036854775807
              · have hb : (P x == 9223372036854775807) = true := by simp [hU]
                have HEs : Hid (ex k E P (i + 1) = A) := by show _ = _; rw [HEx.out, if_pos hU]
                clear hU hPb HEx
                go_wp2
                go_roundw
                case rel => exact ⟨i + 1, ch, cm, by go_num, rfl, by rw [HP.out, HEs.out]; exact HQ8, by rw [HP.out]; exact HCg.out.same (by rw [HEs.out, HA.out])⟩
                case measure => simp [intOf]; omega
              · have hb : (P x == 9223372036854775807) = false := by simp [hU]
                have hpx := hPb.resolve_left hU
                have hwz := wt_b k z
                have HWt := hide (rweight_any k z)
                obtain ⟨q, hq⟩ : ∃ q, P x + wt k z = q := ⟨_, rfl⟩
                have hqw : IntKind.i64.wrap (P x + wt k z) = q := by rw [wi _ (by omega) (by omega)]; exact hq
                have hqw2 : wrap64 (P x + wt k z) = q := by rw [w64 _ (by omega) (by omega)]; exact hq
                have HEy : Hid (ex k E P (i + 1) = if q < A y then up A y q else A) := by show _ = _; rw [HEx.out, if_neg hU, hq]
                clear HEx hq
                have hS8 : Hid (Sr wr.heap.size wb x y z (P x) (wr.alloc (.cells (ev x y z) 45)).drew) := ⟨hk3, l1⟩
                go_wp2_with (fail)
                go_region_held3 (Sr wr.heap.size wb x y z (P x)) ((first | with_reducible exact hS8.out)) ((first | (go_at_call 23; refine (HWt.out _).mono ?_; rintro e9 w9 ⟨rfl, hw9⟩; subst w9)))
                have l2 : (wr.alloc (.cells (ev x y z) 45)).drew.cell? ⟨db, y, none⟩ = some (.int .i64 (A y)) := HQ8.out.d.cell y hyn
                have l3 : (wr.alloc (.cells (ev x y z) 45)).drew.frozen? ⟨db, y, none⟩ = false := HQ8.out.d.fz y
                have l4 : K3 wr.heap.size x y z (wr.alloc (.cells (ev x y z) 45)).drew := hk3
                have HQ9 : Hid (Dw w (wr.alloc (.cells (ev x y z) 45)).drew db wb n A P) := HQ8.out.on (belowD (Below.refl _ _))
                try simp only [hqw, hqw2]
                clear hk3 l1 hS8 HK0 HQ8 hU hb hPb hpx hwz HWt hqw hqw2 HQ e1 e2 e3
                by_cases hlt : q < A y
                · have hb2 : decide (q < A y) = true := by simp [hlt]
                  have HEs : Hid (ex k E P (i + 1) = up A y q) := by show _ = _; rw [HEy.out, if_pos hlt]
                  have HC2 : Hid (Cg n k E P (i + 1) true) := Cg.set y hyn (by rw [HEs.out, up_eq, HA.out]; exact hlt)
                  have HQs := hide (HQ9.out.set HNe.out y q)
                  clear hlt HEy
                  go_wp2
                  go_roundw
                  case rel => exact ⟨i + 1, true, cm, by go_num, rfl, by rw [HP.out, HEs.out]; exact HQs, by rw [HP.out]; exact HC2⟩
                  case measure => simp [intOf]; omega
                · have hb2 : decide (q < A y) = false := by simp [hlt]
                  have HEs : Hid (ex k E P (i + 1) = A) := by show _ = _; rw [HEy.out, if_neg hlt]
                  clear hlt HEy
                  go_wp2
                  go_roundw
                  case rel => exact ⟨i + 1, ch, cm, by go_num, rfl, by rw [HP.out, HEs.out]; exact HQ9, by rw [HP.out]; exact HCg.out.same (by rw [HEs.out, HA.out])⟩
                  case measure => simp [intOf]; omega
            · have him : i = m := by omega
              subst him
              have HG2 : Hid (GL wr db n (Dd i s k E (rr + 1))) := HQ.out.d
              have hc2 : (ch = true ∧ rr + 1 ≤ R) ∨ (ch = false ∧ rr + 1 = R + 1 ∧ R < n) := by
                by_cases e : rr < R
                · left
                  exact ⟨HCg.out.2 (HCh.out rr e c1), by omega⟩
                · right
                  have e2 : rr = R := by omega
                  subst e2
                  refine ⟨?_, rfl, c1⟩
                  cases ch with
                  | false => rfl
                  | true =>
                    obtain ⟨v, hv, hne⟩ := HCg.out.1 rfl
                    exact absurd (HEn.out c1 v hv) hne
              have HB2 := hide HQ.out.b
              clear HQ HCg cm hi
              go_wp2
              go_roundw
              case rel => exact ⟨rr + 1, ch, by omega, by go_num, rfl, hc2, HG2, HB2⟩
              case measure => simp [intOf]; omega
        · have HRr : Hid (R < n → rr = R + 1) := fun h => by
            rcases hcase with q | q
            · have : ¬ rr < n := fun e => cc ⟨e, q.1⟩
              omega
            · exact q.2.1
          have HChn : Hid (decide (R = n) = ch) := by
            show _ = _
            rcases hcase with q | q
            · have : ¬ rr < n := fun e => cc ⟨e, q.1⟩
              rw [q.1]; simp; omega
            · rw [q.1]; simp; omega
          by_cases e : rr < n
          · have hch0 : ch = false := by
              cases ch with
              | false => rfl
              | true => exact absurd ⟨e, rfl⟩ cc
            subst hch0
            have hlt : (rr : Int) < (n : Int) := by omega
            clear e
            clear hcase cc
            have hmk := make_word wr n (by omega)
            have HO0 := hide (GU.new wr n)
            have HGo := hide (HG.out.on (b1 wr 33 (madeCells #[.int .u64 0] n)))
            have HBo : Hid (Below db w (wr.alloc (.cells (madeCells #[.int .u64 0] n) 33))) := bA HB.out (by have := HG.out.lt; omega) _
            have HZ : Hid (db < wr.heap.size) := HG.out.lt
            generalize madeCells #[.int .u64 0] n = mo at *
            clear HG HB
            go_wp2_with (fail)
            clear hmk
            generalize wr.alloc (.cells mo 33) = w5 at *
            generalize wr.heap.size = ob at *
            go_loopw [19] (fun t wx => ∃ j : Nat, j ≤ n ∧ t = .int .i64 j ∧ Hid (GU wx ob n (fun v => if v < j then us (Dd m s k E rr v) else 0)) ∧ Hid (GL wx db n (Dd m s k E rr)) ∧ Hid (Below db w wx)) (fun t _ => n - (intOf t).toNat)
            case atStart => exact ⟨0, Nat.zero_le _, rfl, by simpa using HO0, HGo, HBo⟩
            case round =>
              clear HO0 HGo HBo
              obtain ⟨j, hj, rfl, HU, HG, HB⟩ := hrel
              by_cases cj : j < n
              · have hf := HU.out.fz j
                have hc := HU.out.cell j cj
                have hd := HG.out.cell j cj
                have hwc : IntKind.u64.wrap (Dd m s k E rr j) = us (Dd m s k E rr j) := rfl
                have HG1 := hide (HU.out.set j (us (Dd m s k E rr j)))
                have HG2 : Hid (GU (wr.setCell ⟨ob, j, none⟩ (.int .u64 (us (Dd m s k E rr j)))) ob n (fun v => if v < j + 1 then us (Dd m s k E rr v) else 0)) := HG1.out.1.ext (fun v hv => by
                  by_cases e : v = j
                  · subst e; rw [up_eq, if_pos (by omega)]
                  · rw [up_ne _ _ _ _ e]
                    by_cases e2 : v < j
                    · rw [if_pos e2, if_pos (by omega)]
                    · rw [if_neg e2, if_neg (by omega)])
                have HGn : Hid (GL (wr.setCell ⟨ob, j, none⟩ (.int .u64 (us (Dd m s k E rr j)))) db n (Dd m s k E rr)) := by
                  obtain ⟨C1, h1⟩ := HG1.out.2
                  show GL _ _ _ _
                  rw [h1]
                  exact HG.out.of (setRow_other wr ob db C1 (by have := HZ.out; omega))
                have HB2 : Hid (Below db w (wr.setCell ⟨ob, j, none⟩ (.int .u64 (us (Dd m s k E rr j))))) := by
                  obtain ⟨C1, h1⟩ := HG1.out.2
                  show Below _ _ _
                  rw [h1]
                  exact below_setRow HB.out (by have := HZ.out; omega) _
                clear HG1
                go_wp2
                go_roundw
                case rel => exact ⟨j + 1, cj, by go_num, HG2, HGn, HB2⟩
                case measure => simp [intOf]; omega
              · have hjn : n = j := by omega
                subst hjn
                have HUf : Hid (R < n → GU wr ob n (fun v => us (Dd m s k E (R + 1) v))) := fun h => by
                  have := HRr.out h
                  rw [← this]
                  exact HU.out.ext (fun v hv => if_pos hv)
                have HBf : Hid (Below w.heap.size w wr) := by show Below _ _ _; rw [HDB.out]; exact HB.out
                clear HU HG HB cj hj
                go_wp2
                all_goals go_ret2
                all_goals exact ⟨ob, by rw [HChn.out]; rfl, HUf.out, HBf.out⟩
          · have hlt : (n : Int) ≤ (rr : Int) := by omega
            clear e
            clear hcase cc
            have hmk := make_word wr n (by omega)
            have HO0 := hide (GU.new wr n)
            have HGo := hide (HG.out.on (b1 wr 33 (madeCells #[.int .u64 0] n)))
            have HBo : Hid (Below db w (wr.alloc (.cells (madeCells #[.int .u64 0] n) 33))) := bA HB.out (by have := HG.out.lt; omega) _
            have HZ : Hid (db < wr.heap.size) := HG.out.lt
            generalize madeCells #[.int .u64 0] n = mo at *
            clear HG HB
            go_wp2_with (fail)
            clear hmk
            generalize wr.alloc (.cells mo 33) = w5 at *
            generalize wr.heap.size = ob at *
            go_loopw [19] (fun t wx => ∃ j : Nat, j ≤ n ∧ t = .int .i64 j ∧ Hid (GU wx ob n (fun v => if v < j then us (Dd m s k E rr v) else 0)) ∧ Hid (GL wx db n (Dd m s k E rr)) ∧ Hid (Below db w wx)) (fun t _ => n - (intOf t).toNat)
            case atStart => exact ⟨0, Nat.zero_le _, rfl, by simpa using HO0, HGo, HBo⟩
            case round =>
              clear HO0 HGo HBo
              obtain ⟨j, hj, rfl, HU, HG, HB⟩ := hrel
              by_cases cj : j < n
              · have hf := HU.out.fz j
                have hc := HU.out.cell j cj
                have hd := HG.out.cell j cj
                have hwc : IntKind.u64.wrap (Dd m s k E rr j) = us (Dd m s k E rr j) := rfl
                have HG1 := hide (HU.out.set j (us (Dd m s k E rr j)))
                have HG2 : Hid (GU (wr.setCell ⟨ob, j, none⟩ (.int .u64 (us (Dd m s k E rr j)))) ob n (fun v => if v < j + 1 then us (Dd m s k E rr v) else 0)) := HG1.out.1.ext (fun v hv => by
                  by_cases e : v = j
                  · subst e; rw [up_eq, if_pos (by omega)]
                  · rw [up_ne _ _ _ _ e]
                    by_cases e2 : v < j
                    · rw [if_pos e2, if_pos (by omega)]
                    · rw [if_neg e2, if_neg (by omega)])
                have HGn : Hid (GL (wr.setCell ⟨ob, j, none⟩ (.int .u64 (us (Dd m s k E rr j)))) db n (Dd m s k E rr)) := by
                  obtain ⟨C1, h1⟩ := HG1.out.2
                  show GL _ _ _ _
                  rw [h1]
                  exact HG.out.of (setRow_other wr ob db C1 (by have := HZ.out; omega))
                have HB2 : Hid (Below db w (wr.setCell ⟨ob, j, none⟩ (.int .u64 (us (Dd m s k E rr j))))) := by
                  obtain ⟨C1, h1⟩ := HG1.out.2
                  show Below _ _ _
                  rw [h1]
                  exact below_setRow HB.out (by have := HZ.out; omega) _
                clear HG1
                go_wp2
                go_roundw
                case rel => exact ⟨j + 1, cj, by go_num, HG2, HGn, HB2⟩
                case measure => simp [intOf]; omega
              · have hjn : n = j := by omega
                subst hjn
                have HUf : Hid (R < n → GU wr ob n (fun v => us (Dd m s k E (R + 1) v))) := fun h => by
                  have := HRr.out h
                  rw [← this]
                  exact HU.out.ext (fun v hv => if_pos hv)
                have HBf : Hid (Below w.heap.size w wr) := by show Below _ _ _; rw [HDB.out]; exact HB.out
                clear HU HG HB cj hj
                go_wp2
                all_goals go_ret2
                all_goals exact ⟨ob, by rw [HChn.out]; rfl, HUf.out, HBf.out⟩
end Wp
end Go.Proofs.Ytlhpnhjfibkgpaa
