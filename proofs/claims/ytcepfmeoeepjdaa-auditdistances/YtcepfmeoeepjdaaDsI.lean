import Derived.Test.YtcepfmeoeepjdaaDsA
import Derived.Test.YtcepfmeoeepjdaaAuL
import Derived.Test.YtcepfmeoeepjdaaAuQ
namespace Go.Proofs.Ytcepfmeoeepjdaa
namespace Au
open Go.RowKit
set_option linter.unusedVariables false
set_option maxRecDepth 8000
/-- A list of numbers as it lies. -/
def GL (w : World) (b n : Nat) (G : Nat → Int) : Prop := ∃ C : Array Value, w.heap[b]? = some (.cells C 2 (0, 0)) ∧ ∀ v, v < n → C[v]? = some (.int .i64 (G v))
theorem GL.lt {w : World} {b n : Nat} {G : Nat → Int} (h : GL w b n G) : b < w.heap.size := by
  obtain ⟨C, h, _⟩ := h
  exact (Array.getElem?_eq_some_iff.1 h).1
theorem GL.of {w w' : World} {b n : Nat} {G : Nat → Int} (h : GL w b n G) (e : w'.heap[b]? = w.heap[b]?) : GL w' b n G := by
  obtain ⟨C, h, h2⟩ := h
  exact ⟨C, e.trans h, h2⟩
theorem GL.on {w w' : World} {b n : Nat} {G : Nat → Int} (h : GL w b n G) (hb : Below w.heap.size w w') : GL w' b n G := h.of (hb.block b h.lt)
theorem GL.ext {w : World} {b n : Nat} {G H : Nat → Int} (h : GL w b n G) (e : ∀ v, v < n → G v = H v) : GL w b n H := by
  obtain ⟨C, h1, h2⟩ := h
  exact ⟨C, h1, fun v hv => by rw [← e v hv]; exact h2 v hv⟩
theorem GL.cell {w : World} {b n : Nat} {G : Nat → Int} (h : GL w b n G) (v : Nat) (hv : v < n) : w.cell? ⟨b, v, none⟩ = some (.int .i64 (G v)) := by
  obtain ⟨C, h, h2⟩ := h
  exact (cell_of_row w b _ _ 2 (0, 0) h).trans (h2 v hv)
theorem GL.fz {w : World} {b n : Nat} {G : Nat → Int} (h : GL w b n G) (j : Nat) : w.frozen? ⟨b, j, none⟩ = false := by
  obtain ⟨C, h, h2⟩ := h
  exact frozen_of_row w b _ _ 2 h
theorem GL.set {w : World} {b n : Nat} {G : Nat → Int} (h : GL w b n G) (j : Nat) (x : Int) : GL (w.setCell ⟨b, j, none⟩ (.int .i64 x)) b n (up G j x) ∧ ∃ C, w.setCell ⟨b, j, none⟩ (.int .i64 x) = w.setRow b C := by
  obtain ⟨C, h, h2⟩ := h
  rw [setCell_eq_setRow w b j C 2 (0, 0) _ h]
  refine ⟨⟨_, setRow_heap w b _ _ 2 (0, 0) h, fun v hv => ?_⟩, _, rfl⟩
  show _ = some (Value.int .i64 (if v = j then x else G v))
  rw [Array.getElem?_setIfInBounds]
  have hv2 := h2 v hv
  have := (Array.getElem?_eq_some_iff.1 hv2).1
  by_cases e : j = v
  · subst e; rw [if_pos rfl, if_pos this, if_pos rfl]
  · rw [if_neg e, if_neg (fun k => e k.symm)]; exact hv2
theorem infoK : (Try.prog.info? 2).map (fun i => (i.zero, i.size, i.bytes)) = some (some (.int .i64 0), 1, 8) := by kernel_rfl
theorem info_k : ∃ i0, Try.prog.info? 2 = some i0 ∧ i0.zero = some (.int .i64 0) ∧ i0.size = 1 ∧ i0.bytes = 8 := by
  have h := infoK
  cases hh : Try.prog.info? 2 with
  | none => rw [hh] at h; cases h
  | some i => rw [hh] at h; simp at h; exact ⟨i, rfl, h.1, h.2.1, h.2.2⟩
theorem make_num (w : World) (n : Nat) (hn : n ≤ 1000000) : (Instr.makeSlice 136 (.int .u32 (n : Int)) (.int .u32 (n : Int))).run Try.prog w = .ok (.slice (some ⟨w.heap.size, 0, none⟩) n n) (w.alloc (.cells (madeCells #[.int .i64 0] n) 2)) := by
  have h := infoK
  cases hh : Try.prog.info? 2 with
  | none => rw [hh] at h; cases h
  | some i =>
    rw [hh] at h
    simp at h
    have hr := run_make (P := Try.prog) w 136 2 i (.int .i64 0) Try.underlying136 hh h.1 .u32 .u32 n n (by omega) (by omega) (by rw [h.2.2]; omega) (by omega)
    rw [h.2.1] at hr
    simp only [Int.toNat_natCast, Nat.mul_one] at hr
    rw [hr]
    rfl
theorem GL.new (w : World) (n : Nat) : GL (w.alloc (.cells (madeCells #[.int .i64 0] n) 2)) w.heap.size n (fun _ => 0) := by
  refine ⟨_, at0 _ _, fun j hj => ?_⟩
  simp [madeCells, hj, Nat.mod_one]
def cn (G : Nat → Int) : Nat → List Value
  | 0 => []
  | k + 1 => cn G k ++ [.int .i64 (G k)]
theorem cn_len (G : Nat → Int) (k : Nat) : (cn G k).length = k := by
  induction k with
  | zero => rfl
  | succ k ih => simp only [cn, List.length_append, ih]; rfl
theorem cn_get (G : Nat → Int) (k i : Nat) (hi : i < k) : (cn G k)[i]? = some (.int .i64 (G i)) := by
  induction k with
  | zero => omega
  | succ k ih =>
    simp only [cn]
    by_cases h : i < k
    · rw [List.getElem?_append_left (by rw [cn_len]; omega)]; exact ih h
    · have hk : i = k := by omega
      subst hk
      rw [List.getElem?_append_right (by rw [cn_len]; omega), cn_len, Nat.sub_self]; rfl
theorem cn_one (G : Nat → Int) (k : Nat) : ∀ u ∈ cn G k, u.oneCell' = true := by
  induction k with
  | zero => intro u hu; simp [cn] at hu
  | succ k ih =>
    intro u hu
    simp only [cn, List.mem_append, List.mem_singleton] at hu
    rcases hu with h | h
    · exact ih u h
    · subst h; rfl
theorem own_gl {w : World} {B : Nat} {v : Value} {n : Nat} {G : Nat → Int} (h : w.ownsRow B 2 1 v n (cn G n)) (hn : 0 < n) : ∃ g cap, v = .slice (some ⟨g, 0, none⟩) n cap ∧ B ≤ g ∧ GL w g n G := by
  obtain ⟨h1, h2⟩ := h
  rcases h2 with ⟨rfl, h0⟩ | ⟨g, cap, cur, rfl, h3, h4, h5, h6, h7, h8⟩
  · omega
  · refine ⟨g, cap, rfl, h3, cur, h4, fun u hu => ?_⟩
    have hg := cn_get G n u hu
    rw [← h8, List.getElem?_take, if_pos (by omega)] at hg
    simpa using hg
theorem own2 (w : World) : (w.alloc (.cells #[] 2)).ownsRow w.heap.size 2 1 (.slice (some ⟨w.heap.size, 0, none⟩) 0 0) 0 [] :=
  ⟨rfl, Or.inr ⟨w.heap.size, 0, #[], rfl, Nat.le_refl _, at0 w _, Nat.le_refl _, by unfold maxLen; omega, rfl, rfl⟩⟩
theorem addz (g i : Nat) : (⟨g, 0, none⟩ : Addr).add i = ⟨g, i, none⟩ := by
  unfold Addr.add
  split
  · next h => rw [h]
  · simp
/-- append of a whole list to an empty one. -/
theorem wpList_copyI {w : World} {ops : Array Oper} {rest : List Oper} {o : Oper} {a : Act} {Q : Exit → Act → World → Prop} (hgd : o.guard = none) (s x : Operand)
    (ho : o.op = .call { callee := .builtin .append, args := #[s, x], argTypes := #[136, 136] }) (v : Value) (b n c B : Nat) (G : Nat → Int) (hs : a.eval s = v) (hown : w.ownsRow B 2 1 v 0 [])
    (hx : a.eval x = .slice (some ⟨b, 0, none⟩) n c) (hG : GL w b n G) (hn : n ≤ 1000000) (hbase : B ≤ w.heap.size)
    (h : ∀ v' w', w'.ownsRow B 2 1 v' n (cn G n) → w.grownBy w' v.ownBlock → wpList Try.prog ops Q rest (a.put o.dst v') w') : wpList Try.prog ops Q (o :: rest) a w := by
  obtain ⟨i0, hi, hz0, hz1, hz2⟩ := info_k
  exact wpList_append_own_at w hgd s x 136 ho B 2 i0 (.int .i64 0) 1 8 Try.underlying136 hi hz0 hz1 hz2 rfl (by decide) v 0 [] hs hown ⟨b, 0, none⟩ n c (cn G n) hx (by rw [cn_len]; omega) (fun j u hj => by
    have hl := (List.getElem?_eq_some_iff.1 hj).1
    rw [cn_len] at hl
    rw [cn_get G n j hl] at hj
    cases hj
    rw [addz]; exact hG.cell j hl) (cn_one G n) (by unfold maxLen; omega) (by omega) hbase (fun v' w' h2 h3 _ h5 => h v' w' (by simpa using h2) h3)
/-- Has something changed in the first i edges? -/
def Cg (n : Nat) (P A : Nat → Int) (ch : Bool) : Prop := ch = true ↔ ∃ v, v < n ∧ A v ≠ P v
/-- Does a round change nothing? -/
def St (s : Nat) (k : Int) (L : List T3) (n r : Nat) : Prop := ∀ v, v < n → Dd s k L (r + 1) v = Dd s k L r v
theorem rxs_take (k : Int) (P : Nat → Int) (L : List T3) (i : Nat) (e : T3) (h : L[i]? = some e) : rxs k P P (L.take (i + 1)) = rx k P (rxs k P P (L.take i)) e := by
  unfold rxs
  rw [List.take_add_one, h]
  simp
/-- The d, and what it was, as they lie. -/
structure Dw (w0 w : World) (db wb n : Nat) (A P : Nat → Int) : Prop where
  d : GL w db n A
  p : GL w wb n P
  b : Below db w0 w
theorem Dw.on {w0 w w' : World} {db wb n : Nat} {A P : Nat → Int} (h : Dw w0 w db wb n A P) (hb : Below w.heap.size w w') : Dw w0 w' db wb n A P :=
  ⟨h.d.on hb, h.p.on hb, h.b.trans (hb.mono (by have := h.d.lt; omega))⟩
theorem Dw.set {w0 w : World} {db wb n : Nat} {A P : Nat → Int} (h : Dw w0 w db wb n A P) (hne : wb ≠ db) (y : Nat) (z : Int) : Dw w0 (w.setCell ⟨db, y, none⟩ (.int .i64 z)) db wb n (up A y z) P := by
  obtain ⟨h1, C, h2⟩ := h.d.set y z
  exact ⟨h1, h.p.of (by rw [h2]; exact setRow_other w db wb C hne), by rw [h2]; exact below_setRow h.b (Nat.le_refl _) _⟩
abbrev ev3 (x y z : Nat) : Array Value := #[.int .u32 (x : Int), .int .u32 (y : Int), .int .u32 (z : Int)]
abbrev K3d (b x y z : Nat) (w : World) : Prop := w.cell? ⟨b, 0, none⟩ = some (.int .u32 (x : Int)) ∧ w.cell? ⟨b, 1, none⟩ = some (.int .u32 (y : Int)) ∧ w.cell? ⟨b, 2, none⟩ = some (.int .u32 (z : Int))
theorem k3d {w : World} {b x y z : Nat} (h : w.heap[b]? = some (.cells (ev3 x y z) 73 (0, 0))) : K3d b x y z w :=
  ⟨(cell_of_row _ _ _ _ _ _ h).trans rfl, (cell_of_row _ _ _ _ _ _ h).trans rfl, (cell_of_row _ _ _ _ _ _ h).trans rfl⟩
abbrev Srd (b wb x y z : Nat) (p : Int) (w : World) : Prop := K3d b x y z w ∧ w.cell? ⟨wb, x, none⟩ = some (.int .i64 p)
theorem GUnew (w : World) (n : Nat) : GU (w.alloc (.cells (madeCells #[.int .u64 0] n) 28)) w.heap.size n (fun _ => 0) := by
  refine ⟨_, at0 _ _, fun j hj => ?_⟩
  simp [madeCells, hj, Nat.mod_one]
set_option maxHeartbeats 8000000 in
theorem rsssp_any (n s c : Nat) (k : Int) (a : Option Addr) (L : List T3) (h1n : 1 ≤ n) (hn : n ≤ 5000) (hm : L.length ≤ 140737488351232) (hs : s < n) (hL : ∀ e ∈ L, e.1 < n ∧ e.2.1 < n) (w : World) (hE : Row3 .u32 w a L) :
    Calls Try.prog 78 #[.int .u32 (n : Int), .int .u32 (s : Int), .int .i64 k, .slice a L.length c] w fun e w' => ∃ v ch, e = .returned (.tuple #[v, .bool ch]) ∧ (ch = false ↔ ∃ r, r < n ∧ St s k L n r) ∧ Below w.heap.size w w' := by
  have HE := hide hE
  have HLn := hide hL
  have HDb := hide (fun r (hr : r ≤ n) v => dd_r s k L r (by omega) v)
  have hmk := make_num w n (by omega)
  have HG0 := hide (GL.new w n)
  have HB0 : Hid (Below w.heap.size w (w.alloc (.cells (madeCells #[.int .i64 0] n) 2))) := b1 _ _ _
  generalize madeCells #[.int .i64 0] n = mc at *
  clear hE hL
  go_enter Try.func78, Try.ntmps78
  go_wp2_with (fail)
  clear hmk
  generalize w.alloc (.cells mc 2) = w0 at *
  generalize hdb : w.heap.size = db at *
  have HDB := hide hdb
  clear hdb
  go_loopw [11] (fun v wr => ∃ j : Nat, j ≤ n ∧ v = .int .i64 j ∧ Hid (GL wr db n (fun v => if v < j then 9223372036854775807 else 0)) ∧ Hid (Below db w wr)) (fun v _ => n - (intOf v).toNat)
  case atStart => exact ⟨0, Nat.zero_le _, rfl, by simpa using HG0, HB0⟩
  case round =>
    clear HG0 HB0
    obtain ⟨j, hj, rfl, HG, HB⟩ := hrel
    by_cases cc : j < n
    · have hf := HG.out.fz j
      have hc := HG.out.cell j cc
      have HG1 := hide (HG.out.set j 9223372036854775807)
      have HG2 : Hid (GL (wr.setCell ⟨db, j, none⟩ (.int .i64 9223372036854775807)) db n (fun v => if v < j + 1 then 9223372036854775807 else 0)) := HG1.out.1.ext (fun v hv => by
        by_cases e : v = j
        · subst e; rw [up_eq, if_pos (by omega)]
        · rw [up_ne _ _ _ _ e]
          by_cases e2 : v < j
          · rw [if_pos e2, if_pos (by omega)]
          · rw [if_neg e2, if_neg (by omega)])
      have HB2 : Hid (Below db w (wr.setCell ⟨db, j, none⟩ (.int .i64 9223372036854775807))) := by
        obtain ⟨C1, h1⟩ := HG1.out.2
        show Below _ _ _
        rw [h1]
        exact below_setRow HB.out (Nat.le_refl _) _
      clear HG1
      go_wp2
      exact ⟨⟨j + 1, cc, by go_num, HG2, HB2⟩, by simp [intOf]; omega⟩
    · have hjn : n = j := by omega
      subst hjn
      have HG1 : Hid (GL wr db n (fun v => 9223372036854775807)) := HG.out.ext (fun v hv => if_pos hv)
      have hf := HG1.out.fz s
      have hc := HG1.out.cell s hs
      have HG2 := hide (HG1.out.set s 0)
      have HD0 : Hid (GL (wr.setCell ⟨db, s, none⟩ (.int .i64 0)) db n (Dd s k L 0)) := HG2.out.1.ext (fun v hv => by
        show up _ s 0 v = if v = s then 0 else 9223372036854775807
        unfold up; rfl)
      have HB2 : Hid (Below db w (wr.setCell ⟨db, s, none⟩ (.int .i64 0))) := by
        obtain ⟨C1, h1⟩ := HG2.out.2
        show Below _ _ _
        rw [h1]
        exact below_setRow HB.out (Nat.le_refl _) _
      clear HG HG1 HG2 cc hj HB
      go_wp2_with (fail)
      clear hf hc
      generalize wr.setCell ⟨db, s, none⟩ (.int .i64 0) = w1 at *
      go_loopw [12, 13] (fun cv t wr => ∃ (rr : Nat) (ch : Bool), rr ≤ n ∧ t = .int .u32 rr ∧ cv = .bool ch ∧ Hid ((ch = true ∧ ∀ r, r < rr → ¬ St s k L n r) ∨ (ch = false ∧ ∃ r, r < n ∧ St s k L n r)) ∧ Hid (GL wr db n (Dd s k L rr)) ∧ Hid (Below db w wr)) (fun _ t _ => n - (intOf t).toNat)
      case atStart => exact ⟨0, true, Nat.zero_le _, rfl, rfl, .inl ⟨rfl, fun r h => by omega⟩, HD0, HB2⟩
      case round =>
        clear HD0 HB2
        obtain ⟨rr, ch, hrn, rfl, rfl, HSt, HG, HB⟩ := hrel
        by_cases cc : rr < n ∧ ch = true
        · obtain ⟨c1, c2⟩ := cc
          subst c2
          have hnst : ∀ r, r < rr → ¬ St s k L n r := by
            rcases HSt.out with q | q
            · exact q.2
            · exact absurd q.1 (by simp)
          have HNst := hide hnst
          have HO := hide (own2 wr)
          have HGa := hide (HG.out.on (b1 wr 2 #[]))
          have hlt : (rr : Int) < n := by omega
          clear HSt hnst
          go_wp2_with (first | (refine wpList_copyI rfl _ _ rfl (.slice (some ⟨wr.heap.size, 0, none⟩) 0 0) db n n wr.heap.size (Dd s k L rr) rfl HO.out rfl HGa.out (by omega) (by simp) ?_; intro v7 w7 hown7 hgr7) | fail)
          obtain ⟨wb, cap, rfl, hwb, hP⟩ := own_gl hown7 h1n
          have hdl := HG.out.lt
          have HQ0 : Hid (Dw w w7 db wb n (Dd s k L rr) (Dd s k L rr)) := ⟨HGa.out.of (hgr7.block db (by rw [World.size_alloc]; omega) (fun e => by have : db = wr.heap.size := (by simpa [Value.ownBlock] using e); omega)), hP, (HB.out.alloc (by omega) _).grown hgr7 (by rw [World.size_alloc]; omega) (fun q hq => by have : wr.heap.size = q := (by simpa [Value.ownBlock] using hq); omega)⟩
          have HNe : Hid (wb ≠ db) := by show wb ≠ db; omega
          clear hown7 hgr7 hP HO HGa HG HB hdl hwb
          obtain ⟨P, hP⟩ : ∃ P, Dd s k L rr = P := ⟨_, rfl⟩
          rw [hP] at HQ0
          have HPb : Hid (∀ v, P v = 9223372036854775807 ∨ (-10737418240000 ≤ P v ∧ P v ≤ 10737418240000)) := fun v => by rw [← hP]; exact HDb.out rr hrn v
          have HP := hide hP
          clear hP
          go_loopw [12, 15] (fun cv t wr => ∃ (i : Nat) (ch : Bool), i ≤ L.length ∧ t = .int .i64 i ∧ cv = .bool ch ∧ Hid (Dw w wr db wb n (rxs k P P (L.take i)) P) ∧ Hid (Cg n P (rxs k P P (L.take i)) ch)) (fun _ t _ => L.length - (intOf t).toNat)
          case atStart => exact ⟨0, false, Nat.zero_le _, rfl, rfl, HQ0, ⟨(fun e => by cases e), (fun ⟨v, _, e⟩ => absurd rfl e)⟩⟩
          case round =>
            clear HQ0
            obtain ⟨i, ch, hi, rfl, rfl, HQ, HCg⟩ := hrel
            by_cases cm : i < L.length
            · have HEr := hide (HE.out.on (B := w.heap.size) (by rw [HDB.out]; exact HQ.out.b) (Nat.le_refl _))
              obtain ⟨e, he⟩ : ∃ e, L[i]? = some e := ⟨L[i], List.getElem?_eq_getElem cm⟩
              obtain ⟨ea, rfl, hxa⟩ := HEr.out (by omega)
              obtain ⟨e1, e2, e3⟩ := cells3 (hxa.2 i e he)
              obtain ⟨hxn, hyn⟩ := HLn.out e (List.mem_of_getElem? he)
              have HT := hide (rxs_take k P L i e he)
              obtain ⟨A, hA⟩ : ∃ A, rxs k P P (L.take i) = A := ⟨_, rfl⟩
              rw [hA] at HQ HCg HT
              obtain ⟨x, hx⟩ : ∃ x, e.1 = x := ⟨_, rfl⟩
              obtain ⟨y, hy⟩ : ∃ y, e.2.1 = y := ⟨_, rfl⟩
              obtain ⟨z, hz⟩ : ∃ z, e.2.2 = z := ⟨_, rfl⟩
              have HRx : Hid (rxs k P P (L.take (i + 1)) = if P x = 9223372036854775807 then A else if P x + wk k z < A y then up A y (P x + wk k z) else A) := by show _ = _; rw [HT.out]; unfold rx; rw [hx, hy, hz]
              rw [hx] at e1 hxn
              rw [hy] at e2 hyn
              rw [hz] at e3
              have hle : A y ≤ P y := by rw [← hA]; exact rxs_le k P _ y P
              have HLe := hide hle
              have HQ8 := hide (HQ.out.on (b1 wr 73 (ev3 x y z)))
              have hk3 := k3d (at0 wr (.cells (ev3 x y z) 73))
              have l1 := HQ8.out.p.cell x hxn
              have hPb := HPb.out x
              clear HT hxa hx hy hz hA hle he
              by_cases hU : P x = 9223372036854775807
              · have hb : (P x == 9223372036854775807) = true := by simp [hU]
                have HEs : Hid (rxs k P P (L.take (i + 1)) = A) := by show _ = _; rw [HRx.out, if_pos hU]
                clear hU hPb HRx
                go_wp2
                go_roundw
                case rel => exact ⟨i + 1, ch, cm, by go_num, rfl, by rw [HEs.out]; exact HQ8, by rw [HEs.out]; exact HCg⟩
                case measure => simp [intOf]; omega
              · have hb : (P x == 9223372036854775807) = false := by simp [hU]
                have hpx := hPb.resolve_left hU
                have hwz := wk_b k z
                have HWt := hide (rweight_any k z)
                obtain ⟨q, hq⟩ : ∃ q, P x + wk k z = q := ⟨_, rfl⟩
                have hqw : IntKind.i64.wrap (P x + wk k z) = q := by rw [wi64 _ (by omega) (by omega)]; exact hq
                have hqw2 : wrap64 (P x + wk k z) = q := by rw [w64e _ (by omega) (by omega)]; exact hq
                have HEy : Hid (rxs k P P (L.take (i + 1)) = if q < A y then up A y q else A) := by show _ = _; rw [HRx.out, if_neg hU, hq]
                clear HRx hq
                have hS8 : Hid (Srd wr.heap.size wb x y z (P x) (wr.alloc (.cells (ev3 x y z) 73)).drew) := ⟨hk3, l1⟩
                go_wp2_with (fail)
                go_region_held3 (Srd wr.heap.size wb x y z (P x)) ((first | with_reducible exact hS8.out | fail "no arm")) ((first | (go_at_call 80; refine (HWt.out _).mono ?_; rintro e9 w9 ⟨rfl, hw9⟩; subst w9) | fail "no arm"))
                have l2 : (wr.alloc (.cells (ev3 x y z) 73)).drew.cell? ⟨db, y, none⟩ = some (.int .i64 (A y)) := HQ8.out.d.cell y hyn
                have l3 : (wr.alloc (.cells (ev3 x y z) 73)).drew.frozen? ⟨db, y, none⟩ = false := HQ8.out.d.fz y
                have l4 : K3d wr.heap.size x y z (wr.alloc (.cells (ev3 x y z) 73)).drew := hk3
                have HQ9 : Hid (Dw w (wr.alloc (.cells (ev3 x y z) 73)).drew db wb n A P) := HQ8.out.on (belowD (Below.refl _ _))
                try simp only [hqw, hqw2]
                clear hk3 l1 hS8 HQ8 hU hb hPb hpx hwz HWt hqw hqw2 HQ e1 e2 e3
                by_cases hlt : q < A y
                · have hb2 : decide (q < A y) = true := by simp [hlt]
                  have HEs : Hid (rxs k P P (L.take (i + 1)) = up A y q) := by show _ = _; rw [HEy.out, if_pos hlt]
                  have HC2 : Hid (Cg n P (up A y q) true) := ⟨fun _ => ⟨y, hyn, by rw [up_eq]; have := HLe.out; omega⟩, fun _ => rfl⟩
                  have HQs := hide (HQ9.out.set HNe.out y q)
                  clear hlt HEy HLe
                  go_wp2
                  go_roundw
                  case rel => exact ⟨i + 1, true, cm, by go_num, rfl, by rw [HEs.out]; exact HQs, by rw [HEs.out]; exact HC2⟩
                  case measure => simp [intOf]; omega
                · have hb2 : decide (q < A y) = false := by simp [hlt]
                  have HEs : Hid (rxs k P P (L.take (i + 1)) = A) := by show _ = _; rw [HEy.out, if_neg hlt]
                  clear hlt HEy HLe
                  go_wp2
                  go_roundw
                  case rel => exact ⟨i + 1, ch, cm, by go_num, rfl, by rw [HEs.out]; exact HQ9, by rw [HEs.out]; exact HCg⟩
                  case measure => simp [intOf]; omega
            · have him : i = L.length := by omega
              subst him
              have hall : rxs k P P (L.take L.length) = Dd s k L (rr + 1) := by
                rw [List.take_length, ← HP.out]; rfl
              have HG2 : Hid (GL wr db n (Dd s k L (rr + 1))) := by show GL _ _ _ _; rw [← hall]; exact HQ.out.d
              have HSt : Hid ((ch = true ∧ ∀ r, r < rr + 1 → ¬ St s k L n r) ∨ (ch = false ∧ ∃ r, r < n ∧ St s k L n r)) := by
                have hcg := HCg.out
                unfold Cg at hcg
                rw [hall, ← HP.out] at hcg
                cases ch with
                | true =>
                  refine .inl ⟨rfl, fun r hr => ?_⟩
                  by_cases e : r = rr
                  · subst e
                    obtain ⟨v, hv, hne⟩ := hcg.1 rfl
                    exact fun h => hne (h v hv)
                  · exact HNst.out r (by omega)
                | false =>
                  refine .inr ⟨rfl, rr, c1, fun v hv => ?_⟩
                  by_cases e : Dd s k L (rr + 1) v = Dd s k L rr v
                  · exact e
                  · exact absurd (hcg.2 ⟨v, hv, e⟩) (by simp)
              have HB2 := hide HQ.out.b
              clear HQ HCg cm hi hall
              go_wp2
              go_roundw
              case rel => exact ⟨rr + 1, ch, by omega, by go_num, rfl, HSt, HG2, HB2⟩
              case measure => simp [intOf]; omega
        · have HCh : Hid (ch = false ↔ ∃ r, r < n ∧ St s k L n r) := by
            rcases HSt.out with q | q
            · have hrr : rr = n := by
                have : ¬ rr < n := fun e => cc ⟨e, q.1⟩
                omega
              rw [q.1]
              constructor
              · intro h; cases h
              · rintro ⟨r, h1, h2⟩; exact absurd h2 (q.2 r (by omega))
            · exact ⟨fun _ => q.2, fun _ => q.1⟩
          by_cases e : rr < n
          · have hch0 : ch = false := by
              cases ch with
              | false => rfl
              | true => exact absurd ⟨e, rfl⟩ cc
            subst hch0
            have hlt : (rr : Int) < (n : Int) := by omega
            clear e
            clear cc
            have hmk := make_u32 wr n (by omega)
            have HO0 : Hid (∃ U, GU (wr.alloc (.cells (madeCells #[.int .u64 0] n) 28)) wr.heap.size n U) := ⟨fun _ => 0, GUnew wr n⟩
            have HGo := hide (HG.out.on (b1 wr 28 (madeCells #[.int .u64 0] n)))
            have HBo : Hid (Below db w (wr.alloc (.cells (madeCells #[.int .u64 0] n) 28))) := bA HB.out (by have := HG.out.lt; omega) _
            have HZ : Hid (db < wr.heap.size) := HG.out.lt
            generalize madeCells #[.int .u64 0] n = mo at *
            clear HG HB HSt
            go_wp2_with (fail)
            clear hmk
            generalize wr.alloc (.cells mo 28) = w5 at *
            generalize wr.heap.size = ob at *
            go_loopw [19] (fun t wx => ∃ j : Nat, j ≤ n ∧ t = .int .i64 j ∧ Hid (∃ U, GU wx ob n U) ∧ Hid (GL wx db n (Dd s k L rr)) ∧ Hid (Below db w wx)) (fun t _ => n - (intOf t).toNat)
            case atStart => exact ⟨0, Nat.zero_le _, rfl, HO0, HGo, HBo⟩
            case round =>
              clear HO0 HGo HBo
              obtain ⟨j, hj, rfl, HU, HG, HB⟩ := hrel
              by_cases cj : j < n
              · obtain ⟨U, hU⟩ := HU.out
                have hf := hU.fz j
                have hc := hU.cell j cj
                have hd := HG.out.cell j cj
                obtain ⟨q, hq⟩ : ∃ q, IntKind.u64.wrap (Dd s k L rr j) = q := ⟨_, rfl⟩
                have hG1 := hU.set j q
                have HG2 : Hid (∃ U, GU (wr.setCell ⟨ob, j, none⟩ (.int .u64 q)) ob n U) := ⟨_, hG1.1⟩
                have HGn : Hid (GL (wr.setCell ⟨ob, j, none⟩ (.int .u64 q)) db n (Dd s k L rr)) := by
                  obtain ⟨C1, h1⟩ := hG1.2
                  show GL _ _ _ _
                  rw [h1]
                  exact HG.out.of (setRow_other wr ob db C1 (by have := HZ.out; omega))
                have HB2 : Hid (Below db w (wr.setCell ⟨ob, j, none⟩ (.int .u64 q))) := by
                  obtain ⟨C1, h1⟩ := hG1.2
                  show Below _ _ _
                  rw [h1]
                  exact below_setRow HB.out (by have := HZ.out; omega) _
                clear hG1 hU HU
                go_wp2
                go_roundw
                case rel => exact ⟨j + 1, cj, by go_num, HG2, HGn, HB2⟩
                case measure => simp [intOf]; omega
              · have hjn : n = j := by omega
                subst hjn
                have HBf : Hid (Below w.heap.size w wr) := by show Below _ _ _; rw [HDB.out]; exact HB.out
                clear HU HG HB cj hj
                go_wp2
                all_goals go_ret2
                all_goals exact ⟨_, false, rfl, ⟨fun _ => HCh.out.1 trivial, fun _ => rfl⟩, HBf.out⟩
          · have hlt : (n : Int) ≤ (rr : Int) := by omega
            clear e
            clear cc
            have hmk := make_u32 wr n (by omega)
            have HO0 : Hid (∃ U, GU (wr.alloc (.cells (madeCells #[.int .u64 0] n) 28)) wr.heap.size n U) := ⟨fun _ => 0, GUnew wr n⟩
            have HGo := hide (HG.out.on (b1 wr 28 (madeCells #[.int .u64 0] n)))
            have HBo : Hid (Below db w (wr.alloc (.cells (madeCells #[.int .u64 0] n) 28))) := bA HB.out (by have := HG.out.lt; omega) _
            have HZ : Hid (db < wr.heap.size) := HG.out.lt
            generalize madeCells #[.int .u64 0] n = mo at *
            clear HG HB HSt
            go_wp2_with (fail)
            clear hmk
            generalize wr.alloc (.cells mo 28) = w5 at *
            generalize wr.heap.size = ob at *
            go_loopw [19] (fun t wx => ∃ j : Nat, j ≤ n ∧ t = .int .i64 j ∧ Hid (∃ U, GU wx ob n U) ∧ Hid (GL wx db n (Dd s k L rr)) ∧ Hid (Below db w wx)) (fun t _ => n - (intOf t).toNat)
            case atStart => exact ⟨0, Nat.zero_le _, rfl, HO0, HGo, HBo⟩
            case round =>
              clear HO0 HGo HBo
              obtain ⟨j, hj, rfl, HU, HG, HB⟩ := hrel
              by_cases cj : j < n
              · obtain ⟨U, hU⟩ := HU.out
                have hf := hU.fz j
                have hc := hU.cell j cj
                have hd := HG.out.cell j cj
                obtain ⟨q, hq⟩ : ∃ q, IntKind.u64.wrap (Dd s k L rr j) = q := ⟨_, rfl⟩
                have hG1 := hU.set j q
                have HG2 : Hid (∃ U, GU (wr.setCell ⟨ob, j, none⟩ (.int .u64 q)) ob n U) := ⟨_, hG1.1⟩
                have HGn : Hid (GL (wr.setCell ⟨ob, j, none⟩ (.int .u64 q)) db n (Dd s k L rr)) := by
                  obtain ⟨C1, h1⟩ := hG1.2
                  show GL _ _ _ _
                  rw [h1]
                  exact HG.out.of (setRow_other wr ob db C1 (by have := HZ.out; omega))
                have HB2 : Hid (Below db w (wr.setCell ⟨ob, j, none⟩ (.int .u64 q))) := by
                  obtain ⟨C1, h1⟩ := hG1.2
                  show Below _ _ _
                  rw [h1]
                  exact below_setRow HB.out (by have := HZ.out; omega) _
                clear hG1 hU HU
                go_wp2
                go_roundw
                case rel => exact ⟨j + 1, cj, by go_num, HG2, HGn, HB2⟩
                case measure => simp [intOf]; omega
              · have hjn : n = j := by omega
                subst hjn
                have HBf : Hid (Below w.heap.size w wr) := by show Below _ _ _; rw [HDB.out]; exact HB.out
                clear HU HG HB cj hj
                go_wp2
                all_goals go_ret2
                all_goals exact ⟨_, ch, rfl, HCh.out, HBf.out⟩
end Au
end Go.Proofs.Ytcepfmeoeepjdaa
