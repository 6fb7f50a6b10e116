import Derived.Test.YtlhpnhjfibkgpabWuB
namespace Go.Proofs.Ytlhpnhjfibkgpab
namespace Wp
open Go.RowKit
set_option linter.unusedVariables false
set_option maxRecDepth 8000
theorem addg (g i : Nat) : (⟨g, 0, none⟩ : Addr).add i = ⟨g, i, none⟩ := by
  unfold Addr.add
  split
  · next h => rw [h]
  · simp
/-- A row of numbers. -/
def IR (w : World) (v : Value) (A : List Int) : Prop :=
  ∃ a c, v = .slice a A.length c ∧ (0 < A.length → ∃ g, a = some ⟨g, 0, none⟩ ∧ g < w.heap.size ∧ ∀ i x, A[i]? = some x → w.cell? ⟨g, i, none⟩ = some (.int .i64 x))
theorem IR.on {w w' : World} {v : Value} {A : List Int} (h : IR w v A) (hb : Below w.heap.size w w') : IR w' v A := by
  obtain ⟨a, c, h1, h2⟩ := h
  refine ⟨a, c, h1, fun h0 => ?_⟩
  obtain ⟨g, h3, h4, h5⟩ := h2 h0
  exact ⟨g, h3, Nat.lt_of_lt_of_le h4 hb.size, fun i x hx => (hb.cell (p := ⟨g, i, none⟩) h4).trans (h5 i x hx)⟩
theorem IR.of {w : World} {B : Nat} {v : Value} {A : List Int} (h : w.ownsRow B 3 1 v A.length (iv A)) : IR w v A := by
  rcases h.2 with ⟨rfl, h0⟩ | ⟨g, cap, cur, rfl, _⟩
  · rw [List.length_eq_zero_iff] at h0
    subst h0
    exact ⟨none, 0, rfl, fun h => by simp at h⟩
  · refine ⟨_, cap, rfl, fun _ => ⟨g, rfl, (World.ownsRow.lt h g rfl).2, fun i x hx => ?_⟩⟩
    have := World.ownsRow.cells h (g := g) rfl i _ (iv_get hx)
    rwa [addg] at this
/-- The lists of edges' numbers, as they are read. -/
def Ot (w : World) (ob n m : Nat) (E : Nat → Int × Int × Int) (V : Nat → Value) (X : Nat → List Int) : Prop :=
  ob < w.heap.size ∧ (∀ v, v < n → w.cell? ⟨ob, v, none⟩ = some (V v) ∧ IR w (V v) (X v)) ∧ (∀ v, v < n → ∀ x ∈ X v, ∃ j : Nat, x = j ∧ j < m ∧ (E j).1 = v) ∧ (∀ j, j < m → ∀ v : Nat, v < n → (E j).1 = v → (j : Int) ∈ X v)
theorem Ou.ot {w : World} {ob n m : Nat} {E : Nat → Int × Int × Int} {V : Nat → Value} {X : Nat → List Int} (h : Ou w ob n m E V X) : Ot w ob n m E V X :=
  ⟨h.lt, fun v hv => ⟨h.cell v hv, IR.of (h.own v hv)⟩, h.ins, h.all⟩
theorem Ot.on {w w' : World} {ob n m : Nat} {E : Nat → Int × Int × Int} {V : Nat → Value} {X : Nat → List Int} (h : Ot w ob n m E V X) (hb : Below w.heap.size w w') : Ot w' ob n m E V X :=
  ⟨Nat.lt_of_lt_of_le h.1 hb.size, fun v hv => ⟨(hb.cell (p := ⟨ob, v, none⟩) h.1).trans (h.2.1 v hv).1, (h.2.1 v hv).2.on hb⟩, h.2.2⟩
/-- Vertices as they lie. -/
def qu (q : List Nat) : List Value := q.map (fun (x : Nat) => Value.int .u32 (x : Int))
theorem qu_app (q r : List Nat) : qu (q ++ r) = qu q ++ qu r := by simp [qu]
theorem qu_get {q : List Nat} {j x : Nat} (h : q[j]? = some x) : (qu q)[j]? = some (.int .u32 (x : Int)) := by simp [qu, h]
/-- Sources as they lie. -/
def Zr (w : World) (qb n k : Nat) (Z : Nat → Nat) : Prop := qb < w.heap.size ∧ ∀ j, j < k → w.cell? ⟨qb, j, none⟩ = some (.int .u32 (Z j : Int)) ∧ Z j < n
theorem Zr.on {w w' : World} {qb n k : Nat} {Z : Nat → Nat} (h : Zr w qb n k Z) (hb : Below w.heap.size w w') : Zr w' qb n k Z :=
  ⟨Nat.lt_of_lt_of_le h.1 hb.size, fun j hj => ⟨(hb.cell (p := ⟨qb, j, none⟩) h.1).trans (h.2 j hj).1, (h.2 j hj).2⟩⟩
/-- Levels and queue as they lie, in blocks from lb on. -/
structure LQ (w0 w : World) (lb n : Nat) (L : Nat → Int) (v : Value) (q : List Nat) : Prop where
  g : GU w lb n L
  o : w.ownsRow (lb + 1) 26 1 v q.length (qu q)
  b : Below lb w0 w
theorem b1o (w : World) (o : Obj) : Below w.heap.size w (w.alloc o) := (Below.refl _ w).alloc (Nat.le_refl _) _
theorem cell_set (w : World) (a : Addr) (v x : Value) (t : TypeId) : ((w.setCell a v).alloc (.cells #[x] t)).cell? ⟨w.heap.size, 0, none⟩ = some x := by
  have h := cell_of_row _ (w.setCell a v).heap.size 0 #[x] t (0, 0) (at0 (w.setCell a v) (.cells #[x] t))
  rw [World.size_setCell] at h
  exact h
/-- The first i edges of u have been gone along. -/
def Dn (E : Nat → Int × Int × Int) (X : List Int) (u i : Nat) (L : Nat → Int) : Prop := ∀ j, j < i → ∀ e : Nat, X[j]? = some (e : Int) → ∀ v : Nat, (E e).2.1 = v → L v ≠ 18446744073709551615 ∧ L v ≤ L u + 1
theorem Dn.step {E : Nat → Int × Int × Int} {X : List Int} {u i e y : Nat} {L : Nat → Int} (h : Dn E X u i L) (he : X[i]? = some (e : Int)) (hy : (E e).2.1 = y) (hL : L y ≠ 18446744073709551615 ∧ L y ≤ L u + 1) : Dn E X u (i + 1) L := fun j hj e' he' v hv => by
  by_cases c : j < i
  · exact h j c e' he' v hv
  · have c2 : j = i := by omega
    subst c2
    rw [he] at he'
    simp at he'
    have c3 : e = e' := by omega
    subst c3
    have : v = y := by omega
    subst this; exact hL
theorem Dn.up {E : Nat → Int × Int × Int} {X : List Int} {u i y : Nat} {L : Nat → Int} (h : Dn E X u i L) (hu : L u ≠ 18446744073709551615) (hy : L y = 18446744073709551615) (z : Int) : Dn E X u i (up L y z) := fun j hj e he v hv => by
  have h1 := h j hj e he v hv
  rw [up_ne _ _ _ _ (fun k => h1.1 (by rw [k]; exact hy)), up_ne _ _ _ _ (fun k => hu (by rw [k]; exact hy))]
  exact h1
theorem LQ.cells {w0 w : World} {lb n : Nat} {L : Nat → Int} {v : Value} {q : List Nat} (h : LQ w0 w lb n L v q) (hq : 0 < q.length) : ∃ g c, v = .slice (some ⟨g, 0, none⟩) q.length c ∧ ∀ (j x : Nat), q[j]? = some x → w.cell? ⟨g, j, none⟩ = some (.int .u32 (x : Int)) := by
  rcases h.o.2 with ⟨_, h0⟩ | ⟨g, cap, cur, rfl, _⟩
  · omega
  · refine ⟨g, cap, rfl, fun j x hx => ?_⟩
    have := World.ownsRow.cells h.o (g := g) rfl j _ (qu_get hx)
    rwa [addg] at this
theorem LQ.len {w0 w : World} {lb n : Nat} {L : Nat → Int} {v : Value} {q : List Nat} (h : LQ w0 w lb n L v q) : ∃ a c, v = .slice a q.length c := by
  rcases h.o.2 with ⟨h1, h0⟩ | ⟨g, cap, cur, h1, _⟩
  · exact ⟨none, 0, by rw [h1, h0]⟩
  · exact ⟨_, _, h1⟩
/-- Behind a store of a level. -/
theorem LQ.set {w0 w : World} {lb n : Nat} {L : Nat → Int} {v : Value} {q : List Nat} (h : LQ w0 w lb n L v q) (x : Nat) (z : Int) : LQ w0 (w.setCell ⟨lb, x, none⟩ (.int .u64 z)) lb n (up L x z) v q := by
  obtain ⟨h1, C, h2⟩ := h.g.set x z
  refine ⟨h1, ?_, ?_⟩
  · rw [h2]
    refine h.o.kept (grown_row lb C) ?_
    cases e : v.ownBlock with
    | none => exact .inl rfl
    | some g => exact .inr (fun h' => by cases h'; have := (World.ownsRow.lt h.o _ e).1; omega)
  · rw [h2]; exact below_setRow h.b (Nat.le_refl _) _
/-- Behind append to the queue. -/
theorem LQ.push {w0 w w' : World} {lb n : Nat} {L : Nat → Int} {v v' : Value} {q : List Nat} (h : LQ w0 w lb n L v q) (x : Nat) {o : Obj} (hown : w'.ownsRow (lb + 1) 26 1 v' (q.length + 1) (qu q ++ [.int .u32 (x : Int)])) (hg : (w.alloc o).grownBy w' v.ownBlock) : LQ w0 w' lb n L v' (q ++ [x]) := by
  have hlb := h.g.lt
  have hne : some lb ≠ v.ownBlock := fun e => by have := (World.ownsRow.lt h.o _ e.symm).1; omega
  refine ⟨(h.g.on (b1o w o)).of (hg.block lb (by rw [World.size_alloc]; omega) hne), ?_, ?_⟩
  · have : (q ++ [x]).length = q.length + 1 := by simp
    rw [this, qu_app]; exact hown
  · refine (h.b.alloc (by have := h.g.lt; omega) o).grown hg (by rw [World.size_alloc]; omega) (fun k hk => ?_)
    have := (World.ownsRow.lt h.o k hk).1; omega
set_option maxHeartbeats 4000000 in
theorem levels_any (n m c k qb cq : Nat) (a : Option Addr) (E : Nat → Int × Int × Int) (Z : Nat → Nat) (F : Nat → Int) (hn : n ≤ 400) (hm : m ≤ 11728124029610) (hk : k ≤ 1000) (w : World) (hE : ERow w a m E) (hI : EIn n m E) (hZ : Zr w qb n k Z) (hF : Lv n m E (fun v => ∃ j, j < k ∧ Z j = v) F) :
    Calls Try.prog 18 #[.int .u32 (n : Int), .slice (some ⟨qb, 0, none⟩) k cq, .slice a m c] w fun e w' => ∃ lb, e = .returned (.slice (some ⟨lb, 0, none⟩) n n) ∧ w.heap.size ≤ lb ∧ GU w' lb n F ∧ Below w.heap.size w w' := by
  have HE := hide hE
  have HI := hide hI
  have HZ := hide hZ
  have HF := hide hF
  have HOu := hide (outs_any n m c a E (by omega) hm w hE hI)
  clear hE hI hZ hF
  go_enter Try.func18, Try.ntmps18
  go_wp2_with (fail)
  refine HOu.out.mono ?_
  rintro e1 w1 ⟨rfl, ⟨V, X, hOu⟩, hB1⟩
  have HOt := hide hOu.ot
  have HLe := hide hOu.len
  have HB1 := hide hB1
  have HE1 := hide (HE.out.on hB1)
  have HZ1 := hide (HZ.out.on hB1)
  have HNo := hide (none_any n (by omega) w1)
  clear hOu hB1 HOu HE HZ
  go_wp2_with (fail)
  refine HNo.out.mono ?_
  rintro e2 w2 ⟨rfl, hG2, hB2⟩
  have HLQ0 : Hid (LQ w1 w2 w1.heap.size n (fun _ => 18446744073709551615) (.slice none 0 0) []) := ⟨hG2, World.ownsRow_nil _ _ _ _, hB2⟩
  clear hG2 hB2 HNo
  generalize hlb : w1.heap.size = lb at *
  have HLb := hide hlb
  clear hlb
  go_wp2_with (fail)
  go_loopw [9, 10] (fun qv t wr => ∃ (i : Nat) (L : Nat → Int) (q : List Nat), i ≤ k ∧ t = .int .i64 i ∧ Hid (LQ w1 wr lb n L qv q) ∧ Hid (Qs n Z i L q)) (fun _ t _ => k - (intOf t).toNat)
  case atStart => exact ⟨0, _, _, Nat.zero_le _, rfl, HLQ0, Qs.zero n Z⟩
  case round =>
    clear HLQ0
    obtain ⟨i, L, q, hi, rfl, HQ, HS⟩ := hrel
    by_cases cc : i < k
    · have hz := HZ1.out.2 i cc
      have hlq := nd_len n q HS.out.nd HS.out.lt
      have d1 := (HQ.out.b.cell (p := ⟨qb, i, none⟩) (by rw [← HLb.out]; exact HZ1.out.1)).trans hz.1
      have hzn := hz.2
      have HSo := hide (HS.out.old hzn)
      have HSp := hide (HS.out.push hzn)
      obtain ⟨z, hzi⟩ : ∃ z, Z i = z := ⟨_, rfl⟩
      have HZc : Hid (w1.cell? ⟨qb, i, none⟩ = some (.int .u32 (z : Int))) := by rw [← hzi]; exact hz.1
      rw [hzi] at d1 hzn HSo HSp
      have hg := HQ.out.g.cell z hzn
      have hf := HQ.out.g.fz z
      clear hz hzi HS
      by_cases hU : L z = 18446744073709551615
      · have hb : (L z == 18446744073709551615) = true := by simp [hU]
        have HS2 := hide (HSp.out hU)
        have HQ2 := hide (HQ.out.set z 0)
        have d2 := (HQ2.out.b.cell (p := ⟨qb, i, none⟩) (by rw [← HLb.out]; exact HZ1.out.1)).trans HZc.out
        have HO2 := hide HQ2.out.o
        clear hU HSo HSp
        go_wp2_with (first | (refine wpList_appendU rfl _ _ rfl (lb + 1) u9 q.length (qu q) ⟨wr.heap.size, 0, none⟩ 1 (z : Int) rfl (HO2.out.alloc _) rfl (cell_set wr _ _ _ _) (by omega) (by have := HQ2.out.g.lt; rw [World.size_alloc]; omega) ?_; intro v7 w7 hown7 hgr7) | fail)
        have HQ3 := hide (HQ2.out.push z hown7 hgr7)
        exact ⟨⟨i + 1, _, _, cc, by go_num, HQ3, HS2⟩, by simp [intOf]; omega⟩
      · have hb : (L z == 18446744073709551615) = false := by simp [hU]
        have HS2 := hide (HSo.out hU)
        clear hU HSo HSp
        go_wp2
        all_goals exact ⟨⟨i + 1, L, q, cc, by go_num, HQ, HS2⟩, by simp [intOf]; omega⟩
    · have hik : k = i := by omega
      subst hik
      have HV0 : Hid (Qv n m E (fun v => ∃ j, j < k ∧ Z j = v) L q 0) := HS.out.qv
      have HQ0 := HQ
      clear cc hi HS HQ
      go_wp2_with (fail)
      go_loopw [9, 11] (fun qv t wr => ∃ (kk : Nat) (L : Nat → Int) (q : List Nat), kk ≤ q.length ∧ t = .int .i64 kk ∧ Hid (LQ w1 wr lb n L qv q) ∧ Hid (Qv n m E (fun v => ∃ j, j < k ∧ Z j = v) L q kk)) (fun _ t _ => n - (intOf t).toNat)
      case atStart => exact ⟨0, L, q, Nat.zero_le _, rfl, HQ0, HV0⟩
      case round =>
        clear HQ0 HV0
        obtain ⟨kk, L, q, hk', rfl, HQ, HV⟩ := hrel
        have hlq := nd_len n q HV.out.nd HV.out.lt
        by_cases cc : kk < q.length
        · obtain ⟨g, cg, rfl, hcg⟩ := HQ.out.cells (by omega)
          obtain ⟨u, hu⟩ : ∃ u, q[kk]? = some u := ⟨_, List.getElem?_eq_getElem cc⟩
          have hcu := hcg kk u hu
          have hun := HV.out.lt u (get_mem hu)
          have HUq := hide hu
          have hlx : (X u).length ≤ m := HLe.out u hun
          clear hcg hu hk'
          go_wp2_with (fail)
          clear hcu cc hlq
          go_loopw [9, 13] (fun qv t wr => ∃ (i : Nat) (L : Nat → Int) (q : List Nat), i ≤ (X u).length ∧ t = .int .i64 i ∧ Hid (LQ w1 wr lb n L qv q) ∧ Hid (Qv n m E (fun v => ∃ j, j < k ∧ Z j = v) L q kk) ∧ Hid (q[kk]? = some u) ∧ Hid (Dn E (X u) u i L)) (fun _ t _ => (X u).length - (intOf t).toNat)
          case atStart => exact ⟨0, L, q, Nat.zero_le _, rfl, HQ, HV, HUq, fun j hj => by omega⟩
          case round =>
            clear HQ HV HUq
            obtain ⟨i, L, q, hi, rfl, HQ, HV, HUq, HD⟩ := hrel
            have HOr := hide (HOt.out.on (by rw [HLb.out]; exact HQ.out.b))
            have HEr := hide (HE1.out.on (by rw [HLb.out]; exact HQ.out.b))
            obtain ⟨hcv, a', c', hVu, hrow⟩ := HOr.out.2.1 u hun
            rw [hVu] at hcv
            have hlq := nd_len n q HV.out.nd HV.out.lt
            have hkq := (List.getElem?_eq_some_iff.1 HUq.out).1
            have huU : L u ≠ 18446744073709551615 := (HV.out.re u hun).2 (get_mem HUq.out)
            have hup := HV.out.po kk u HUq.out
            clear hVu
            by_cases ci : i < (X u).length
            · obtain ⟨g', rfl, hg', hcx⟩ := hrow (by omega)
              obtain ⟨x, hx⟩ : ∃ x, (X u)[i]? = some x := ⟨_, List.getElem?_eq_getElem ci⟩
              obtain ⟨e, rfl, hem, hes⟩ := HOr.out.2.2.1 u hun x (List.mem_of_getElem? hx)
              have hcell := hcx i _ hx
              obtain ⟨eb, rfl, heb, hce⟩ := HEr.out (by omega)
              obtain ⟨x', y, hx', hy, hxn, hyn⟩ := HI.out e hem
              obtain ⟨_, c2, _⟩ := hce e hem
              rw [hy] at c2
              have HA : Hid (Arc E m u y) := ⟨e, hem, hes, hy⟩
              have HDs := hide (fun L' (h : Dn E (X u) u i L') => Dn.step h hx hy)
              have l1 := HQ.out.g.cell y hyn
              have l2 := HQ.out.g.cell u hun
              have l3 := HQ.out.g.fz y
              have hwl : IntKind.u64.wrap (L u + 1) = L u + 1 := wu _ (by omega) (by omega)
              obtain ⟨lx, hlxe⟩ : ∃ lx, (X u).length = lx := ⟨_, rfl⟩
              have HLx := hide hlxe
              rw [hlxe] at hcv ci hi hlx
              have hem' : (e : Int) < m := by omega
              clear hlxe hrow hcx hx hes hce hx' hy heb hg'
              by_cases hU : L y = 18446744073709551615
              · have hb : (L y == 18446744073709551615) = true := by simp [hU]
                have HV2 := hide (HV.out.push (by omega) u y HUq.out hyn HA.out hU)
                have HD2 := hide (HDs.out _ (HD.out.up huU hU (L u + 1)) ⟨by rw [up_eq]; omega, by rw [up_eq, up_ne _ _ _ _ (fun k => huU (by rw [k]; exact hU))]; exact Int.le_refl _⟩)
                have HU2 : Hid ((q ++ [y])[kk]? = some u) := by show _ = _; rw [List.getElem?_append_left hkq]; exact HUq.out
                have HQ2 := hide (HQ.out.set y (L u + 1))
                have HO2 := hide HQ2.out.o
                clear hU huU hup HD HV HUq HDs
                go_wp2_with (first | (refine wpList_appendU rfl _ _ rfl (lb + 1) u9 q.length (qu q) ⟨wr.heap.size, 0, none⟩ 1 (y : Int) rfl (HO2.out.alloc _) rfl (cell_set wr _ _ _ _) (by omega) (by have := HQ2.out.g.lt; rw [World.size_alloc]; omega) ?_; intro v7 w7 hown7 hgr7) | fail)
                have HQ3 := hide (HQ2.out.push y hown7 hgr7)
                clear hown7 hgr7 HO2 HQ2 HQ
                go_wp2
                go_roundw
                case rel => exact ⟨i + 1, _, _, by rw [HLx.out]; omega, by go_num, HQ3, HV2, HU2, HD2⟩
                case measure => rw [HLx.out]; simp [intOf]; omega
              · have hb : (L y == 18446744073709551615) = false := by simp [hU]
                have hle : L y ≤ L u + 1 := by
                  obtain ⟨j, hj⟩ := List.getElem?_of_mem ((HV.out.re y hyn).1 hU)
                  exact HV.out.hd u y j HUq.out hj
                have HD2 := hide (HDs.out _ HD.out ⟨hU, hle⟩)
                clear hU huU hup hle l2 l3 hwl HD HDs
                go_wp2
                go_roundw
                case rel => exact ⟨i + 1, _, _, by rw [HLx.out]; omega, by go_num, HQ, HV, HUq, HD2⟩
                case measure => rw [HLx.out]; simp [intOf]; omega
            · have hil : i = (X u).length := by omega
              have HV2 : Hid (Qv n m E (fun v => ∃ j, j < k ∧ Z j = v) L q (kk + 1)) := HV.out.next u HUq.out (fun v ⟨j, hj, hju, hjv⟩ => by
                obtain ⟨t, ht⟩ := List.getElem?_of_mem (HOr.out.2.2.2 j hj u hun hju)
                have := (List.getElem?_eq_some_iff.1 ht).1
                exact HD.out t (by omega) j ht v hjv)
              obtain ⟨lx, hlxe⟩ : ∃ lx, (X u).length = lx := ⟨_, rfl⟩
              rw [hlxe] at hcv ci hi hlx hil
              clear hlxe hrow huU hup HD HOr HEr
              subst hil
              go_wp2
              go_roundw
              case rel => exact ⟨kk + 1, L, q, by omega, by go_num, HQ, HV2⟩
              case measure => simp [intOf]; omega
        · have hkq : kk = q.length := by omega
          have HG : Hid (GU wr lb n F) := HQ.out.g.ext (fun v hv => Lv.unique HI.out (Qv.lv (by omega) HI.out (by rw [hkq] at HV; exact HV.out)) HF.out v hv)
          have HB : Hid (Below w.heap.size w wr) := HB1.out.trans (HQ.out.b.mono (by rw [← HLb.out]; exact HB1.out.size))
          have HLs : Hid (w.heap.size ≤ lb) := by show _ ≤ _; rw [← HLb.out]; exact HB1.out.size
          obtain ⟨aq, cq', rfl⟩ := HQ.out.len
          clear HV HQ
          go_wp2
          all_goals go_ret
          all_goals exact ⟨lb, rfl, HLs.out, HG.out, HB.out⟩
end Wp
end Go.Proofs.Ytlhpnhjfibkgpab
