import Derived.Test.YtcepfmeoeepjdaaAxA
namespace Go.Proofs.Ytcepfmeoeepjdaa
namespace Au
open Go.RowKit
set_option linter.unusedVariables false
set_option maxRecDepth 8000
abbrev S17 (ax : Addr) (gb u v : Nat) (s t : Int) (h k : Bool) (w : World) : Prop := w.cell? (ax.add (u * 8)) = some (.int .u64 s) ∧ w.cell? (ax.add (v * 8)) = some (.int .u64 t) ∧ w.cell? ⟨gb, u, none⟩ = some (.bool h) ∧ w.cell? ⟨gb, v, none⟩ = some (.bool k)
/-- One pass of the document's. -/
structure Pd (S : Nat → Nat → Int) (n : Nat) (L pre : List T3) (bk : Bool) (A H : Nat → Bool) (b : Bool) : Prop where
  m1 : Mk S n (L ++ pre) bk H
  le : cn H n ≤ cn A n
  no : b = false → H = A ∧ ∀ e ∈ pre, Cd S bk H e
  ys : b = true → cn H n < cn A n
theorem Pd.begin {S : Nat → Nat → Int} {n : Nat} {L : List T3} {bk : Bool} {A : Nat → Bool} (h1 : Mk S n L bk A) : Pd S n L [] bk A A false :=
  ⟨by rw [List.append_nil]; exact h1, Nat.le_refl _, fun _ => ⟨rfl, fun e he => by cases he⟩, fun h => by cases h⟩
theorem Pd.step {S : Nat → Nat → Int} {n : Nat} {L pre : List T3} {bk : Bool} {A H : Nat → Bool} {b : Bool} (h : Pd S n L pre bk A H b) (e : T3) (hu : (en bk e).1 < n) (hv : (en bk e).2 < n) : Pd S n L (pre ++ [e]) bk A (sp S bk e H) (b || nw S bk e H) := by
  have l1 := cn_le (fun t => sp_mono (S := S) (bk := bk) (e := e) (H := H) t) n
  have l3 := h.le
  refine ⟨by rw [← List.append_assoc]; exact h.m1.sp e hu, by omega, fun hb => ?_, fun hb => ?_⟩
  · simp only [Bool.or_eq_false_iff] at hb
    obtain ⟨hb, hn1⟩ := hb
    obtain ⟨a, c⟩ := h.no hb
    rw [sp_old hn1]
    refine ⟨a, fun x hx => ?_⟩
    rcases List.mem_append.1 hx with hx | hx
    · exact c x hx
    · simp at hx; subst hx; exact cd_old hn1
  · cases hn1 : nw S bk e H with
    | true => have := cn_nw hn1 hv; omega
    | false =>
      rw [hn1] at hb
      simp only [Bool.or_false] at hb
      have := h.ys hb
      omega
theorem Pd.over {S : Nat → Nat → Int} {n : Nat} {L : List T3} {bk : Bool} {A H : Nat → Bool} {b : Bool} (h : Pd S n L L bk A H b) : Mk S n L bk H := by
  have hm : ∀ e ∈ L ++ L, e ∈ L := fun e he => (List.mem_append.1 he).elim (fun x => x) (fun x => x)
  exact ⟨h.m1.1, fun v hv ht => (h.m1.2 v hv ht).mono hm⟩
/-- Truths read back out of the world. -/
def cb' (W : World) (b v : Nat) : Bool := match W.cell? ⟨b, v, none⟩ with | some (.bool x) => x | _ => false
theorem GH.cbw {W : World} {b n : Nat} {H : Nat → Bool} (h : GH W b n H) (v : Nat) (hv : v < n) : cb' W b v = H v := by unfold cb'; rw [h.cell v hv]
theorem GH.cnw {W : World} {b n : Nat} {H : Nat → Bool} (h : GH W b n H) : cn (cb' W b) n = cn H n := cn_ext (fun v hv => h.cbw v hv)
def bg (p : Value) : Nat := match p with | .bool true => 1 | _ => 0
set_option maxHeartbeats 8000000 in
theorem rwithin_any (n ec sc : Nat) (a sa : Option Addr) (bk : Bool) (L : List T3) (S : Nat → Nat → Int) (hn0 : 0 < n) (hn : n ≤ 5000) (hlen : L.length ≤ 140737488351232) (w : World) (hE : Row3 .u32 w a L) (hS : Row8 w sa n S) (hI : ∀ e ∈ L, e.1 < n ∧ e.2.1 < n) :
    Calls Try.prog 84 #[.int .u32 (n : Int), .slice a L.length ec, .slice sa n sc, .bool bk] w fun e w' => ∃ H, e = .returned (.slice (some ⟨w.heap.size, 0, none⟩) n n) ∧ GH w' w.heap.size n H ∧ (∀ v, v < n → (H v = true ↔ Cl S n L bk v)) ∧ Below w.heap.size w w' := by
  have hmk := make_bool w n (by omega)
  have hH0 := GH.new w n
  obtain ⟨w0, hw0⟩ : ∃ w0, w.alloc (.cells (madeCells #[.bool false] n) 4) = w0 := ⟨_, rfl⟩
  rw [hw0] at hmk hH0
  have HB0 : Hid (Below w.heap.size w w0) := by
    show Below _ _ _
    rw [← hw0]; exact b1 _ _ _
  have HH0 : Hid (GH w0 w.heap.size n (fun v => if v < 0 then lab S v else false)) := by
    obtain ⟨Q, q1, q2⟩ := hH0
    exact ⟨Q, q1, fun v hv => by rw [q2 v hv]; simp⟩
  obtain ⟨ax, rfl, hAt⟩ := hS hn0
  have hcv : IntKind.i64.wrap (n : Int) = n := i64w _ (by omega)
  have HAt : Hid (∀ W, Below w.heap.size w W → ∀ u, u < n → W.cell? (ax.add (u * 8)) = some (.int .u64 (S u 0))) := fun W hW u hu => by
    have h := (hAt.k u hu).1
    exact (hW.cell (p := ax.add (u * 8)) (by rw [add_block]; exact hAt.1)).trans h
  have HAx : Hid (ax.block < w.heap.size) := hAt.1
  have HE := hide hE
  have HI := hide hI
  clear hH0 hw0 hS hE hI hAt
  go_enter Try.func84, Try.ntmps84
  go_wp2_with (fail)
  clear hmk
  obtain ⟨gb, hgb⟩ : ∃ gb, gb = w.heap.size := ⟨_, rfl⟩
  have Hgb := hide hgb
  rw [← hgb] at HH0 ⊢
  clear hgb
  go_loopw [10] (fun t wr => ∃ j : Nat, j ≤ n ∧ t = .int .i64 j ∧ Hid (GH wr gb n (fun v => if v < j then lab S v else false)) ∧ Hid (Below w.heap.size w wr)) (fun t _ => n - (intOf t).toNat)
  case atStart => exact ⟨0, Nat.zero_le _, rfl, HH0, HB0⟩
  case round =>
    clear HH0 HB0
    obtain ⟨j, hj, rfl, HH, HB⟩ := hrel
    by_cases cc : j < n
    · have hcc : (j : Int) < (n : Int) := by omega
      have hju : IntKind.u64.wrap (j : Int) = j := wu _ (by omega) (by omega)
      have q0 := HAt.out wr HB.out j cc
      have hc := HH.out.cell j cc
      have hf := HH.out.fz j
      obtain ⟨Q, hQ⟩ : ∃ Q, wr.setCell ⟨gb, j, none⟩ (.bool (S j 0 == (j : Int))) = wr.setRow gb Q := (HH.out.set j _).2
      have HH1 : Hid (GH (wr.setCell ⟨gb, j, none⟩ (.bool (S j 0 == (j : Int)))) gb n (fun v => if v < j + 1 then lab S v else false)) := by
        obtain ⟨Q, q1, q2⟩ := (HH.out.set j (S j 0 == (j : Int))).1
        refine ⟨Q, q1, fun v hv => ?_⟩
        rw [q2 v hv]
        dsimp only
        by_cases e : v = j
        · subst e; rw [if_pos rfl, if_pos (by omega)]; rfl
        · rw [if_neg e]
          by_cases e2 : v < j
          · rw [if_pos e2, if_pos (by omega)]
          · rw [if_neg e2, if_neg (by omega)]
      have HB1 : Hid (Below w.heap.size w (wr.setCell ⟨gb, j, none⟩ (.bool (S j 0 == (j : Int))))) := by
        show Below _ _ _
        rw [hQ]; exact below_setRow HB.out (by rw [Hgb.out]; omega) _
      clear HH HB hQ
      go_wp2
      all_goals exact ⟨⟨j + 1, cc, by go_num, HH1, HB1⟩, by simp [intOf]; omega⟩
    · have hjn : n = j := by omega
      subst hjn
      have HH2 : Hid (GH wr gb n (lab S)) := by
        obtain ⟨Q, q1, q2⟩ := HH.out
        exact ⟨Q, q1, fun v hv => by rw [q2 v hv]; dsimp only; rw [if_pos hv]⟩
      clear HH
      have HB2 := HB
      clear HB
      go_wp2_with (fail)
      go_loopw [11] (fun p wr => ∃ (H : Nat → Bool) (b : Bool), p = .bool b ∧ Hid (GH wr gb n H) ∧ Hid (Mk S n L bk H ∧ (b = false → ∀ e ∈ L, Cd S bk H e)) ∧ Hid (Below w.heap.size w wr)) (fun p wr => 2 * cn (cb' wr gb) n + bg p)
      case atStart => exact ⟨lab S, true, rfl, HH2, ⟨Mk.begin _, fun h => by cases h⟩, HB2⟩
      case round =>
        clear HH2 HB2
        obtain ⟨A, b, rfl, HH, HM, HB⟩ := hrel
        cases b with
        | true =>
          have HMe := hide HH.out.cnw
          obtain ⟨W0, hW0⟩ : ∃ W0, W0 = wr := ⟨_, rfl⟩
          have HP0 : Hid (Pd S n L (L.take 0) bk A A false) := Pd.begin HM.out.1
          subst hW0
          go_wp2_with (fail)
          go_loopw [12, 11] (fun t p wr => ∃ (i : Nat) (H : Nat → Bool) (b : Bool), i ≤ L.length ∧ t = .int .i64 i ∧ p = .bool b ∧ Hid (GH wr gb n H) ∧ Hid (Pd S n L (L.take i) bk A H b) ∧ Hid (Below w.heap.size w wr)) (fun t _ _ => L.length - (intOf t).toNat)
          case atStart => exact ⟨0, A, false, Nat.zero_le _, rfl, rfl, HH, HP0, HB⟩
          case round =>
            clear HH HP0 HB
            obtain ⟨i, H, b, hi, rfl, rfl, HH, HP, HB⟩ := hrel
            by_cases ci : i < L.length
            · have hci : (i : Int) < (L.length : Int) := by omega
              obtain ⟨eb, rfl, heb, hce⟩ := HE.out (by omega)
              obtain ⟨⟨x, y, z⟩, hxyz⟩ : ∃ e, L[i]? = some e := ⟨L[i]'(by omega), List.getElem?_eq_getElem (by omega)⟩
              obtain ⟨hxn, hyn⟩ := HI.out _ (List.mem_of_getElem? hxyz)
              simp only at hxn hyn
              obtain ⟨c1, c2, _⟩ := cells3 (hce i _ hxyz)
              simp only at c1 c2
              have d1 : wr.cell? (eb.add (i * 3)) = some (.int .u32 (x : Int)) := (HB.out.cell (p := eb.add (i * 3)) (by rw [add_block]; exact heb)).trans c1
              have d2 : wr.cell? ⟨(eb.add (i * 3)).block, (eb.add (i * 3)).off + 1, none⟩ = some (.int .u32 (y : Int)) := (HB.out.cell (p := ⟨(eb.add (i * 3)).block, (eb.add (i * 3)).off + 1, none⟩) (by rw [show (⟨(eb.add (i * 3)).block, (eb.add (i * 3)).off + 1, none⟩ : Addr).block = eb.block from add_block _ _]; exact heb)).trans c2
              have hun : (en bk (x, y, z)).1 < n := by unfold en; split <;> assumption
              have hvn : (en bk (x, y, z)).2 < n := by unfold en; split <;> assumption
              have hPs : Pd S n L (L.take (i + 1)) bk A (sp S bk (x, y, z) H) (b || nw S bk (x, y, z) H) := by rw [take_succ hxyz]; exact HP.out.step _ hun hvn
              obtain ⟨u, hu⟩ : ∃ u, (en bk (x, y, z)).1 = u := ⟨_, rfl⟩
              obtain ⟨v, hv⟩ : ∃ v, (en bk (x, y, z)).2 = v := ⟨_, rfl⟩
              rw [hu] at hun
              rw [hv] at hvn
              have HS7 : Hid (S17 ax gb u v (S u 0) (S v 0) (H u) (H v) wr.drew) := ⟨HAt.out wr HB.out u hun, HAt.out wr HB.out v hvn, HH.out.cell u hun, HH.out.cell v hvn⟩
              have HNw : Hid (nw S bk (x, y, z) H = (S u 0 == S v 0 && H u && !H v)) := by
                show _ = _
                unfold nw; rw [hu, hv]
              have HPs := hide hPs
              have HOld : Hid (nw S bk (x, y, z) H = false → Pd S n L (L.take (i + 1)) bk A H b) := fun hh => by
                have h9 := hPs
                rw [sp_old hh, hh, Bool.or_false] at h9
                exact h9
              have cv : wr.drew.cell? ⟨gb, v, none⟩ = some (.bool (H v)) := HH.out.cell v hvn
              have fv : wr.drew.frozen? ⟨gb, v, none⟩ = false := HH.out.fz v
              have HNew : Hid (nw S bk (x, y, z) H = true → GH (wr.drew.setCell ⟨gb, v, none⟩ (.bool true)) gb n (sp S bk (x, y, z) H) ∧ Pd S n L (L.take (i + 1)) bk A (sp S bk (x, y, z) H) true ∧ Below w.heap.size w (wr.drew.setCell ⟨gb, v, none⟩ (.bool true))) := fun hh => by
                have hG : GH wr.drew gb n H := HH.out.of rfl
                obtain ⟨⟨Q, q1, q2⟩, Q', q3⟩ := hG.set v true
                refine ⟨⟨Q, q1, fun t ht => ?_⟩, ?_, ?_⟩
                · rw [q2 t ht, sp_new hh, hv]
                  by_cases e : t = v
                  · subst e; simp
                  · simp [e]
                · have h9 := hPs
                  rw [hh, Bool.or_true] at h9
                  exact h9
                · rw [q3]; exact below_setRow (belowD HB.out) (by rw [Hgb.out]; omega) _
              have HHd : Hid (GH wr.drew gb n H ∧ Below w.heap.size w wr.drew) := ⟨HH.out.of rfl, belowD HB.out⟩
              have huv : bk = true ∧ u = y ∧ v = x ∨ bk = false ∧ u = x ∧ v = y := by
                cases bk with
                | true => exact .inl ⟨rfl, hu.symm, hv.symm⟩
                | false => exact .inr ⟨rfl, hu.symm, hv.symm⟩
              clear c1 c2 hce heb hxyz hi hPs HH HP HB hu hv
              rcases huv with ⟨rfl, rfl, rfl⟩ | ⟨rfl, rfl, rfl⟩
              · skip
                cases he : (S u 0 == S v 0) with
                | false =>
                  have HO9 := hide (HOld.out (by rw [HNw.out, he]; rfl))
                  clear HNew HOld HNw HPs
                  go_wp2_with (fail)
                  refine wp_region_held_drew (S := (S17 ax gb u v (S u 0) (S v 0) (H u) (H v))) (by kernel_rfl) ?_ (fun hHeld => ?_)
                  · exact HS7.out
                  refine wpAnyH_take (i := 0) (oi := ({ dst := some 62, op := Go.Op.move (Go.Operand.tmp 2), type := 23, pos := "ref.go:368", after := #[], guard := none } : Oper)) (v := ?_) rfl (by kernel_rfl) (by kernel_rfl) (by kernel_rfl) (fun _ _ _ h => h) (Or.inl ⟨by rfl, ?_⟩) (by assumption) ?_
                  rotate_left 1
                  · (intro w hSw; (try dsimp only at hSw); go_simp; (try with_reducible rfl))
                  try simp only [Act.put, List.setIfInBounds_toArray, List.set_cons_zero, List.set_cons_succ]
                  refine wpAnyH_take (i := 1) (oi := ({ dst := some 63, op := Go.Op.move (Go.Operand.tmp 13), type := 22, pos := "ref.go:368", after := #[], guard := none } : Oper)) (v := ?_) rfl (by kernel_rfl) (by kernel_rfl) (by kernel_rfl) (fun _ _ _ h => h) (Or.inl ⟨by rfl, ?_⟩) (by assumption) ?_
                  rotate_left 1
                  · (intro w hSw; (try dsimp only at hSw); go_simp; (try with_reducible rfl))
                  try simp only [Act.put, List.setIfInBounds_toArray, List.set_cons_zero, List.set_cons_succ]
                  refine wpAnyH_take (i := 2) (oi := ({ dst := some 64, op := Go.Op.indexAddr 23 (Go.Operand.tmp 62) (Go.Operand.tmp 63), type := 0, pos := "ref.go:368", after := #[{ on := 0, ground := Go.Ground.data }, { on := 1, ground := Go.Ground.data }], guard := none } : Oper)) (v := ?_) rfl (by kernel_rfl) (by kernel_rfl) (by kernel_rfl) (fun _ _ _ h => h) (Or.inl ⟨by rfl, ?_⟩) (by assumption) ?_
                  rotate_left 1
                  · (intro w hSw; (try dsimp only at hSw); go_simp; (try with_reducible rfl))
                  try simp only [Act.put, List.setIfInBounds_toArray, List.set_cons_zero, List.set_cons_succ]
                  refine wpAnyH_take (i := 3) (oi := ({ dst := some 65, op := Go.Op.indexAddr 63 (Go.Operand.tmp 64) (Go.Operand.const (Go.Value.int Go.IntKind.i64 0)), type := 0, pos := "ref.go:368", after := #[{ on := 2, ground := Go.Ground.data }], guard := none } : Oper)) (v := ?_) rfl (by kernel_rfl) (by kernel_rfl) (by kernel_rfl) (fun _ _ _ h => h) (Or.inl ⟨by rfl, ?_⟩) (by assumption) ?_
                  rotate_left 1
                  · (intro w hSw; (try dsimp only at hSw); go_simp; (try with_reducible rfl))
                  try simp only [Act.put, List.setIfInBounds_toArray, List.set_cons_zero, List.set_cons_succ]
                  refine wpAnyH_take (i := 4) (oi := ({ dst := some 66, op := Go.Op.load 28 (Go.Operand.tmp 65), type := 28, pos := "ref.go:368", after := #[{ on := 3, ground := Go.Ground.data }], guard := none } : Oper)) (v := ?_) rfl (by kernel_rfl) (by kernel_rfl) (by kernel_rfl) (fun _ _ _ h => h) (Or.inl ⟨by rfl, ?_⟩) (by assumption) ?_
                  rotate_left 1
                  · (intro w hSw; (try dsimp only at hSw); go_simp; (try with_reducible rfl))
                  try simp only [Act.put, List.setIfInBounds_toArray, List.set_cons_zero, List.set_cons_succ]
                  refine wpAnyH_take (i := 5) (oi := ({ dst := some 67, op := Go.Op.move (Go.Operand.tmp 2), type := 23, pos := "ref.go:368", after := #[], guard := none } : Oper)) (v := ?_) rfl (by kernel_rfl) (by kernel_rfl) (by kernel_rfl) (fun _ _ _ h => h) (Or.inl ⟨by rfl, ?_⟩) (by assumption) ?_
                  rotate_left 1
                  · (intro w hSw; (try dsimp only at hSw); go_simp; (try with_reducible rfl))
                  try simp only [Act.put, List.setIfInBounds_toArray, List.set_cons_zero, List.set_cons_succ]
                  refine wpAnyH_take (i := 6) (oi := ({ dst := some 68, op := Go.Op.move (Go.Operand.tmp 14), type := 22, pos := "ref.go:368", after := #[], guard := none } : Oper)) (v := ?_) rfl (by kernel_rfl) (by kernel_rfl) (by kernel_rfl) (fun _ _ _ h => h) (Or.inl ⟨by rfl, ?_⟩) (by assumption) ?_
                  rotate_left 1
                  · (intro w hSw; (try dsimp only at hSw); go_simp; (try with_reducible rfl))
                  try simp only [Act.put, List.setIfInBounds_toArray, List.set_cons_zero, List.set_cons_succ]
                  refine wpAnyH_take (i := 7) (oi := ({ dst := some 69, op := Go.Op.indexAddr 23 (Go.Operand.tmp 67) (Go.Operand.tmp 68), type := 0, pos := "ref.go:368", after := #[{ on := 5, ground := Go.Ground.data }, { on := 6, ground := Go.Ground.data }], guard := none } : Oper)) (v := ?_) rfl (by kernel_rfl) (by kernel_rfl) (by kernel_rfl) (fun _ _ _ h => h) (Or.inl ⟨by rfl, ?_⟩) (by assumption) ?_
                  rotate_left 1
                  · (intro w hSw; (try dsimp only at hSw); go_simp; (try with_reducible rfl))
                  try simp only [Act.put, List.setIfInBounds_toArray, List.set_cons_zero, List.set_cons_succ]
                  refine wpAnyH_take (i := 8) (oi := ({ dst := some 70, op := Go.Op.indexAddr 63 (Go.Operand.tmp 69) (Go.Operand.const (Go.Value.int Go.IntKind.i64 0)), type := 0, pos := "ref.go:368", after := #[{ on := 7, ground := Go.Ground.data }], guard := none } : Oper)) (v := ?_) rfl (by kernel_rfl) (by kernel_rfl) (by kernel_rfl) (fun _ _ _ h => h) (Or.inl ⟨by rfl, ?_⟩) (by assumption) ?_
                  rotate_left 1
                  · (intro w hSw; (try dsimp only at hSw); go_simp; (try with_reducible rfl))
                  try simp only [Act.put, List.setIfInBounds_toArray, List.set_cons_zero, List.set_cons_succ]
                  refine wpAnyH_take (i := 9) (oi := ({ dst := some 71, op := Go.Op.load 28 (Go.Operand.tmp 70), type := 28, pos := "ref.go:368", after := #[{ on := 8, ground := Go.Ground.data }], guard := none } : Oper)) (v := ?_) rfl (by kernel_rfl) (by kernel_rfl) (by kernel_rfl) (fun _ _ _ h => h) (Or.inl ⟨by rfl, ?_⟩) (by assumption) ?_
                  rotate_left 1
                  · (intro w hSw; (try dsimp only at hSw); go_simp; (try with_reducible rfl))
                  try simp only [Act.put, List.setIfInBounds_toArray, List.set_cons_zero, List.set_cons_succ]
                  refine wpAnyH_take (i := 10) (oi := ({ dst := some 72, op := Go.Op.binOp Go.BinOp.eql 28 (Go.Operand.tmp 66) (Go.Operand.tmp 71) 28, type := 4, pos := "ref.go:368", after := #[{ on := 4, ground := Go.Ground.data }, { on := 9, ground := Go.Ground.data }], guard := none } : Oper)) (v := ?_) rfl (by kernel_rfl) (by kernel_rfl) (by kernel_rfl) (fun _ _ _ h => h) (Or.inl ⟨by rfl, ?_⟩) (by assumption) ?_
                  rotate_left 1
                  · (intro w hSw; (try dsimp only at hSw); go_simp; (try with_reducible rfl))
                  try simp only [Act.put, List.setIfInBounds_toArray, List.set_cons_zero, List.set_cons_succ]
                  refine wpAnyH_take (i := 11) (oi := ({ dst := some 73, op := Go.Op.move (Go.Operand.tmp 72), type := 4, pos := "ref.go:368", after := #[{ on := 10, ground := Go.Ground.data }], guard := none } : Oper)) (v := ?_) rfl (by kernel_rfl) (by kernel_rfl) (by kernel_rfl) (fun _ _ _ h => h) (Or.inl ⟨by rfl, ?_⟩) (by assumption) ?_
                  rotate_left 1
                  · (intro w hSw; (try dsimp only at hSw); go_simp; (try with_reducible rfl))
                  try simp only [Act.put, List.setIfInBounds_toArray, List.set_cons_zero, List.set_cons_succ]
                  refine wpAnyH_take (i := 12) (oi := ({ dst := some 74, op := Go.Op.move (Go.Operand.tmp 9), type := 92, pos := "ref.go:368", after := #[{ on := 11, ground := Go.Ground.guard }], guard := some (11, true) } : Oper)) (v := undef) rfl (by kernel_rfl) (by kernel_rfl) (by kernel_rfl) (fun _ _ _ h => h) (Or.inr ⟨by rfl, rfl⟩) (by assumption) ?_
                  try simp only [Act.put, List.setIfInBounds_toArray, List.set_cons_zero, List.set_cons_succ]
                  refine wpAnyH_take (i := 13) (oi := ({ dst := some 75, op := Go.Op.move (Go.Operand.tmp 13), type := 22, pos := "ref.go:368", after := #[{ on := 11, ground := Go.Ground.guard }], guard := some (11, true) } : Oper)) (v := undef) rfl (by kernel_rfl) (by kernel_rfl) (by kernel_rfl) (fun _ _ _ h => h) (Or.inr ⟨by rfl, rfl⟩) (by assumption) ?_
                  try simp only [Act.put, List.setIfInBounds_toArray, List.set_cons_zero, List.set_cons_succ]
                  refine wpAnyH_take (i := 14) (oi := ({ dst := some 76, op := Go.Op.indexAddr 92 (Go.Operand.tmp 74) (Go.Operand.tmp 75), type := 0, pos := "ref.go:368", after := #[{ on := 12, ground := Go.Ground.data }, { on := 13, ground := Go.Ground.data }, { on := 11, ground := Go.Ground.guard }], guard := some (11, true) } : Oper)) (v := undef) rfl (by kernel_rfl) (by kernel_rfl) (by kernel_rfl) (fun _ _ _ h => h) (Or.inr ⟨by rfl, rfl⟩) (by assumption) ?_
                  try simp only [Act.put, List.setIfInBounds_toArray, List.set_cons_zero, List.set_cons_succ]
                  refine wpAnyH_take (i := 15) (oi := ({ dst := some 77, op := Go.Op.load 4 (Go.Operand.tmp 76), type := 4, pos := "ref.go:368", after := #[{ on := 14, ground := Go.Ground.data }, { on := 11, ground := Go.Ground.guard }], guard := some (11, true) } : Oper)) (v := undef) rfl (by kernel_rfl) (by kernel_rfl) (by kernel_rfl) (fun _ _ _ h => h) (Or.inr ⟨by rfl, rfl⟩) (by assumption) ?_
                  try simp only [Act.put, List.setIfInBounds_toArray, List.set_cons_zero, List.set_cons_succ]
                  refine wpAnyH_take (i := 16) (oi := ({ dst := some 78, op := Go.Op.pick (Go.Operand.tmp 73) (Go.Operand.tmp 77) (Go.Operand.const (Go.Value.bool false)), type := 4, pos := "ref.go:368", after := #[{ on := 11, ground := Go.Ground.data }, { on := 15, ground := Go.Ground.data }], guard := none } : Oper)) (v := ?_) rfl (by kernel_rfl) (by kernel_rfl) (by kernel_rfl) (fun _ _ _ h => h) (Or.inl ⟨by rfl, ?_⟩) (by assumption) ?_
                  rotate_left 1
                  · (intro w hSw; (try dsimp only at hSw); go_simp; (try with_reducible rfl))
                  try simp only [Act.put, List.setIfInBounds_toArray, List.set_cons_zero, List.set_cons_succ]
                  refine wpAnyH_take (i := 17) (oi := ({ dst := some 79, op := Go.Op.move (Go.Operand.tmp 78), type := 4, pos := "ref.go:368", after := #[{ on := 16, ground := Go.Ground.data }, { on := 11, ground := Go.Ground.chain }], guard := none } : Oper)) (v := ?_) rfl (by kernel_rfl) (by kernel_rfl) (by kernel_rfl) (fun _ _ _ h => h) (Or.inl ⟨by rfl, ?_⟩) (by assumption) ?_
                  rotate_left 1
                  · (intro w hSw; (try dsimp only at hSw); go_simp; (try with_reducible rfl))
                  try simp only [Act.put, List.setIfInBounds_toArray, List.set_cons_zero, List.set_cons_succ]
                  refine wpAnyH_take (i := 18) (oi := ({ dst := some 80, op := Go.Op.move (Go.Operand.tmp 9), type := 92, pos := "ref.go:368", after := #[{ on := 17, ground := Go.Ground.guard }], guard := some (17, true) } : Oper)) (v := undef) rfl (by kernel_rfl) (by kernel_rfl) (by kernel_rfl) (fun _ _ _ h => h) (Or.inr ⟨by rfl, rfl⟩) (by assumption) ?_
                  try simp only [Act.put, List.setIfInBounds_toArray, List.set_cons_zero, List.set_cons_succ]
                  refine wpAnyH_take (i := 19) (oi := ({ dst := some 81, op := Go.Op.move (Go.Operand.tmp 14), type := 22, pos := "ref.go:368", after := #[{ on := 17, ground := Go.Ground.guard }], guard := some (17, true) } : Oper)) (v := undef) rfl (by kernel_rfl) (by kernel_rfl) (by kernel_rfl) (fun _ _ _ h => h) (Or.inr ⟨by rfl, rfl⟩) (by assumption) ?_
                  try simp only [Act.put, List.setIfInBounds_toArray, List.set_cons_zero, List.set_cons_succ]
                  refine wpAnyH_take (i := 20) (oi := ({ dst := some 82, op := Go.Op.indexAddr 92 (Go.Operand.tmp 80) (Go.Operand.tmp 81), type := 0, pos := "ref.go:368", after := #[{ on := 18, ground := Go.Ground.data }, { on := 19, ground := Go.Ground.data }, { on := 17, ground := Go.Ground.guard }], guard := some (17, true) } : Oper)) (v := undef) rfl (by kernel_rfl) (by kernel_rfl) (by kernel_rfl) (fun _ _ _ h => h) (Or.inr ⟨by rfl, rfl⟩) (by assumption) ?_
                  try simp only [Act.put, List.setIfInBounds_toArray, List.set_cons_zero, List.set_cons_succ]
                  refine wpAnyH_take (i := 21) (oi := ({ dst := some 83, op := Go.Op.load 4 (Go.Operand.tmp 82), type := 4, pos := "ref.go:368", after := #[{ on := 20, ground := Go.Ground.data }, { on := 17, ground := Go.Ground.guard }], guard := some (17, true) } : Oper)) (v := undef) rfl (by kernel_rfl) (by kernel_rfl) (by kernel_rfl) (fun _ _ _ h => h) (Or.inr ⟨by rfl, rfl⟩) (by assumption) ?_
                  try simp only [Act.put, List.setIfInBounds_toArray, List.set_cons_zero, List.set_cons_succ]
                  refine wpAnyH_take (i := 22) (oi := ({ dst := some 84, op := Go.Op.unOp Go.UnOp.not 4 (Go.Operand.tmp 83), type := 4, pos := "ref.go:368", after := #[{ on := 21, ground := Go.Ground.data }, { on := 17, ground := Go.Ground.guard }], guard := some (17, true) } : Oper)) (v := undef) rfl (by kernel_rfl) (by kernel_rfl) (by kernel_rfl) (fun _ _ _ h => h) (Or.inr ⟨by rfl, rfl⟩) (by assumption) ?_
                  try simp only [Act.put, List.setIfInBounds_toArray, List.set_cons_zero, List.set_cons_succ]
                  refine wpAnyH_take (i := 23) (oi := ({ dst := some 85, op := Go.Op.pick (Go.Operand.tmp 79) (Go.Operand.tmp 84) (Go.Operand.const (Go.Value.bool false)), type := 4, pos := "ref.go:368", after := #[{ on := 17, ground := Go.Ground.data }, { on := 22, ground := Go.Ground.data }], guard := none } : Oper)) (v := ?_) rfl (by kernel_rfl) (by kernel_rfl) (by kernel_rfl) (fun _ _ _ h => h) (Or.inl ⟨by rfl, ?_⟩) (by assumption) ?_
                  rotate_left 1
                  · (intro w hSw; (try dsimp only at hSw); go_simp; (try with_reducible rfl))
                  try simp only [Act.put, List.setIfInBounds_toArray, List.set_cons_zero, List.set_cons_succ]
                  refine wpAnyH_done (by kernel_rfl) ?_ _
                  go_wp2
                  all_goals exact ⟨⟨i + 1, H, b, ci, by go_num, rfl, HHd.out.1, HO9, HHd.out.2⟩, by simp [intOf]; omega⟩
                | true =>
                  cases hHu : H u with
                  | false =>
                    rw [hHu] at HS7
                    have HO9 := hide (HOld.out (by rw [HNw.out, he, hHu]; rfl))
                    clear HNew HOld HNw HPs
                    go_wp2_with (fail)
                    refine wp_region_held_drew (S := (S17 ax gb u v (S u 0) (S v 0) false (H v))) (by kernel_rfl) ?_ (fun hHeld => ?_)
                    · exact HS7.out
                    refine wpAnyH_take (i := 0) (oi := ({ dst := some 62, op := Go.Op.move (Go.Operand.tmp 2), type := 23, pos := "ref.go:368", after := #[], guard := none } : Oper)) (v := ?_) rfl (by kernel_rfl) (by kernel_rfl) (by kernel_rfl) (fun _ _ _ h => h) (Or.inl ⟨by rfl, ?_⟩) (by assumption) ?_
                    rotate_left 1
                    · (intro w hSw; (try dsimp only at hSw); go_simp; (try with_reducible rfl))
                    try simp only [Act.put, List.setIfInBounds_toArray, List.set_cons_zero, List.set_cons_succ]
                    refine wpAnyH_take (i := 1) (oi := ({ dst := some 63, op := Go.Op.move (Go.Operand.tmp 13), type := 22, pos := "ref.go:368", after := #[], guard := none } : Oper)) (v := ?_) rfl (by kernel_rfl) (by kernel_rfl) (by kernel_rfl) (fun _ _ _ h => h) (Or.inl ⟨by rfl, ?_⟩) (by assumption) ?_
                    rotate_left 1
                    · (intro w hSw; (try dsimp only at hSw); go_simp; (try with_reducible rfl))
                    try simp only [Act.put, List.setIfInBounds_toArray, List.set_cons_zero, List.set_cons_succ]
                    refine wpAnyH_take (i := 2) (oi := ({ dst := some 64, op := Go.Op.indexAddr 23 (Go.Operand.tmp 62) (Go.Operand.tmp 63), type := 0, pos := "ref.go:368", after := #[{ on := 0, ground := Go.Ground.data }, { on := 1, ground := Go.Ground.data }], guard := none } : Oper)) (v := ?_) rfl (by kernel_rfl) (by kernel_rfl) (by kernel_rfl) (fun _ _ _ h => h) (Or.inl ⟨by rfl, ?_⟩) (by assumption) ?_
                    rotate_left 1
                    · (intro w hSw; (try dsimp only at hSw); go_simp; (try with_reducible rfl))
                    try simp only [Act.put, List.setIfInBounds_toArray, List.set_cons_zero, List.set_cons_succ]
                    refine wpAnyH_take (i := 3) (oi := ({ dst := some 65, op := Go.Op.indexAddr 63 (Go.Operand.tmp 64) (Go.Operand.const (Go.Value.int Go.IntKind.i64 0)), type := 0, pos := "ref.go:368", after := #[{ on := 2, ground := Go.Ground.data }], guard := none } : Oper)) (v := ?_) rfl (by kernel_rfl) (by kernel_rfl) (by kernel_rfl) (fun _ _ _ h => h) (Or.inl ⟨by rfl, ?_⟩) (by assumption) ?_
                    rotate_left 1
                    · (intro w hSw; (try dsimp only at hSw); go_simp; (try with_reducible rfl))
                    try simp only [Act.put, List.setIfInBounds_toArray, List.set_cons_zero, List.set_cons_succ]
                    refine wpAnyH_take (i := 4) (oi := ({ dst := some 66, op := Go.Op.load 28 (Go.Operand.tmp 65), type := 28, pos := "ref.go:368", after := #[{ on := 3, ground := Go.Ground.data }], guard := none } : Oper)) (v := ?_) rfl (by kernel_rfl) (by kernel_rfl) (by kernel_rfl) (fun _ _ _ h => h) (Or.inl ⟨by rfl, ?_⟩) (by assumption) ?_
                    rotate_left 1
                    · (intro w hSw; (try dsimp only at hSw); go_simp; (try with_reducible rfl))
                    try simp only [Act.put, List.setIfInBounds_toArray, List.set_cons_zero, List.set_cons_succ]
                    refine wpAnyH_take (i := 5) (oi := ({ dst := some 67, op := Go.Op.move (Go.Operand.tmp 2), type := 23, pos := "ref.go:368", after := #[], guard := none } : Oper)) (v := ?_) rfl (by kernel_rfl) (by kernel_rfl) (by kernel_rfl) (fun _ _ _ h => h) (Or.inl ⟨by rfl, ?_⟩) (by assumption) ?_
                    rotate_left 1
                    · (intro w hSw; (try dsimp only at hSw); go_simp; (try with_reducible rfl))
                    try simp only [Act.put, List.setIfInBounds_toArray, List.set_cons_zero, List.set_cons_succ]
                    refine wpAnyH_take (i := 6) (oi := ({ dst := some 68, op := Go.Op.move (Go.Operand.tmp 14), type := 22, pos := "ref.go:368", after := #[], guard := none } : Oper)) (v := ?_) rfl (by kernel_rfl) (by kernel_rfl) (by kernel_rfl) (fun _ _ _ h => h) (Or.inl ⟨by rfl, ?_⟩) (by assumption) ?_
                    rotate_left 1
                    · (intro w hSw; (try dsimp only at hSw); go_simp; (try with_reducible rfl))
                    try simp only [Act.put, List.setIfInBounds_toArray, List.set_cons_zero, List.set_cons_succ]
                    refine wpAnyH_take (i := 7) (oi := ({ dst := some 69, op := Go.Op.indexAddr 23 (Go.Operand.tmp 67) (Go.Operand.tmp 68), type := 0, pos := "ref.go:368", after := #[{ on := 5, ground := Go.Ground.data }, { on := 6, ground := Go.Ground.data }], guard := none } : Oper)) (v := ?_) rfl (by kernel_rfl) (by kernel_rfl) (by kernel_rfl) (fun _ _ _ h => h) (Or.inl ⟨by rfl, ?_⟩) (by assumption) ?_
                    rotate_left 1
                    · (intro w hSw; (try dsimp only at hSw); go_simp; (try with_reducible rfl))
                    try simp only [Act.put, List.setIfInBounds_toArray, List.set_cons_zero, List.set_cons_succ]
                    refine wpAnyH_take (i := 8) (oi := ({ dst := some 70, op := Go.Op.indexAddr 63 (Go.Operand.tmp 69) (Go.Operand.const (Go.Value.int Go.IntKind.i64 0)), type := 0, pos := "ref.go:368", after := #[{ on := 7, ground := Go.Ground.data }], guard := none } : Oper)) (v := ?_) rfl (by kernel_rfl) (by kernel_rfl) (by kernel_rfl) (fun _ _ _ h => h) (Or.inl ⟨by rfl, ?_⟩) (by assumption) ?_
                    rotate_left 1
                    · (intro w hSw; (try dsimp only at hSw); go_simp; (try with_reducible rfl))
                    try simp only [Act.put, List.setIfInBounds_toArray, List.set_cons_zero, List.set_cons_succ]
                    refine wpAnyH_take (i := 9) (oi := ({ dst := some 71, op := Go.Op.load 28 (Go.Operand.tmp 70), type := 28, pos := "ref.go:368", after := #[{ on := 8, ground := Go.Ground.data }], guard := none } : Oper)) (v := ?_) rfl (by kernel_rfl) (by kernel_rfl) (by kernel_rfl) (fun _ _ _ h => h) (Or.inl ⟨by rfl, ?_⟩) (by assumption) ?_
                    rotate_left 1
                    · (intro w hSw; (try dsimp only at hSw); go_simp; (try with_reducible rfl))
                    try simp only [Act.put, List.setIfInBounds_toArray, List.set_cons_zero, List.set_cons_succ]
                    refine wpAnyH_take (i := 10) (oi := ({ dst := some 72, op := Go.Op.binOp Go.BinOp.eql 28 (Go.Operand.tmp 66) (Go.Operand.tmp 71) 28, type := 4, pos := "ref.go:368", after := #[{ on := 4, ground := Go.Ground.data }, { on := 9, ground := Go.Ground.data }], guard := none } : Oper)) (v := ?_) rfl (by kernel_rfl) (by kernel_rfl) (by kernel_rfl) (fun _ _ _ h => h) (Or.inl ⟨by rfl, ?_⟩) (by assumption) ?_
                    rotate_left 1
                    · (intro w hSw; (try dsimp only at hSw); go_simp; (try with_reducible rfl))
                    try simp only [Act.put, List.setIfInBounds_toArray, List.set_cons_zero, List.set_cons_succ]
                    refine wpAnyH_take (i := 11) (oi := ({ dst := some 73, op := Go.Op.move (Go.Operand.tmp 72), type := 4, pos := "ref.go:368", after := #[{ on := 10, ground := Go.Ground.data }], guard := none } : Oper)) (v := ?_) rfl (by kernel_rfl) (by kernel_rfl) (by kernel_rfl) (fun _ _ _ h => h) (Or.inl ⟨by rfl, ?_⟩) (by assumption) ?_
                    rotate_left 1
                    · (intro w hSw; (try dsimp only at hSw); go_simp; (try with_reducible rfl))
                    try simp only [Act.put, List.setIfInBounds_toArray, List.set_cons_zero, List.set_cons_succ]
                    refine wpAnyH_take (i := 12) (oi := ({ dst := some 74, op := Go.Op.move (Go.Operand.tmp 9), type := 92, pos := "ref.go:368", after := #[{ on := 11, ground := Go.Ground.guard }], guard := some (11, true) } : Oper)) (v := ?_) rfl (by kernel_rfl) (by kernel_rfl) (by kernel_rfl) (fun _ _ _ h => h) (Or.inl ⟨by rfl, ?_⟩) (by assumption) ?_
                    rotate_left 1
                    · (intro w hSw; (try dsimp only at hSw); go_simp; (try with_reducible rfl))
                    try simp only [Act.put, List.setIfInBounds_toArray, List.set_cons_zero, List.set_cons_succ]
                    refine wpAnyH_take (i := 13) (oi := ({ dst := some 75, op := Go.Op.move (Go.Operand.tmp 13), type := 22, pos := "ref.go:368", after := #[{ on := 11, ground := Go.Ground.guard }], guard := some (11, true) } : Oper)) (v := ?_) rfl (by kernel_rfl) (by kernel_rfl) (by kernel_rfl) (fun _ _ _ h => h) (Or.inl ⟨by rfl, ?_⟩) (by assumption) ?_
                    rotate_left 1
                    · (intro w hSw; (try dsimp only at hSw); go_simp; (try with_reducible rfl))
                    try simp only [Act.put, List.setIfInBounds_toArray, List.set_cons_zero, List.set_cons_succ]
                    refine wpAnyH_take (i := 14) (oi := ({ dst := some 76, op := Go.Op.indexAddr 92 (Go.Operand.tmp 74) (Go.Operand.tmp 75), type := 0, pos := "ref.go:368", after := #[{ on := 12, ground := Go.Ground.data }, { on := 13, ground := Go.Ground.data }, { on := 11, ground := Go.Ground.guard }], guard := some (11, true) } : Oper)) (v := ?_) rfl (by kernel_rfl) (by kernel_rfl) (by kernel_rfl) (fun _ _ _ h => h) (Or.inl ⟨by rfl, ?_⟩) (by assumption) ?_
                    rotate_left 1
                    · (intro w hSw; (try dsimp only at hSw); go_simp; (try with_reducible rfl))
                    try simp only [Act.put, List.setIfInBounds_toArray, List.set_cons_zero, List.set_cons_succ]
                    refine wpAnyH_take (i := 15) (oi := ({ dst := some 77, op := Go.Op.load 4 (Go.Operand.tmp 76), type := 4, pos := "ref.go:368", after := #[{ on := 14, ground := Go.Ground.data }, { on := 11, ground := Go.Ground.guard }], guard := some (11, true) } : Oper)) (v := ?_) rfl (by kernel_rfl) (by kernel_rfl) (by kernel_rfl) (fun _ _ _ h => h) (Or.inl ⟨by rfl, ?_⟩) (by assumption) ?_
                    rotate_left 1
                    · (intro w hSw; (try dsimp only at hSw); go_simp; (try with_reducible rfl))
                    try simp only [Act.put, List.setIfInBounds_toArray, List.set_cons_zero, List.set_cons_succ]
                    refine wpAnyH_take (i := 16) (oi := ({ dst := some 78, op := Go.Op.pick (Go.Operand.tmp 73) (Go.Operand.tmp 77) (Go.Operand.const (Go.Value.bool false)), type := 4, pos := "ref.go:368", after := #[{ on := 11, ground := Go.Ground.data }, { on := 15, ground := Go.Ground.data }], guard := none } : Oper)) (v := ?_) rfl (by kernel_rfl) (by kernel_rfl) (by kernel_rfl) (fun _ _ _ h => h) (Or.inl ⟨by rfl, ?_⟩) (by assumption) ?_
                    rotate_left 1
                    · (intro w hSw; (try dsimp only at hSw); go_simp; (try with_reducible rfl))
                    try simp only [Act.put, List.setIfInBounds_toArray, List.set_cons_zero, List.set_cons_succ]
                    refine wpAnyH_take (i := 17) (oi := ({ dst := some 79, op := Go.Op.move (Go.Operand.tmp 78), type := 4, pos := "ref.go:368", after := #[{ on := 16, ground := Go.Ground.data }, { on := 11, ground := Go.Ground.chain }], guard := none } : Oper)) (v := ?_) rfl (by kernel_rfl) (by kernel_rfl) (by kernel_rfl) (fun _ _ _ h => h) (Or.inl ⟨by rfl, ?_⟩) (by assumption) ?_
                    rotate_left 1
                    · (intro w hSw; (try dsimp only at hSw); go_simp; (try with_reducible rfl))
                    try simp only [Act.put, List.setIfInBounds_toArray, List.set_cons_zero, List.set_cons_succ]
                    refine wpAnyH_take (i := 18) (oi := ({ dst := some 80, op := Go.Op.move (Go.Operand.tmp 9), type := 92, pos := "ref.go:368", after := #[{ on := 17, ground := Go.Ground.guard }], guard := some (17, true) } : Oper)) (v := undef) rfl (by kernel_rfl) (by kernel_rfl) (by kernel_rfl) (fun _ _ _ h => h) (Or.inr ⟨by rfl, rfl⟩) (by assumption) ?_
                    try simp only [Act.put, List.setIfInBounds_toArray, List.set_cons_zero, List.set_cons_succ]
                    refine wpAnyH_take (i := 19) (oi := ({ dst := some 81, op := Go.Op.move (Go.Operand.tmp 14), type := 22, pos := "ref.go:368", after := #[{ on := 17, ground := Go.Ground.guard }], guard := some (17, true) } : Oper)) (v := undef) rfl (by kernel_rfl) (by kernel_rfl) (by kernel_rfl) (fun _ _ _ h => h) (Or.inr ⟨by rfl, rfl⟩) (by assumption) ?_
                    try simp only [Act.put, List.setIfInBounds_toArray, List.set_cons_zero, List.set_cons_succ]
                    refine wpAnyH_take (i := 20) (oi := ({ dst := some 82, op := Go.Op.indexAddr 92 (Go.Operand.tmp 80) (Go.Operand.tmp 81), type := 0, pos := "ref.go:368", after := #[{ on := 18, ground := Go.Ground.data }, { on := 19, ground := Go.Ground.data }, { on := 17, ground := Go.Ground.guard }], guard := some (17, true) } : Oper)) (v := undef) rfl (by kernel_rfl) (by kernel_rfl) (by kernel_rfl) (fun _ _ _ h => h) (Or.inr ⟨by rfl, rfl⟩) (by assumption) ?_
                    try simp only [Act.put, List.setIfInBounds_toArray, List.set_cons_zero, List.set_cons_succ]
                    refine wpAnyH_take (i := 21) (oi := ({ dst := some 83, op := Go.Op.load 4 (Go.Operand.tmp 82), type := 4, pos := "ref.go:368", after := #[{ on := 20, ground := Go.Ground.data }, { on := 17, ground := Go.Ground.guard }], guard := some (17, true) } : Oper)) (v := undef) rfl (by kernel_rfl) (by kernel_rfl) (by kernel_rfl) (fun _ _ _ h => h) (Or.inr ⟨by rfl, rfl⟩) (by assumption) ?_
                    try simp only [Act.put, List.setIfInBounds_toArray, List.set_cons_zero, List.set_cons_succ]
                    refine wpAnyH_take (i := 22) (oi := ({ dst := some 84, op := Go.Op.unOp Go.UnOp.not 4 (Go.Operand.tmp 83), type := 4, pos := "ref.go:368", after := #[{ on := 21, ground := Go.Ground.data }, { on := 17, ground := Go.Ground.guard }], guard := some (17, true) } : Oper)) (v := undef) rfl (by kernel_rfl) (by kernel_rfl) (by kernel_rfl) (fun _ _ _ h => h) (Or.inr ⟨by rfl, rfl⟩) (by assumption) ?_
                    try simp only [Act.put, List.setIfInBounds_toArray, List.set_cons_zero, List.set_cons_succ]
                    refine wpAnyH_take (i := 23) (oi := ({ dst := some 85, op := Go.Op.pick (Go.Operand.tmp 79) (Go.Operand.tmp 84) (Go.Operand.const (Go.Value.bool false)), type := 4, pos := "ref.go:368", after := #[{ on := 17, ground := Go.Ground.data }, { on := 22, ground := Go.Ground.data }], guard := none } : Oper)) (v := ?_) rfl (by kernel_rfl) (by kernel_rfl) (by kernel_rfl) (fun _ _ _ h => h) (Or.inl ⟨by rfl, ?_⟩) (by assumption) ?_
                    rotate_left 1
                    · (intro w hSw; (try dsimp only at hSw); go_simp; (try with_reducible rfl))
                    try simp only [Act.put, List.setIfInBounds_toArray, List.set_cons_zero, List.set_cons_succ]
                    refine wpAnyH_done (by kernel_rfl) ?_ _
                    go_wp2
                    all_goals exact ⟨⟨i + 1, H, b, ci, by go_num, rfl, HHd.out.1, HO9, HHd.out.2⟩, by simp [intOf]; omega⟩
                  | true =>
                    cases hHv : H v with
                    | true =>
                      rw [hHu, hHv] at HS7
                      have HO9 := hide (HOld.out (by rw [HNw.out, he, hHu, hHv]; rfl))
                      clear HNew HOld HNw HPs
                      go_wp2_with (fail)
                      go_region_held3 (S17 ax gb u v (S u 0) (S v 0) true true) ((with_reducible exact HS7.out)) ((fail))
                      go_wp2
                      all_goals exact ⟨⟨i + 1, H, b, ci, by go_num, rfl, HHd.out.1, HO9, HHd.out.2⟩, by simp [intOf]; omega⟩
                    | false =>
                      rw [hHu, hHv] at HS7
                      rw [hHv] at cv
                      have HN9 := hide (HNew.out (by rw [HNw.out, he, hHu, hHv]; rfl))
                      clear HNew HOld HNw HPs
                      go_wp2_with (fail)
                      go_region_held3 (S17 ax gb u v (S u 0) (S v 0) true false) ((with_reducible exact HS7.out)) ((fail))
                      go_wp2
                      all_goals exact ⟨⟨i + 1, _, true, ci, by go_num, rfl, HN9.out.1, HN9.out.2.1, HN9.out.2.2⟩, by simp [intOf]; omega⟩
              · skip
                cases he : (S u 0 == S v 0) with
                | false =>
                  have HO9 := hide (HOld.out (by rw [HNw.out, he]; rfl))
                  clear HNew HOld HNw HPs
                  go_wp2_with (fail)
                  refine wp_region_held_drew (S := (S17 ax gb u v (S u 0) (S v 0) (H u) (H v))) (by kernel_rfl) ?_ (fun hHeld => ?_)
                  · exact HS7.out
                  refine wpAnyH_take (i := 0) (oi := ({ dst := some 62, op := Go.Op.move (Go.Operand.tmp 2), type := 23, pos := "ref.go:368", after := #[], guard := none } : Oper)) (v := ?_) rfl (by kernel_rfl) (by kernel_rfl) (by kernel_rfl) (fun _ _ _ h => h) (Or.inl ⟨by rfl, ?_⟩) (by assumption) ?_
                  rotate_left 1
                  · (intro w hSw; (try dsimp only at hSw); go_simp; (try with_reducible rfl))
                  try simp only [Act.put, List.setIfInBounds_toArray, List.set_cons_zero, List.set_cons_succ]
                  refine wpAnyH_take (i := 1) (oi := ({ dst := some 63, op := Go.Op.move (Go.Operand.tmp 13), type := 22, pos := "ref.go:368", after := #[], guard := none } : Oper)) (v := ?_) rfl (by kernel_rfl) (by kernel_rfl) (by kernel_rfl) (fun _ _ _ h => h) (Or.inl ⟨by rfl, ?_⟩) (by assumption) ?_
                  rotate_left 1
                  · (intro w hSw; (try dsimp only at hSw); go_simp; (try with_reducible rfl))
                  try simp only [Act.put, List.setIfInBounds_toArray, List.set_cons_zero, List.set_cons_succ]
                  refine wpAnyH_take (i := 2) (oi := ({ dst := some 64, op := Go.Op.indexAddr 23 (Go.Operand.tmp 62) (Go.Operand.tmp 63), type := 0, pos := "ref.go:368", after := #[{ on := 0, ground := Go.Ground.data }, { on := 1, ground := Go.Ground.data }], guard := none } : Oper)) (v := ?_) rfl (by kernel_rfl) (by kernel_rfl) (by kernel_rfl) (fun _ _ _ h => h) (Or.inl ⟨by rfl, ?_⟩) (by assumption) ?_
                  rotate_left 1
                  · (intro w hSw; (try dsimp only at hSw); go_simp; (try with_reducible rfl))
                  try simp only [Act.put, List.setIfInBounds_toArray, List.set_cons_zero, List.set_cons_succ]
                  refine wpAnyH_take (i := 3) (oi := ({ dst := some 65, op := Go.Op.indexAddr 63 (Go.Operand.tmp 64) (Go.Operand.const (Go.Value.int Go.IntKind.i64 0)), type := 0, pos := "ref.go:368", after := #[{ on := 2, ground := Go.Ground.data }], guard := none } : Oper)) (v := ?_) rfl (by kernel_rfl) (by kernel_rfl) (by kernel_rfl) (fun _ _ _ h => h) (Or.inl ⟨by rfl, ?_⟩) (by assumption) ?_
                  rotate_left 1
                  · (intro w hSw; (try dsimp only at hSw); go_simp; (try with_reducible rfl))
                  try simp only [Act.put, List.setIfInBounds_toArray, List.set_cons_zero, List.set_cons_succ]
                  refine wpAnyH_take (i := 4) (oi := ({ dst := some 66, op := Go.Op.load 28 (Go.Operand.tmp 65), type := 28, pos := "ref.go:368", after := #[{ on := 3, ground := Go.Ground.data }], guard := none } : Oper)) (v := ?_) rfl (by kernel_rfl) (by kernel_rfl) (by kernel_rfl) (fun _ _ _ h => h) (Or.inl ⟨by rfl, ?_⟩) (by assumption) ?_
                  rotate_left 1
                  · (intro w hSw; (try dsimp only at hSw); go_simp; (try with_reducible rfl))
                  try simp only [Act.put, List.setIfInBounds_toArray, List.set_cons_zero, List.set_cons_succ]
                  refine wpAnyH_take (i := 5) (oi := ({ dst := some 67, op := Go.Op.move (Go.Operand.tmp 2), type := 23, pos := "ref.go:368", after := #[], guard := none } : Oper)) (v := ?_) rfl (by kernel_rfl) (by kernel_rfl) (by kernel_rfl) (fun _ _ _ h => h) (Or.inl ⟨by rfl, ?_⟩) (by assumption) ?_
                  rotate_left 1
                  · (intro w hSw; (try dsimp only at hSw); go_simp; (try with_reducible rfl))
                  try simp only [Act.put, List.setIfInBounds_toArray, List.set_cons_zero, List.set_cons_succ]
                  refine wpAnyH_take (i := 6) (oi := ({ dst := some 68, op := Go.Op.move (Go.Operand.tmp 14), type := 22, pos := "ref.go:368", after := #[], guard := none } : Oper)) (v := ?_) rfl (by kernel_rfl) (by kernel_rfl) (by kernel_rfl) (fun _ _ _ h => h) (Or.inl ⟨by rfl, ?_⟩) (by assumption) ?_
                  rotate_left 1
                  · (intro w hSw; (try dsimp only at hSw); go_simp; (try with_reducible rfl))
                  try simp only [Act.put, List.setIfInBounds_toArray, List.set_cons_zero, List.set_cons_succ]
                  refine wpAnyH_take (i := 7) (oi := ({ dst := some 69, op := Go.Op.indexAddr 23 (Go.Operand.tmp 67) (Go.Operand.tmp 68), type := 0, pos := "ref.go:368", after := #[{ on := 5, ground := Go.Ground.data }, { on := 6, ground := Go.Ground.data }], guard := none } : Oper)) (v := ?_) rfl (by kernel_rfl) (by kernel_rfl) (by kernel_rfl) (fun _ _ _ h => h) (Or.inl ⟨by rfl, ?_⟩) (by assumption) ?_
                  rotate_left 1
                  · (intro w hSw; (try dsimp only at hSw); go_simp; (try with_reducible rfl))
                  try simp only [Act.put, List.setIfInBounds_toArray, List.set_cons_zero, List.set_cons_succ]
                  refine wpAnyH_take (i := 8) (oi := ({ dst := some 70, op := Go.Op.indexAddr 63 (Go.Operand.tmp 69) (Go.Operand.const (Go.Value.int Go.IntKind.i64 0)), type := 0, pos := "ref.go:368", after := #[{ on := 7, ground := Go.Ground.data }], guard := none } : Oper)) (v := ?_) rfl (by kernel_rfl) (by kernel_rfl) (by kernel_rfl) (fun _ _ _ h => h) (Or.inl ⟨by rfl, ?_⟩) (by assumption) ?_
                  rotate_left 1
                  · (intro w hSw; (try dsimp only at hSw); go_simp; (try with_reducible rfl))
                  try simp only [Act.put, List.setIfInBounds_toArray, List.set_cons_zero, List.set_cons_succ]
                  refine wpAnyH_take (i := 9) (oi := ({ dst := some 71, op := Go.Op.load 28 (Go.Operand.tmp 70), type := 28, pos := "ref.go:368", after := #[{ on := 8, ground := Go.Ground.data }], guard := none } : Oper)) (v := ?_) rfl (by kernel_rfl) (by kernel_rfl) (by kernel_rfl) (fun _ _ _ h => h) (Or.inl ⟨by rfl, ?_⟩) (by assumption) ?_
                  rotate_left 1
                  · (intro w hSw; (try dsimp only at hSw); go_simp; (try with_reducible rfl))
                  try simp only [Act.put, List.setIfInBounds_toArray, List.set_cons_zero, List.set_cons_succ]
                  refine wpAnyH_take (i := 10) (oi := ({ dst := some 72, op := Go.Op.binOp Go.BinOp.eql 28 (Go.Operand.tmp 66) (Go.Operand.tmp 71) 28, type := 4, pos := "ref.go:368", after := #[{ on := 4, ground := Go.Ground.data }, { on := 9, ground := Go.Ground.data }], guard := none } : Oper)) (v := ?_) rfl (by kernel_rfl) (by kernel_rfl) (by kernel_rfl) (fun _ _ _ h => h) (Or.inl ⟨by rfl, ?_⟩) (by assumption) ?_
                  rotate_left 1
                  · (intro w hSw; (try dsimp only at hSw); go_simp; (try with_reducible rfl))
                  try simp only [Act.put, List.setIfInBounds_toArray, List.set_cons_zero, List.set_cons_succ]
                  refine wpAnyH_take (i := 11) (oi := ({ dst := some 73, op := Go.Op.move (Go.Operand.tmp 72), type := 4, pos := "ref.go:368", after := #[{ on := 10, ground := Go.Ground.data }], guard := none } : Oper)) (v := ?_) rfl (by kernel_rfl) (by kernel_rfl) (by kernel_rfl) (fun _ _ _ h => h) (Or.inl ⟨by rfl, ?_⟩) (by assumption) ?_
                  rotate_left 1
                  · (intro w hSw; (try dsimp only at hSw); go_simp; (try with_reducible rfl))
                  try simp only [Act.put, List.setIfInBounds_toArray, List.set_cons_zero, List.set_cons_succ]
                  refine wpAnyH_take (i := 12) (oi := ({ dst := some 74, op := Go.Op.move (Go.Operand.tmp 9), type := 92, pos := "ref.go:368", after := #[{ on := 11, ground := Go.Ground.guard }], guard := some (11, true) } : Oper)) (v := undef) rfl (by kernel_rfl) (by kernel_rfl) (by kernel_rfl) (fun _ _ _ h => h) (Or.inr ⟨by rfl, rfl⟩) (by assumption) ?_
                  try simp only [Act.put, List.setIfInBounds_toArray, List.set_cons_zero, List.set_cons_succ]
                  refine wpAnyH_take (i := 13) (oi := ({ dst := some 75, op := Go.Op.move (Go.Operand.tmp 13), type := 22, pos := "ref.go:368", after := #[{ on := 11, ground := Go.Ground.guard }], guard := some (11, true) } : Oper)) (v := undef) rfl (by kernel_rfl) (by kernel_rfl) (by kernel_rfl) (fun _ _ _ h => h) (Or.inr ⟨by rfl, rfl⟩) (by assumption) ?_
                  try simp only [Act.put, List.setIfInBounds_toArray, List.set_cons_zero, List.set_cons_succ]
                  refine wpAnyH_take (i := 14) (oi := ({ dst := some 76, op := Go.Op.indexAddr 92 (Go.Operand.tmp 74) (Go.Operand.tmp 75), type := 0, pos := "ref.go:368", after := #[{ on := 12, ground := Go.Ground.data }, { on := 13, ground := Go.Ground.data }, { on := 11, ground := Go.Ground.guard }], guard := some (11, true) } : Oper)) (v := undef) rfl (by kernel_rfl) (by kernel_rfl) (by kernel_rfl) (fun _ _ _ h => h) (Or.inr ⟨by rfl, rfl⟩) (by assumption) ?_
                  try simp only [Act.put, List.setIfInBounds_toArray, List.set_cons_zero, List.set_cons_succ]
                  refine wpAnyH_take (i := 15) (oi := ({ dst := some 77, op := Go.Op.load 4 (Go.Operand.tmp 76), type := 4, pos := "ref.go:368", after := #[{ on := 14, ground := Go.Ground.data }, { on := 11, ground := Go.Ground.guard }], guard := some (11, true) } : Oper)) (v := undef) rfl (by kernel_rfl) (by kernel_rfl) (by kernel_rfl) (fun _ _ _ h => h) (Or.inr ⟨by rfl, rfl⟩) (by assumption) ?_
                  try simp only [Act.put, List.setIfInBounds_toArray, List.set_cons_zero, List.set_cons_succ]
                  refine wpAnyH_take (i := 16) (oi := ({ dst := some 78, op := Go.Op.pick (Go.Operand.tmp 73) (Go.Operand.tmp 77) (Go.Operand.const (Go.Value.bool false)), type := 4, pos := "ref.go:368", after := #[{ on := 11, ground := Go.Ground.data }, { on := 15, ground := Go.Ground.data }], guard := none } : Oper)) (v := ?_) rfl (by kernel_rfl) (by kernel_rfl) (by kernel_rfl) (fun _ _ _ h => h) (Or.inl ⟨by rfl, ?_⟩) (by assumption) ?_
                  rotate_left 1
                  · (intro w hSw; (try dsimp only at hSw); go_simp; (try with_reducible rfl))
                  try simp only [Act.put, List.setIfInBounds_toArray, List.set_cons_zero, List.set_cons_succ]
                  refine wpAnyH_take (i := 17) (oi := ({ dst := some 79, op := Go.Op.move (Go.Operand.tmp 78), type := 4, pos := "ref.go:368", after := #[{ on := 16, ground := Go.Ground.data }, { on := 11, ground := Go.Ground.chain }], guard := none } : Oper)) (v := ?_) rfl (by kernel_rfl) (by kernel_rfl) (by kernel_rfl) (fun _ _ _ h => h) (Or.inl ⟨by rfl, ?_⟩) (by assumption) ?_
                  rotate_left 1
                  · (intro w hSw; (try dsimp only at hSw); go_simp; (try with_reducible rfl))
                  try simp only [Act.put, List.setIfInBounds_toArray, List.set_cons_zero, List.set_cons_succ]
                  refine wpAnyH_take (i := 18) (oi := ({ dst := some 80, op := Go.Op.move (Go.Operand.tmp 9), type := 92, pos := "ref.go:368", after := #[{ on := 17, ground := Go.Ground.guard }], guard := some (17, true) } : Oper)) (v := undef) rfl (by kernel_rfl) (by kernel_rfl) (by kernel_rfl) (fun _ _ _ h => h) (Or.inr ⟨by rfl, rfl⟩) (by assumption) ?_
                  try simp only [Act.put, List.setIfInBounds_toArray, List.set_cons_zero, List.set_cons_succ]
                  refine wpAnyH_take (i := 19) (oi := ({ dst := some 81, op := Go.Op.move (Go.Operand.tmp 14), type := 22, pos := "ref.go:368", after := #[{ on := 17, ground := Go.Ground.guard }], guard := some (17, true) } : Oper)) (v := undef) rfl (by kernel_rfl) (by kernel_rfl) (by kernel_rfl) (fun _ _ _ h => h) (Or.inr ⟨by rfl, rfl⟩) (by assumption) ?_
                  try simp only [Act.put, List.setIfInBounds_toArray, List.set_cons_zero, List.set_cons_succ]
                  refine wpAnyH_take (i := 20) (oi := ({ dst := some 82, op := Go.Op.indexAddr 92 (Go.Operand.tmp 80) (Go.Operand.tmp 81), type := 0, pos := "ref.go:368", after := #[{ on := 18, ground := Go.Ground.data }, { on := 19, ground := Go.Ground.data }, { on := 17, ground := Go.Ground.guard }], guard := some (17, true) } : Oper)) (v := undef) rfl (by kernel_rfl) (by kernel_rfl) (by kernel_rfl) (fun _ _ _ h => h) (Or.inr ⟨by rfl, rfl⟩) (by assumption) ?_
                  try simp only [Act.put, List.setIfInBounds_toArray, List.set_cons_zero, List.set_cons_succ]
                  refine wpAnyH_take (i := 21) (oi := ({ dst := some 83, op := Go.Op.load 4 (Go.Operand.tmp 82), type := 4, pos := "ref.go:368", after := #[{ on := 20, ground := Go.Ground.data }, { on := 17, ground := Go.Ground.guard }], guard := some (17, true) } : Oper)) (v := undef) rfl (by kernel_rfl) (by kernel_rfl) (by kernel_rfl) (fun _ _ _ h => h) (Or.inr ⟨by rfl, rfl⟩) (by assumption) ?_
                  try simp only [Act.put, List.setIfInBounds_toArray, List.set_cons_zero, List.set_cons_succ]
                  refine wpAnyH_take (i := 22) (oi := ({ dst := some 84, op := Go.Op.unOp Go.UnOp.not 4 (Go.Operand.tmp 83), type := 4, pos := "ref.go:368", after := #[{ on := 21, ground := Go.Ground.data }, { on := 17, ground := Go.Ground.guard }], guard := some (17, true) } : Oper)) (v := undef) rfl (by kernel_rfl) (by kernel_rfl) (by kernel_rfl) (fun _ _ _ h => h) (Or.inr ⟨by rfl, rfl⟩) (by assumption) ?_
                  try simp only [Act.put, List.setIfInBounds_toArray, List.set_cons_zero, List.set_cons_succ]
                  refine wpAnyH_take (i := 23) (oi := ({ dst := some 85, op := Go.Op.pick (Go.Operand.tmp 79) (Go.Operand.tmp 84) (Go.Operand.const (Go.Value.bool false)), type := 4, pos := "ref.go:368", after := #[{ on := 17, ground := Go.Ground.data }, { on := 22, ground := Go.Ground.data }], guard := none } : Oper)) (v := ?_) rfl (by kernel_rfl) (by kernel_rfl) (by kernel_rfl) (fun _ _ _ h => h) (Or.inl ⟨by rfl, ?_⟩) (by assumption) ?_
                  rotate_left 1
                  · (intro w hSw; (try dsimp only at hSw); go_simp; (try with_reducible rfl))
                  try simp only [Act.put, List.setIfInBounds_toArray, List.set_cons_zero, List.set_cons_succ]
                  refine wpAnyH_done (by kernel_rfl) ?_ _
                  go_wp2
                  all_goals exact ⟨⟨i + 1, H, b, ci, by go_num, rfl, HHd.out.1, HO9, HHd.out.2⟩, by simp [intOf]; omega⟩
                | true =>
                  cases hHu : H u with
                  | false =>
                    rw [hHu] at HS7
                    have HO9 := hide (HOld.out (by rw [HNw.out, he, hHu]; rfl))
                    clear HNew HOld HNw HPs
                    go_wp2_with (fail)
                    refine wp_region_held_drew (S := (S17 ax gb u v (S u 0) (S v 0) false (H v))) (by kernel_rfl) ?_ (fun hHeld => ?_)
                    · exact HS7.out
                    refine wpAnyH_take (i := 0) (oi := ({ dst := some 62, op := Go.Op.move (Go.Operand.tmp 2), type := 23, pos := "ref.go:368", after := #[], guard := none } : Oper)) (v := ?_) rfl (by kernel_rfl) (by kernel_rfl) (by kernel_rfl) (fun _ _ _ h => h) (Or.inl ⟨by rfl, ?_⟩) (by assumption) ?_
                    rotate_left 1
                    · (intro w hSw; (try dsimp only at hSw); go_simp; (try with_reducible rfl))
                    try simp only [Act.put, List.setIfInBounds_toArray, List.set_cons_zero, List.set_cons_succ]
                    refine wpAnyH_take (i := 1) (oi := ({ dst := some 63, op := Go.Op.move (Go.Operand.tmp 13), type := 22, pos := "ref.go:368", after := #[], guard := none } : Oper)) (v := ?_) rfl (by kernel_rfl) (by kernel_rfl) (by kernel_rfl) (fun _ _ _ h => h) (Or.inl ⟨by rfl, ?_⟩) (by assumption) ?_
                    rotate_left 1
                    · (intro w hSw; (try dsimp only at hSw); go_simp; (try with_reducible rfl))
                    try simp only [Act.put, List.setIfInBounds_toArray, List.set_cons_zero, List.set_cons_succ]
                    refine wpAnyH_take (i := 2) (oi := ({ dst := some 64, op := Go.Op.indexAddr 23 (Go.Operand.tmp 62) (Go.Operand.tmp 63), type := 0, pos := "ref.go:368", after := #[{ on := 0, ground := Go.Ground.data }, { on := 1, ground := Go.Ground.data }], guard := none } : Oper)) (v := ?_) rfl (by kernel_rfl) (by kernel_rfl) (by kernel_rfl) (fun _ _ _ h => h) (Or.inl ⟨by rfl, ?_⟩) (by assumption) ?_
                    rotate_left 1
                    · (intro w hSw; (try dsimp only at hSw); go_simp; (try with_reducible rfl))
                    try simp only [Act.put, List.setIfInBounds_toArray, List.set_cons_zero, List.set_cons_succ]
                    refine wpAnyH_take (i := 3) (oi := ({ dst := some 65, op := Go.Op.indexAddr 63 (Go.Operand.tmp 64) (Go.Operand.const (Go.Value.int Go.IntKind.i64 0)), type := 0, pos := "ref.go:368", after := #[{ on := 2, ground := Go.Ground.data }], guard := none } : Oper)) (v := ?_) rfl (by kernel_rfl) (by kernel_rfl) (by kernel_rfl) (fun _ _ _ h => h) (Or.inl ⟨by rfl, ?_⟩) (by assumption) ?_
                    rotate_left 1
                    · (intro w hSw; (try dsimp only at hSw); go_simp; (try with_reducible rfl))
                    try simp only [Act.put, List.setIfInBounds_toArray, List.set_cons_zero, List.set_cons_succ]
                    refine wpAnyH_take (i := 4) (oi := ({ dst := some 66, op := Go.Op.load 28 (Go.Operand.tmp 65), type := 28, pos := "ref.go:368", after := #[{ on := 3, ground := Go.Ground.data }], guard := none } : Oper)) (v := ?_) rfl (by kernel_rfl) (by kernel_rfl) (by kernel_rfl) (fun _ _ _ h => h) (Or.inl ⟨by rfl, ?_⟩) (by assumption) ?_
                    rotate_left 1
                    · (intro w hSw; (try dsimp only at hSw); go_simp; (try with_reducible rfl))
                    try simp only [Act.put, List.setIfInBounds_toArray, List.set_cons_zero, List.set_cons_succ]
                    refine wpAnyH_take (i := 5) (oi := ({ dst := some 67, op := Go.Op.move (Go.Operand.tmp 2), type := 23, pos := "ref.go:368", after := #[], guard := none } : Oper)) (v := ?_) rfl (by kernel_rfl) (by kernel_rfl) (by kernel_rfl) (fun _ _ _ h => h) (Or.inl ⟨by rfl, ?_⟩) (by assumption) ?_
                    rotate_left 1
                    · (intro w hSw; (try dsimp only at hSw); go_simp; (try with_reducible rfl))
                    try simp only [Act.put, List.setIfInBounds_toArray, List.set_cons_zero, List.set_cons_succ]
                    refine wpAnyH_take (i := 6) (oi := ({ dst := some 68, op := Go.Op.move (Go.Operand.tmp 14), type := 22, pos := "ref.go:368", after := #[], guard := none } : Oper)) (v := ?_) rfl (by kernel_rfl) (by kernel_rfl) (by kernel_rfl) (fun _ _ _ h => h) (Or.inl ⟨by rfl, ?_⟩) (by assumption) ?_
                    rotate_left 1
                    · (intro w hSw; (try dsimp only at hSw); go_simp; (try with_reducible rfl))
                    try simp only [Act.put, List.setIfInBounds_toArray, List.set_cons_zero, List.set_cons_succ]
                    refine wpAnyH_take (i := 7) (oi := ({ dst := some 69, op := Go.Op.indexAddr 23 (Go.Operand.tmp 67) (Go.Operand.tmp 68), type := 0, pos := "ref.go:368", after := #[{ on := 5, ground := Go.Ground.data }, { on := 6, ground := Go.Ground.data }], guard := none } : Oper)) (v := ?_) rfl (by kernel_rfl) (by kernel_rfl) (by kernel_rfl) (fun _ _ _ h => h) (Or.inl ⟨by rfl, ?_⟩) (by assumption) ?_
                    rotate_left 1
                    · (intro w hSw; (try dsimp only at hSw); go_simp; (try with_reducible rfl))
                    try simp only [Act.put, List.setIfInBounds_toArray, List.set_cons_zero, List.set_cons_succ]
                    refine wpAnyH_take (i := 8) (oi := ({ dst := some 70, op := Go.Op.indexAddr 63 (Go.Operand.tmp 69) (Go.Operand.const (Go.Value.int Go.IntKind.i64 0)), type := 0, pos := "ref.go:368", after := #[{ on := 7, ground := Go.Ground.data }], guard := none } : Oper)) (v := ?_) rfl (by kernel_rfl) (by kernel_rfl) (by kernel_rfl) (fun _ _ _ h => h) (Or.inl ⟨by rfl, ?_⟩) (by assumption) ?_
                    rotate_left 1
                    · (intro w hSw; (try dsimp only at hSw); go_simp; (try with_reducible rfl))
                    try simp only [Act.put, List.setIfInBounds_toArray, List.set_cons_zero, List.set_cons_succ]
                    refine wpAnyH_take (i := 9) (oi := ({ dst := some 71, op := Go.Op.load 28 (Go.Operand.tmp 70), type := 28, pos := "ref.go:368", after := #[{ on := 8, ground := Go.Ground.data }], guard := none } : Oper)) (v := ?_) rfl (by kernel_rfl) (by kernel_rfl) (by kernel_rfl) (fun _ _ _ h => h) (Or.inl ⟨by rfl, ?_⟩) (by assumption) ?_
                    rotate_left 1
                    · (intro w hSw; (try dsimp only at hSw); go_simp; (try with_reducible rfl))
                    try simp only [Act.put, List.setIfInBounds_toArray, List.set_cons_zero, List.set_cons_succ]
                    refine wpAnyH_take (i := 10) (oi := ({ dst := some 72, op := Go.Op.binOp Go.BinOp.eql 28 (Go.Operand.tmp 66) (Go.Operand.tmp 71) 28, type := 4, pos := "ref.go:368", after := #[{ on := 4, ground := Go.Ground.data }, { on := 9, ground := Go.Ground.data }], guard := none } : Oper)) (v := ?_) rfl (by kernel_rfl) (by kernel_rfl) (by kernel_rfl) (fun _ _ _ h => h) (Or.inl ⟨by rfl, ?_⟩) (by assumption) ?_
                    rotate_left 1
                    · (intro w hSw; (try dsimp only at hSw); go_simp; (try with_reducible rfl))
                    try simp only [Act.put, List.setIfInBounds_toArray, List.set_cons_zero, List.set_cons_succ]
                    refine wpAnyH_take (i := 11) (oi := ({ dst := some 73, op := Go.Op.move (Go.Operand.tmp 72), type := 4, pos := "ref.go:368", after := #[{ on := 10, ground := Go.Ground.data }], guard := none } : Oper)) (v := ?_) rfl (by kernel_rfl) (by kernel_rfl) (by kernel_rfl) (fun _ _ _ h => h) (Or.inl ⟨by rfl, ?_⟩) (by assumption) ?_
                    rotate_left 1
                    · (intro w hSw; (try dsimp only at hSw); go_simp; (try with_reducible rfl))
                    try simp only [Act.put, List.setIfInBounds_toArray, List.set_cons_zero, List.set_cons_succ]
                    refine wpAnyH_take (i := 12) (oi := ({ dst := some 74, op := Go.Op.move (Go.Operand.tmp 9), type := 92, pos := "ref.go:368", after := #[{ on := 11, ground := Go.Ground.guard }], guard := some (11, true) } : Oper)) (v := ?_) rfl (by kernel_rfl) (by kernel_rfl) (by kernel_rfl) (fun _ _ _ h => h) (Or.inl ⟨by rfl, ?_⟩) (by assumption) ?_
                    rotate_left 1
                    · (intro w hSw; (try dsimp only at hSw); go_simp; (try with_reducible rfl))
                    try simp only [Act.put, List.setIfInBounds_toArray, List.set_cons_zero, List.set_cons_succ]
                    refine wpAnyH_take (i := 13) (oi := ({ dst := some 75, op := Go.Op.move (Go.Operand.tmp 13), type := 22, pos := "ref.go:368", after := #[{ on := 11, ground := Go.Ground.guard }], guard := some (11, true) } : Oper)) (v := ?_) rfl (by kernel_rfl) (by kernel_rfl) (by kernel_rfl) (fun _ _ _ h => h) (Or.inl ⟨by rfl, ?_⟩) (by assumption) ?_
                    rotate_left 1
                    · (intro w hSw; (try dsimp only at hSw); go_simp; (try with_reducible rfl))
                    try simp only [Act.put, List.setIfInBounds_toArray, List.set_cons_zero, List.set_cons_succ]
                    refine wpAnyH_take (i := 14) (oi := ({ dst := some 76, op := Go.Op.indexAddr 92 (Go.Operand.tmp 74) (Go.Operand.tmp 75), type := 0, pos := "ref.go:368", after := #[{ on := 12, ground := Go.Ground.data }, { on := 13, ground := Go.Ground.data }, { on := 11, ground := Go.Ground.guard }], guard := some (11, true) } : Oper)) (v := ?_) rfl (by kernel_rfl) (by kernel_rfl) (by kernel_rfl) (fun _ _ _ h => h) (Or.inl ⟨by rfl, ?_⟩) (by assumption) ?_
                    rotate_left 1
                    · (intro w hSw; (try dsimp only at hSw); go_simp; (try with_reducible rfl))
                    try simp only [Act.put, List.setIfInBounds_toArray, List.set_cons_zero, List.set_cons_succ]
                    refine wpAnyH_take (i := 15) (oi := ({ dst := some 77, op := Go.Op.load 4 (Go.Operand.tmp 76), type := 4, pos := "ref.go:368", after := #[{ on := 14, ground := Go.Ground.data }, { on := 11, ground := Go.Ground.guard }], guard := some (11, true) } : Oper)) (v := ?_) rfl (by kernel_rfl) (by kernel_rfl) (by kernel_rfl) (fun _ _ _ h => h) (Or.inl ⟨by rfl, ?_⟩) (by assumption) ?_
                    rotate_left 1
                    · (intro w hSw; (try dsimp only at hSw); go_simp; (try with_reducible rfl))
                    try simp only [Act.put, List.setIfInBounds_toArray, List.set_cons_zero, List.set_cons_succ]
                    refine wpAnyH_take (i := 16) (oi := ({ dst := some 78, op := Go.Op.pick (Go.Operand.tmp 73) (Go.Operand.tmp 77) (Go.Operand.const (Go.Value.bool false)), type := 4, pos := "ref.go:368", after := #[{ on := 11, ground := Go.Ground.data }, { on := 15, ground := Go.Ground.data }], guard := none } : Oper)) (v := ?_) rfl (by kernel_rfl) (by kernel_rfl) (by kernel_rfl) (fun _ _ _ h => h) (Or.inl ⟨by rfl, ?_⟩) (by assumption) ?_
                    rotate_left 1
                    · (intro w hSw; (try dsimp only at hSw); go_simp; (try with_reducible rfl))
                    try simp only [Act.put, List.setIfInBounds_toArray, List.set_cons_zero, List.set_cons_succ]
                    refine wpAnyH_take (i := 17) (oi := ({ dst := some 79, op := Go.Op.move (Go.Operand.tmp 78), type := 4, pos := "ref.go:368", after := #[{ on := 16, ground := Go.Ground.data }, { on := 11, ground := Go.Ground.chain }], guard := none } : Oper)) (v := ?_) rfl (by kernel_rfl) (by kernel_rfl) (by kernel_rfl) (fun _ _ _ h => h) (Or.inl ⟨by rfl, ?_⟩) (by assumption) ?_
                    rotate_left 1
                    · (intro w hSw; (try dsimp only at hSw); go_simp; (try with_reducible rfl))
                    try simp only [Act.put, List.setIfInBounds_toArray, List.set_cons_zero, List.set_cons_succ]
                    refine wpAnyH_take (i := 18) (oi := ({ dst := some 80, op := Go.Op.move (Go.Operand.tmp 9), type := 92, pos := "ref.go:368", after := #[{ on := 17, ground := Go.Ground.guard }], guard := some (17, true) } : Oper)) (v := undef) rfl (by kernel_rfl) (by kernel_rfl) (by kernel_rfl) (fun _ _ _ h => h) (Or.inr ⟨by rfl, rfl⟩) (by assumption) ?_
                    try simp only [Act.put, List.setIfInBounds_toArray, List.set_cons_zero, List.set_cons_succ]
                    refine wpAnyH_take (i := 19) (oi := ({ dst := some 81, op := Go.Op.move (Go.Operand.tmp 14), type := 22, pos := "ref.go:368", after := #[{ on := 17, ground := Go.Ground.guard }], guard := some (17, true) } : Oper)) (v := undef) rfl (by kernel_rfl) (by kernel_rfl) (by kernel_rfl) (fun _ _ _ h => h) (Or.inr ⟨by rfl, rfl⟩) (by assumption) ?_
                    try simp only [Act.put, List.setIfInBounds_toArray, List.set_cons_zero, List.set_cons_succ]
                    refine wpAnyH_take (i := 20) (oi := ({ dst := some 82, op := Go.Op.indexAddr 92 (Go.Operand.tmp 80) (Go.Operand.tmp 81), type := 0, pos := "ref.go:368", after := #[{ on := 18, ground := Go.Ground.data }, { on := 19, ground := Go.Ground.data }, { on := 17, ground := Go.Ground.guard }], guard := some (17, true) } : Oper)) (v := undef) rfl (by kernel_rfl) (by kernel_rfl) (by kernel_rfl) (fun _ _ _ h => h) (Or.inr ⟨by rfl, rfl⟩) (by assumption) ?_
                    try simp only [Act.put, List.setIfInBounds_toArray, List.set_cons_zero, List.set_cons_succ]
                    refine wpAnyH_take (i := 21) (oi := ({ dst := some 83, op := Go.Op.load 4 (Go.Operand.tmp 82), type := 4, pos := "ref.go:368", after := #[{ on := 20, ground := Go.Ground.data }, { on := 17, ground := Go.Ground.guard }], guard := some (17, true) } : Oper)) (v := undef) rfl (by kernel_rfl) (by kernel_rfl) (by kernel_rfl) (fun _ _ _ h => h) (Or.inr ⟨by rfl, rfl⟩) (by assumption) ?_
                    try simp only [Act.put, List.setIfInBounds_toArray, List.set_cons_zero, List.set_cons_succ]
                    refine wpAnyH_take (i := 22) (oi := ({ dst := some 84, op := Go.Op.unOp Go.UnOp.not 4 (Go.Operand.tmp 83), type := 4, pos := "ref.go:368", after := #[{ on := 21, ground := Go.Ground.data }, { on := 17, ground := Go.Ground.guard }], guard := some (17, true) } : Oper)) (v := undef) rfl (by kernel_rfl) (by kernel_rfl) (by kernel_rfl) (fun _ _ _ h => h) (Or.inr ⟨by rfl, rfl⟩) (by assumption) ?_
                    try simp only [Act.put, List.setIfInBounds_toArray, List.set_cons_zero, List.set_cons_succ]
                    refine wpAnyH_take (i := 23) (oi := ({ dst := some 85, op := Go.Op.pick (Go.Operand.tmp 79) (Go.Operand.tmp 84) (Go.Operand.const (Go.Value.bool false)), type := 4, pos := "ref.go:368", after := #[{ on := 17, ground := Go.Ground.data }, { on := 22, ground := Go.Ground.data }], guard := none } : Oper)) (v := ?_) rfl (by kernel_rfl) (by kernel_rfl) (by kernel_rfl) (fun _ _ _ h => h) (Or.inl ⟨by rfl, ?_⟩) (by assumption) ?_
                    rotate_left 1
                    · (intro w hSw; (try dsimp only at hSw); go_simp; (try with_reducible rfl))
                    try simp only [Act.put, List.setIfInBounds_toArray, List.set_cons_zero, List.set_cons_succ]
                    refine wpAnyH_done (by kernel_rfl) ?_ _
                    go_wp2
                    all_goals exact ⟨⟨i + 1, H, b, ci, by go_num, rfl, HHd.out.1, HO9, HHd.out.2⟩, by simp [intOf]; omega⟩
                  | true =>
                    cases hHv : H v with
                    | true =>
                      rw [hHu, hHv] at HS7
                      have HO9 := hide (HOld.out (by rw [HNw.out, he, hHu, hHv]; rfl))
                      clear HNew HOld HNw HPs
                      go_wp2_with (fail)
                      go_region_held3 (S17 ax gb u v (S u 0) (S v 0) true true) ((with_reducible exact HS7.out)) ((fail))
                      go_wp2
                      all_goals exact ⟨⟨i + 1, H, b, ci, by go_num, rfl, HHd.out.1, HO9, HHd.out.2⟩, by simp [intOf]; omega⟩
                    | false =>
                      rw [hHu, hHv] at HS7
                      rw [hHv] at cv
                      have HN9 := hide (HNew.out (by rw [HNw.out, he, hHu, hHv]; rfl))
                      clear HNew HOld HNw HPs
                      go_wp2_with (fail)
                      go_region_held3 (S17 ax gb u v (S u 0) (S v 0) true false) ((with_reducible exact HS7.out)) ((fail))
                      go_wp2
                      all_goals exact ⟨⟨i + 1, _, true, ci, by go_num, rfl, HN9.out.1, HN9.out.2.1, HN9.out.2.2⟩, by simp [intOf]; omega⟩
            · have him : i = L.length := by omega
              subst him
              rw [List.take_length] at HP
              have HM2 : Hid (Mk S n L bk H ∧ (b = false → ∀ e ∈ L, Cd S bk H e)) := ⟨HP.out.over, fun hb => (HP.out.no hb).2⟩
              have HMs : Hid (2 * cn (cb' wr gb) n + bg (.bool b) < 2 * cn (cb' W0 gb) n + bg (.bool true)) := by
                show _ < _
                rw [HH.out.cnw, HMe.out]
                cases b with
                | true => have := HP.out.ys rfl; show 2 * _ + 1 < 2 * _ + 1; omega
                | false => have := HP.out.le; show 2 * _ + 0 < 2 * _ + 1; omega
              clear HP HMe
              go_wp2
              all_goals exact ⟨⟨H, b, rfl, HH, HM2, HB⟩, HMs.out⟩
        | false =>
          have HEnd : Hid (∃ H, GH wr gb n H ∧ (∀ v, v < n → (H v = true ↔ Cl S n L bk v)) ∧ Below w.heap.size w wr) := ⟨A, HH.out, fun v hv => HM.out.1.full (HM.out.2 rfl) v hv, HB.out⟩
          clear HH HM HB
          go_wp2
          all_goals go_ret
          all_goals (obtain ⟨H, e1, e2, e3⟩ := HEnd.out)
          all_goals (rw [Hgb.out] at e1 ⊢)
          all_goals exact ⟨H, rfl, e1, e2, e3⟩
end Au
end Go.Proofs.Ytcepfmeoeepjdaa
