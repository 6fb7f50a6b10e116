import Derived.Test.YtcolkfoodjpdjaaRaJ
namespace Go.Proofs.Ytcolkfoodjpdjaa
namespace Ra
open Go.RowKit Go.Shelf
set_option linter.unusedVariables false
attribute [local go_sem] Oper.semAt_some
theorem LR.on {w w' : World} {B : Nat} {v : Value} {L : List En} (h : LR w B v L) (hb : Below w.heap.size w w') : LR w' B v L :=
  World.ownsRow.kept (row := none) h ⟨hb.os, hb.tape, hb.output, hb.size, fun k hk _ => hb.block k hk⟩ (by cases v.ownBlock <;> simp)
theorem boxed_on {w w' : World} {b : Nat} {t : TypeId} {v : Value} (h : Boxed w b t v) (hb : Below w.heap.size w w') : Boxed w' b t v := (hb.block b h.lt).trans h
theorem LR.shape {w : World} {B : Nat} {v : Value} {L : List En} (h : LR w B v L) : ∃ wa wc, v = .slice wa L.length wc := by
  rcases h.2 with ⟨rfl, hn⟩ | ⟨g, cap, cur, rfl, _⟩
  · exact ⟨none, 0, by rw [hn]⟩
  · exact ⟨_, _, rfl⟩
theorem LR.some {w : World} {B wc : Nat} {wa : Option Addr} {L : List En} (h : LR w B (.slice wa L.length wc) L) (h0 : 0 < L.length) : ∃ g, wa = some ⟨g, 0, none⟩ := by
  rcases h.2 with ⟨e, hn⟩ | ⟨g, cap, cur, e, _⟩
  · omega
  · cases e; exact ⟨g, rfl⟩
theorem LR.gof {w : World} {B : Nat} {v : Value} {L : List En} (h : LR w B v L) : gOf v = 0 ∨ (B ≤ gOf v ∧ gOf v < w.heap.size) := by
  rcases h.2 with ⟨rfl, hn⟩ | ⟨g, cap, cur, rfl, hb, _⟩
  · exact .inl rfl
  · exact .inr ⟨hb, (h.lt g rfl).2⟩
theorem OwnFrom.or {β : Type} {B : Nat} {I J : β → World → Prop} (h : OwnFrom B I) (k : OwnFrom B J) : OwnFrom B (fun s W => I s W ∨ J s W) := fun s X Y row hs hg hr => hs.elim (fun e => .inl (h s X Y row e hg hr)) (fun e => .inr (k s X Y row e hg hr))
theorem str_ne {a b : ByteArray} (h : a ≠ b) : (a.toList == b.toList) = false := by
  rw [beq_eq_false_iff_ne]
  intro e
  rw [ByteArray.toList_eq, ByteArray.toList_eq] at e
  exact h (by cases a; cases b; congr 1; exact Array.toList_inj.1 e)
theorem snoc_prefix {L pre : List En} {y : En} (hp : pre <+: L) (h : L[pre.length]? = some y) : pre ++ [y] <+: L := by
  obtain ⟨t, rfl⟩ := hp
  rw [List.getElem?_append_right (Nat.le_refl _)] at h
  cases t with
  | nil => simp at h
  | cons z t => simp at h; subst h; exact ⟨t, by simp⟩
theorem snoc_of_prefix {L pre : List En} {y e : En} (he : L[pre.length]? = some e) (h : pre ++ [y] <+: L) : y = e := by
  obtain ⟨t, rfl⟩ := h
  simpa using he
theorem ownFrom_kg {β : Type} {g B : Nat} {w₀ : World} (hg : g < B) (h0 : g < w₀.heap.size) : OwnFrom B (fun (_ : β) W => Kg g w₀ W) := fun _ X Y row hs hgr hr => by
  refine Eq.trans (hgr.block g (hs.lt h0) (fun e => ?_)) hs
  have := (hr g e.symm).1
  omega
theorem keepsFrom_below {B : Nat} {W W' : World} (h : Below W.heap.size W W') : KeepsFrom B W W' := ⟨h.size, fun k o _ h0 _ => (h.block k (Array.getElem?_eq_some_iff.1 h0).1).trans h0⟩
/-- The law's own variables, and what it has made. -/
def ST (stop : Int) (s0 bt bw x l kc B : Nat) (wa : Option Addr) (wc : Nat) (D : Nat → Dt) (L : List En) (W : World) : Prop :=
  Boxed W s0 3 (.int .i64 stop) ∧ Boxed W (s0 + 1) 4 (.bool false) ∧ Boxed W bt 22 (.slice (some ⟨x, 0, none⟩) l kc) ∧ Boxed W bw 25 (.slice wa L.length wc) ∧ TAt W ⟨x, 0, none⟩ l kc D ∧ LR W B (.slice wa L.length wc) L
theorem ST.on {stop : Int} {s0 bt bw x l kc B : Nat} {wa : Option Addr} {wc : Nat} {D : Nat → Dt} {L : List En} {W W' : World} (h : ST stop s0 bt bw x l kc B wa wc D L W) (hb : Below W.heap.size W W') : ST stop s0 bt bw x l kc B wa wc D L W' :=
  ⟨boxed_on h.1 hb, boxed_on h.2.1 hb, boxed_on h.2.2.1 hb, boxed_on h.2.2.2.1 hb, h.2.2.2.2.1.on hb, h.2.2.2.2.2.on hb⟩
set_option maxRecDepth 100000 in
set_option maxHeartbeats 4000000 in
theorem law_any (a : Option Addr) (l c : Nat) (stop : Int) (D : Nat → Dt) (w : World) (hl : l ≤ 9223372036854775807) (hb : ∀ i, i < l → (D i).l ≤ 140737488351232) (hbd : Bd D l) (hr : SRow w a l D) :
    Calls Try.prog 3 #[.slice a l c, .int .i64 stop] w fun e w' => e = .returned (.bool true) ∧ Below w.heap.size w w' := by
  refine (callsIn_wide (n := 20)).1 ?_
  refine callsIn_of_wp_marks Try.func3 rfl trivial ?_ rfl
  simp only [Try.ntmps3, List.size_toArray, List.length_cons, List.length_nil, Nat.reduceAdd, Nat.reduceSub, Array.replicate_succ, Array.replicate_zero, List.push_toArray, List.append_toArray, List.nil_append, List.cons_append]
  have HR : Hid (∀ W, Below w.heap.size w W → SRow W a l D) := fun W hW => hr.on hW
  clear hr
  have hB0 : Below w.heap.size w ((w.alloc (.cells #[.int .i64 stop] 3)).alloc (.cells #[.bool false] 4)) := ((Below.refl _ w).alloc (Nat.le_refl _) _).alloc (by simp) _
  have bS := (Boxed.new w 3 (.int .i64 stop)).alloc (.cells #[.bool false] 4)
  have bR := Boxed.new (w.alloc (.cells #[.int .i64 stop] 3)) 4 (.bool false)
  simp only [World.size_alloc] at bR
  have cR := bR.cell
  have fR := bR.frozen
  gi_wp2_with (refine ⟨trivial, ?_⟩; gi_at_call 5; refine (callsIn_wide.2 (vast_any a l c D _ hl hb (HR.out _ hB0))).mono ?_; rintro e1 w1 ⟨h1, (h2 | ⟨h2, hcnt⟩)⟩ <;> subst h1 <;> subst h2)
  · have bT : Boxed ((w.alloc (.cells #[.int .i64 stop] 3)).alloc (.cells #[.bool true] 4)) (w.heap.size + 1) 4 (.bool true) := by
      have h := Boxed.new (w.alloc (.cells #[.int .i64 stop] 3)) 4 (.bool true)
      simpa using h
    have cT := bT.cell
    exact ⟨.bool true, by simp [results, Try.f3, go_sem, cT], rfl, ((Below.refl _ w).alloc (Nat.le_refl _) _).alloc (by simp) _⟩
  · obtain ⟨W0, hW0⟩ : ∃ W0, (w.alloc (.cells #[.int .i64 stop] 3)).alloc (.cells #[.bool false] 4) = W0 := ⟨_, rfl⟩
    have hsz0 : W0.heap.size = w.heap.size + 2 := by rw [← hW0]; simp
    rw [hW0] at hB0 bS bR cR fR ⊢
    clear hW0
    refine ⟨trivial, ?_⟩
    refine (callsIn_wide.2 (twin_any a l c D _ hcnt (HR.out _ hB0))).mono ?_
    rintro e2 w2 ⟨x, kc, rfl, hT, hB2⟩
    gi_wp2
    have hs2 := hB2.size
    have hBt : Below w.heap.size w (w2.alloc (.cells #[.slice (some ⟨x, 0, none⟩) l kc] 22)) := (hB0.trans (hB2.mono hB0.size)).alloc (by omega) _
    have hBt' : Below W0.heap.size W0 (w2.alloc (.cells #[.slice (some ⟨x, 0, none⟩) l kc] 22)) := hB2.alloc hs2 _
    refine ⟨trivial, ?_⟩
    refine (callsIn_wide.2 (rall_any a l c D _ hcnt hbd (HR.out _ hBt))).mono ?_
    rintro e3 w3 ⟨wv, rfl, hL, hB3⟩
    obtain ⟨L, HL⟩ : ∃ L, Hid (flat D l = L) := ⟨_, rfl⟩
    rw [HL.out] at hL
    have hlen : L.length ≤ 100000 := by have := flat_len D l; rw [HL.out] at this; omega
    obtain ⟨wa, wc, rfl⟩ := hL.shape
    have hs3 := hB3.size
    simp only [World.size_alloc] at hs3
    have hST : ST stop w.heap.size w2.heap.size w3.heap.size x l kc (w2.alloc (.cells #[.slice (some ⟨x, 0, none⟩) l kc] 22)).heap.size wa wc D L (w3.alloc (.cells #[.slice wa L.length wc] 25)) := by
      have hBa : Below w3.heap.size w3 (w3.alloc (.cells #[.slice wa L.length wc] 25)) := (Below.refl _ _).alloc (Nat.le_refl _) _
      have hBb : Below (w2.alloc (.cells #[.slice (some ⟨x, 0, none⟩) l kc] 22)).heap.size (w2.alloc (.cells #[.slice (some ⟨x, 0, none⟩) l kc] 22)) (w3.alloc (.cells #[.slice wa L.length wc] 25)) := hB3.trans (hBa.mono hB3.size)
      have hBc : Below W0.heap.size W0 (w3.alloc (.cells #[.slice wa L.length wc] 25)) := hBt'.trans (hBb.mono hBt'.size)
      exact ⟨boxed_on bS hBc, boxed_on bR hBc, boxed_on (Boxed.new w2 22 _) hBb, Boxed.new w3 25 _, (hT.on ((Below.refl _ w2).alloc (Nat.le_refl _) _)).on hBb, hL.on hBa⟩
    have hBw : Below w.heap.size w (w3.alloc (.cells #[.slice wa L.length wc] 25)) := (hBt.trans (hB3.mono hBt.size)).alloc (by omega) _
    have hszw : (w3.alloc (.cells #[.slice wa L.length wc] 25)).heap.size = w3.heap.size + 1 := by simp
    have cT := hST.2.2.1.cell
    gi_wp2
    obtain ⟨W3, hW3⟩ : ∃ W3, w3.alloc (.cells #[.slice wa L.length wc] 25) = W3 := ⟨_, rfl⟩
    rw [hW3] at hST hBw hszw cT ⊢
    have h3W : w3.heap.size < W3.heap.size := by omega
    have hlow : w.heap.size + 2 ≤ w2.heap.size := by omega
    clear hW3 hBt hBt' hB3 hL hs2 hB2 hT bS bR cR fR hB0 hszw hsz0
    have HST : Hid (ST stop w.heap.size w2.heap.size w3.heap.size x l kc (w2.alloc (.cells #[.slice (some ⟨x, 0, none⟩) l kc] 22)).heap.size wa wc D L W3) := hST
    generalize (w2.alloc (.cells #[.slice (some ⟨x, 0, none⟩) l kc] 22)).heap.size = BB at HST
    have HALL : Hid (∀ W, Below W3.heap.size W3 W → Calls Try.prog 8 #[.slice (some ⟨x, 0, none⟩) l kc] W fun e w' => e = .returned (.func (.func 14) #[] #[.pointer (some ⟨W.heap.size, 0, none⟩)]) ∧ (∃ v, Boxed w' W.heap.size 25 v ∧ LR w' W.heap.size v L) ∧ Below W.heap.size W w') := fun W hW => by
      have h9 := all_any (some ⟨x, 0, none⟩) l kc D W hcnt hbd (fun _ => ⟨_, rfl, ((HST.out.on hW).2.2.2.2.1).row⟩)
      rw [HL.out] at h9; exact h9
    clear hST
    refine ⟨trivial, ?_⟩
    refine (callsIn_wide.2 (HALL.out _ (Below.refl _ _))).mono ?_
    rintro e4 w4 ⟨rfl, _, hB4⟩
    have hs4 := hB4.size
    have hB5 : Below W3.heap.size W3 (w4.alloc (.cells #[.int .i64 0] 3)) := hB4.alloc hs4 _
    have cT5 := (HST.out.on hB5).2.2.1.cell
    have bI := Boxed.new w4 3 (.int .i64 0)
    have hq : ∀ (f : Array Value) (W : World), Sem.run Try.prog (binOp BinOp.eql 28 (Value.func (Fn.func 14) #[] f) Value.nilFunc) W = .ok (.bool false) W := fun _ _ => rfl
    gi_wp2
    clear hq
    refine ⟨trivial, ?_⟩
    refine (callsIn_wide.2 (HALL.out _ hB5)).mono ?_
    rintro e5 w5 ⟨rfl, ⟨v5, bx5, lr5⟩, hB6⟩
    replace bI := boxed_on bI hB6
    have hB7 := hB5.trans (hB6.mono hB5.size)
    have hs6 := hB6.size
    simp only [World.size_alloc] at hs6 bx5 lr5 ⊢
    clear hB6 hB5 cT5 cT
    gi_wp2
    rename_i Kc hKc
    have hg5 : gOf v5 ≠ w4.heap.size ∧ gOf v5 < w5.heap.size := by
      rcases lr5.gof with h | h
      · omega
      · omega
    have rest : ∀ (Dm : Nat) (pre : List En) (W : World), w5.heap.size ≤ Dm → (pre.length = L.length ∨ (pre.length : Int) = stop) → Boxed W w4.heap.size 3 (.int .i64 (pre.length : Int)) → Below W3.heap.size W3 W → W.heap[Dm]? = some (.deferred (some [])) →
        Kc { tmps := #[.slice a l c, .int .i64 stop, undef, .pointer (some ⟨w.heap.size, 0, none⟩), .pointer (some ⟨w.heap.size + 1, 0, none⟩), .pointer (some ⟨w2.heap.size, 0, none⟩), .pointer (some ⟨w3.heap.size, 0, none⟩), .pointer (some ⟨w4.heap.size, 0, none⟩), undef, undef, undef, undef, undef, undef, undef, .slice a l c, .bool false, .slice a l c, .slice (some ⟨x, 0, none⟩) l kc, .slice a l c, .slice wa L.length wc, .slice (some ⟨x, 0, none⟩) l kc, .func (.func 14) #[] #[.pointer (some ⟨W3.heap.size, 0, none⟩)], .bool false, .slice (some ⟨x, 0, none⟩) l kc, .func (.func 14) #[] #[.pointer (some ⟨w4.heap.size + 1, 0, none⟩)], undef, undef, undef, undef, undef, undef, undef, undef, undef, undef, undef, undef, undef, undef, undef, undef, undef, undef, undef, undef, undef, undef, undef, undef, undef, undef, undef, undef, undef, undef, undef, undef, undef, undef, undef, undef, undef, undef, undef, undef, undef, undef, undef, undef, undef, undef, undef, undef, undef, undef, undef, undef, undef, undef, undef, undef, undef, undef, undef, undef, undef, undef, undef, undef, undef, undef, undef, undef, undef, undef, undef, undef, undef, undef, undef, undef, undef, undef, undef, undef, undef, undef, undef, undef, undef, undef, undef, undef, undef, undef, undef, undef, undef, undef, undef, undef, undef], defers := [{ target := .collected Dm, args := #[] }] } W := by
      intro Dm pre W hDm hor bI1 hBW hK
      refine hKc _ _ ?_
      have hST1 := HST.out.on hBW
      have cI := bI1.cell
      have cS := hST1.1.cell
      have cW := hST1.2.2.2.1.cell
      have hBn : Below W3.heap.size W3 (W.alloc (.cells #[.int .i64 0] 3)) := hBW.alloc hBW.size _
      have cTn := (HST.out.on hBn).2.2.1.cell
      have bN := Boxed.new W 3 (.int .i64 0)
      clear hST1
      clear bI1 hKc lr5 bx5 hg5 bI
      by_cases hpl : pre.length = L.length
      · rw [hpl] at cI
        clear hor
        gi_wp2
        refine ⟨trivial, ?_⟩
        refine (callsIn_wide.2 (HALL.out _ hBn)).mono ?_
        rintro e7 w7 ⟨rfl, ⟨v7, bx7, lr7⟩, hB8⟩
        replace bN := boxed_on bN hB8
        have hB9 : Below W.heap.size W w7 := ((Below.refl _ W).alloc (Nat.le_refl _) _).trans (hB8.mono (by simp))
        have hs8 := hB8.size
        simp only [World.size_alloc] at bx7 lr7 hs8 ⊢
        clear hB8 cTn cI cS cW
        gi_wp2
        rename_i Kd hKd
        have hsW := hBW.size
        have hDl : Dm < W.heap.size := (Array.getElem?_eq_some_iff.1 hK).1
        have hg7 : gOf v7 ≠ W.heap.size ∧ gOf v7 < w7.heap.size := by
          rcases lr7.gof with h | h <;> omega
        refine wpIn_rangeFunc_ownH rfl (by decide) (gf := 14) (lb := #[.pointer (some ⟨W.heap.size + 1, 0, none⟩)]) rfl trivial (enters_of Try.func14 (by kernel_rfl) rfl)
          (all_stops Fence.wide 19 trivial rfl (by decide) (W.heap.size + 1) (W.heap.size + 1) v7 L hlen w7 bx7 lr7) Kg.t (Kg.b hg7.2) (Below.refl _ _) (fun _ => rfl)
          (fun pre2 W' => (pre2 <+: L ∧ Boxed W' W.heap.size 3 (.int .i64 (pre2.length : Int))) ∧ Below W.heap.size W W')
          (fun cd pre2 W' => cd = .ret ∧ ¬ pre2 <+: L)
          (OwnFrom.and (OwnFrom.and (ownFrom_pure _ _) (Own.from (boxed_own _ _ _) _)) (ownFrom_below (Nat.le_refl _) (by omega)))
          (fun cd => ownFrom_pure _ _)
          ⟨⟨List.nil_prefix, bN⟩, hB9⟩
          (fun z a' _ => a' = { tmps := #[.slice a l c, .int .i64 stop, undef, .pointer (some ⟨w.heap.size, 0, none⟩), .pointer (some ⟨w.heap.size + 1, 0, none⟩), .pointer (some ⟨w2.heap.size, 0, none⟩), .pointer (some ⟨w3.heap.size, 0, none⟩), .pointer (some ⟨w4.heap.size, 0, none⟩), undef, undef, .pointer (some ⟨W.heap.size, 0, none⟩), .string z.1, .string z.2, undef, undef, .slice a l c, .bool false, .slice a l c, .slice (some ⟨x, 0, none⟩) l kc, .slice a l c, .slice wa L.length wc, .slice (some ⟨x, 0, none⟩) l kc, .func (.func 14) #[] #[.pointer (some ⟨W3.heap.size, 0, none⟩)], .bool false, .slice (some ⟨x, 0, none⟩) l kc, .func (.func 14) #[] #[.pointer (some ⟨w4.heap.size + 1, 0, none⟩)], undef, undef, undef, undef, undef, undef, undef, undef, undef, undef, undef, undef, undef, undef, undef, undef, undef, undef, undef, undef, undef, undef, undef, undef, undef, undef, undef, undef, undef, .int .i64 (L.length : Int), .slice wa L.length wc, .int .i64 (L.length : Int), .bool false, .bool false, undef, undef, undef, .bool false, .slice (some ⟨x, 0, none⟩) l kc, .func (.func 14) #[] #[.pointer (some ⟨W.heap.size + 1, 0, none⟩)], .string z.1, .string z.2, undef, undef, undef, undef, undef, undef, undef, undef, undef, undef, undef, undef, undef, undef, undef, undef, undef, undef, undef, undef, undef, undef, undef, undef, undef, undef, undef, undef, undef, undef, undef, undef, undef, undef, undef, undef, undef, undef, undef, undef, undef, undef, undef, undef, undef, undef, undef, undef, undef, undef, undef, undef, undef, undef, undef], defers := [] })
          (fun _ _ _ _ _ _ hs _ _ => hs)
          ?assign2 ?body2 ?done2 ?stop2
        case assign2 =>
          rintro l2 pre2 z Wa K hi hK2
          gi_wp2
          exact hK2 _ _ (KeepsFrom.refl _ _) rfl hi rfl
        case body2 =>
          rintro l2 pre2 z a' Wb hl2 ⟨rc, hrc⟩ ⟨⟨hp, bN1⟩, hBb⟩ rfl hlt
          clear hKd
          have hBb3 := hBW.trans (hBb.mono hBW.size)
          have hST1 := HST.out.on hBb3
          obtain ⟨g, hwa⟩ := hST1.2.2.2.2.2.some (by omega)
          subst hwa
          have cN := bN1.cell
          have cW := hST1.2.2.2.1.cell
          have cT := hST1.2.2.1.cell
          have hlt' : ¬ (L.length : Int) ≤ (pre2.length : Int) := by omega
          have hl3 : l2 < Wb.heap.size := (Array.getElem?_eq_some_iff.1 hrc).1
          clear hST1
          gi_wp2
          refine ⟨trivial, ?_⟩
          refine (CallsIn.inRound l2 (callsIn_wide.2 (HALL.out _ hBb3))).mono ?_
          rintro e9 w9 ⟨rfl, ⟨v9, bx9, lr9⟩, hB10⟩
          have hs10 := hB10.size
          have hBc : Below W.heap.size W w9 := hBb.trans (hB10.mono hBb.size)
          have bN2 := boxed_on bN1 hB10
          have hrc2 : w9.heap[l2]? = some (.loop rc) := (hB10.block l2 hl3).trans hrc
          have hkf : KeepsFrom w7.heap.size Wb w9 := keepsFrom_below hB10
          have hkg : Kg (gOf v7) Wb w9 := Kg.below hB10 (by omega)
          have hg9 : gOf v9 < w9.heap.size := by rcases lr9.gof with h | h <;> omega
          have hsc := hBc.size
          clear cN cW cT hB10 bN1 hBb3
          gi_wp2
          obtain ⟨e, he⟩ : ∃ e, L[pre2.length]? = some e := ⟨L[pre2.length], List.getElem?_eq_getElem hlt⟩
          obtain ⟨e0, he0⟩ : ∃ e0, L[0]? = some e0 := ⟨L[0], List.getElem?_eq_getElem (by omega)⟩
          refine wpIn_rangeFunc_ownN (l₀ := l2) (r₀ := rc) rfl hrc2 (by decide) (gf := 14) (lb := #[.pointer (some ⟨Wb.heap.size, 0, none⟩)]) rfl trivial (enters_of Try.func14 (by kernel_rfl) rfl)
            ((all_stops Fence.wide (20 - 1 - 1 - 1) trivial rfl (by decide) Wb.heap.size Wb.heap.size v9 L hlen w9 bx9 lr9).inRound l2) Kg.t (Kg.b hg9) (Below.refl _ _) (fun _ => rfl)
            (fun p3 W' => (p3 = [] ∧ Boxed W' W.heap.size 3 (.int .i64 (pre2.length : Int))) ∧ (Below W.heap.size W W' ∧ (Kg (gOf v7) Wb W' ∧ KeepsFrom w7.heap.size Wb W')))
            (fun cd p3 W' => (cd = .ret ∧ ¬ p3 <+: L) ∨ ((cd = .exit 4 ∧ Boxed W' W.heap.size 3 (.int .i64 (pre2.length : Int))) ∧ (Below W.heap.size W W' ∧ (Kg (gOf v7) Wb W' ∧ KeepsFrom w7.heap.size Wb W'))))
            (OwnFrom.and (OwnFrom.and (ownFrom_pure _ _) (Own.from (boxed_own _ _ _) _)) (OwnFrom.and (ownFrom_below (Nat.le_refl _) hsc) (OwnFrom.and (ownFrom_kg (by omega) (by omega)) (ownFrom_keepsFrom hs10))))
            (fun cd => OwnFrom.or (ownFrom_pure _ _) (OwnFrom.and (OwnFrom.and (ownFrom_pure _ _) (Own.from (boxed_own _ _ _) _)) (OwnFrom.and (ownFrom_below (Nat.le_refl _) hsc) (OwnFrom.and (ownFrom_kg (by omega) (by omega)) (ownFrom_keepsFrom hs10)))))
            ⟨⟨rfl, bN2⟩, hBc, hkg, hkf⟩
            (fun q a'' _ => a'' = { tmps := #[.slice a l c, .int .i64 stop, undef, .pointer (some ⟨w.heap.size, 0, none⟩), .pointer (some ⟨w.heap.size + 1, 0, none⟩), .pointer (some ⟨w2.heap.size, 0, none⟩), .pointer (some ⟨w3.heap.size, 0, none⟩), .pointer (some ⟨w4.heap.size, 0, none⟩), undef, undef, .pointer (some ⟨W.heap.size, 0, none⟩), .string z.1, .string z.2, .string q.1, .string q.2, .slice a l c, .bool false, .slice a l c, .slice (some ⟨x, 0, none⟩) l kc, .slice a l c, .slice (some ⟨g, 0, none⟩) L.length wc, .slice (some ⟨x, 0, none⟩) l kc, .func (.func 14) #[] #[.pointer (some ⟨W3.heap.size, 0, none⟩)], .bool false, .slice (some ⟨x, 0, none⟩) l kc, .func (.func 14) #[] #[.pointer (some ⟨w4.heap.size + 1, 0, none⟩)], undef, undef, undef, undef, undef, undef, undef, undef, undef, undef, undef, undef, undef, undef, undef, undef, undef, undef, undef, undef, undef, undef, undef, undef, undef, undef, undef, undef, undef, .int .i64 (L.length : Int), .slice (some ⟨g, 0, none⟩) L.length wc, .int .i64 (L.length : Int), .bool false, .bool false, undef, undef, undef, .bool false, .slice (some ⟨x, 0, none⟩) l kc, .func (.func 14) #[] #[.pointer (some ⟨W.heap.size + 1, 0, none⟩)], .string z.1, .string z.2, .int .i64 (pre2.length : Int), .slice (some ⟨g, 0, none⟩) L.length wc, .int .i64 (L.length : Int), .bool false, .slice (some ⟨x, 0, none⟩) l kc, .func (.func 14) #[] #[.pointer (some ⟨Wb.heap.size, 0, none⟩)], .string q.1, .string q.2, undef, undef, undef, undef, undef, undef, undef, undef, undef, undef, undef, undef, undef, undef, undef, undef, undef, undef, undef, undef, undef, undef, undef, undef, undef, undef, undef, undef, undef, undef, undef, undef, undef, undef, undef, undef, undef, undef, undef, undef, undef, undef, undef, undef, undef, undef, undef], defers := [] })
            (fun _ _ _ _ _ _ hs _ _ => hs)
            ?assign3 ?body3 ?done3 ?stop3
          case assign3 =>
            rintro l3 p3 q Wi K hi hK3
            gi_wp2
            exact hK3 _ _ (KeepsFrom.refl _ _) rfl hi rfl
          case body3 =>
            rintro l3 p3 q a'' Wi _ _ ⟨⟨rfl, bN3⟩, hBi, hkgi, hkfi⟩ rfl _
            have hST2 := HST.out.on (hBW.trans (hBi.mono hBW.size))
            obtain ⟨_, hgl, _, hcell⟩ := hST2.2.2.2.2.2.get
            obtain ⟨k0, k1⟩ := hcell 0 e0 he0
            simp only [Nat.zero_mul, Nat.zero_add] at k0 k1
            have cW := hST2.2.2.2.1.cell
            have cR := hST2.2.1.cell
            have fR := hST2.2.1.frozen
            have hL0 : (0 : Int) < (L.length : Int) := by omega
            have bdn : q ≠ e0 → ¬ [] ++ [q] <+: L := fun h h' => h (snoc_of_prefix (pre := []) he0 h')
            have HI : Hid ((Boxed Wi W.heap.size 3 (.int .i64 (pre2.length : Int))) ∧ (Below W.heap.size W Wi ∧ (Kg (gOf v7) Wb Wi ∧ KeepsFrom w7.heap.size Wb Wi))) := ⟨bN3, hBi, hkgi, hkfi⟩
            clear hcell hST2 bN3 hBi hkgi hkfi
            by_cases h1 : q.1 = e0.1
            · by_cases h2 : q.2 = e0.2
              · rw [← h1] at k0
                rw [← h2] at k1
                clear h1 h2 bdn
                gi_wp2
                exact ⟨KeepsFrom.refl _ _, .inr ⟨⟨rfl, HI.out.1⟩, HI.out.2⟩⟩
              · have HY : Hid (¬ [] ++ [q] <+: L) := bdn (fun h => h2 (by rw [h]))
                rw [← h1] at k0
                have h2' := str_ne h2
                clear h1 h2 bdn
                gi_wp2
                exact ⟨(KeepsOthers.setCell _ _ _).from _, .inl ⟨rfl, HY.out⟩⟩
            · have HY : Hid (¬ [] ++ [q] <+: L) := bdn (fun h => h1 (by rw [h]))
              have h1' := str_ne h1
              clear h1 bdn
              gi_wp2
              exact ⟨(KeepsOthers.setCell _ _ _).from _, .inl ⟨rfl, HY.out⟩⟩
          case done3 =>
            rintro ys Wi rfl ⟨⟨hnil, _⟩, _⟩
            exact absurd hlt (by simp [hnil])
          case stop3 =>
            rintro cd p3 Wi hpre (⟨rfl, hn⟩ | ⟨⟨rfl, bN3⟩, hBi, hkgi, hkfi⟩)
            · exact absurd hpre hn
            · have hST2 := HST.out.on (hBW.trans (hBi.mono hBW.size))
              obtain ⟨_, hgl, _, hcell⟩ := hST2.2.2.2.2.2.get
              obtain ⟨k0, k1⟩ := hcell pre2.length e he
              have cN := bN3.cell
              have fN := bN3.frozen
              have cW := hST2.2.2.2.1.cell
              have cR := hST2.2.1.cell
              have fR := hST2.2.1.frozen
              have bdy : z = e → pre2 ++ [z] <+: L := fun h => by subst h; exact snoc_prefix hp he
              have bdn : z ≠ e → ¬ pre2 ++ [z] <+: L := fun h h' => h (snoc_of_prefix he h')
              have HI : Hid ((Boxed Wi W.heap.size 3 (.int .i64 (pre2.length : Int))) ∧ (Below W.heap.size W Wi ∧ (Kg (gOf v7) Wb Wi ∧ KeepsFrom w7.heap.size Wb Wi))) := ⟨bN3, hBi, hkgi, hkfi⟩
              clear hcell hST2 bN3 hBi hkgi hkfi
              by_cases h1 : z.1 = e.1
              · by_cases h2 : z.2 = e.2
                · have HY : Hid (pre2 ++ [z] <+: L) := bdy (Prod.ext h1 h2)
                  rw [← h1] at k0
                  rw [← h2] at k1
                  clear h1 h2 bdy bdn
                  have hlb : (pre2.length : Int) ≤ 100000 := by omega
                  gi_wp2
                  exact ⟨HI.out.2.2.2.trans ((KeepsOthers.setCell _ _ _).from _), HI.out.2.2.1.t (Below.heap_setCell _ _ _ _ (fun h => hg7.1 (by simpa using h))), ⟨HY.out, by rw [List.length_append]; exact HI.out.1.set _⟩, HI.out.2.1.setCell (p := ⟨W.heap.size, 0, none⟩) (Nat.le_refl _) _⟩
                · have HY : Hid (¬ pre2 ++ [z] <+: L) := bdn (fun h => h2 (by rw [h]))
                  rw [← h1] at k0
                  have h2' := str_ne h2
                  clear h1 h2 bdy bdn
                  gi_wp2
                  exact ⟨HI.out.2.2.2.trans ((KeepsOthers.setCell _ _ _).from _), rfl, HY.out⟩
              · have HY : Hid (¬ pre2 ++ [z] <+: L) := bdn (fun h => h1 (by rw [h]))
                have h1' := str_ne h1
                clear h1 bdy bdn
                gi_wp2
                exact ⟨HI.out.2.2.2.trans ((KeepsOthers.setCell _ _ _).from _), rfl, HY.out⟩
        case done2 =>
          rintro Dn ys W' hDn rfl ⟨⟨_, bN1⟩, hBb⟩ hK2
          refine hKd _ _ ?_
          have hBe := hBW.trans (hBb.mono hBW.size)
          have hBz := hBw.trans (hBe.mono hBw.size)
          have hST1 := HST.out.on hBe
          have cN := bN1.cell
          have cW := hST1.2.2.2.1.cell
          have cT := hST1.2.2.1.cell
          have hll := cnt_ge D l
          gi_wp2
          refine ⟨trivial, ?_⟩
          refine (callsIn_wide.2 (untouched_any ⟨x, 0, none⟩ a l kc c D W' (by omega) (fun i hi => by have := cnt_at D hi; omega) hST1.2.2.2.2.1 (HR.out _ hBz))).mono ?_
          rintro e8 w8 ⟨hB11, rfl⟩
          have bR8 := boxed_on hST1.2.1 hB11
          have cR := bR8.cell
          have fR := bR8.frozen
          have hs11 := hB11.size
          have hDnl : Dn < W'.heap.size := (Array.getElem?_eq_some_iff.1 hK2).1
          have hsb := hBb.size
          clear cN cW cT
          have hRn : (w8.setCell ⟨w.heap.size + 1, 0, none⟩ (.bool true)).heap[Dn]? = some (.deferred (some [])) := (Below.heap_setCell _ _ _ Dn (by show Dn ≠ w.heap.size + 1; omega)).trans ((hB11.block Dn hDnl).trans hK2)
          have hRm : ((w8.setCell ⟨w.heap.size + 1, 0, none⟩ (.bool true)).putObj Dn (.deferred none)).heap[Dm]? = some (.deferred (some [])) :=
            (World.putObj_heap_other (by omega)).trans ((Below.heap_setCell _ _ _ Dm (by show Dm ≠ w.heap.size + 1; omega)).trans ((hB11.block Dm (by omega)).trans ((hBb.block Dm hDl).trans hK)))
          have bF : Boxed (((w8.setCell ⟨w.heap.size + 1, 0, none⟩ (.bool true)).putObj Dn (.deferred none)).putObj Dm (.deferred none)) (w.heap.size + 1) 4 (.bool true) :=
            ((bR8.set (.bool true)).kept (grownBy_putObj' _ Dn _) (fun h => by cases h; omega)).kept (grownBy_putObj' _ Dm _) (fun h => by cases h; omega)
          have cF := bF.cell
          have HF : Hid (Below w.heap.size w (((w8.setCell ⟨w.heap.size + 1, 0, none⟩ (.bool true)).putObj Dn (.deferred none)).putObj Dm (.deferred none))) :=
            (((hBz.trans (hB11.mono hBz.size)).setCell (p := ⟨w.heap.size + 1, 0, none⟩) (by simp) _).trans (belowK_b (w := w) (Nat.le_refl _) _ Dn _ _ (by omega) hRn rfl rfl)).trans (belowK_b (w := w) (Nat.le_refl _) _ Dm _ _ (by omega) hRm rfl rfl)
          gi_wp2
          refine ⟨by simp, .inl ⟨_, _, rfl, run_takeDeferred hRn, ?_⟩⟩
          refine ⟨by simp, .inl ⟨_, _, rfl, run_takeDeferred hRm, ?_⟩⟩
          exact ⟨.bool true, by simp [results, Try.f3, go_sem, cF], rfl, HF.out⟩
        case stop2 =>
          rintro Dn cd pre2 W' hDn hpre ⟨_, hn⟩ hK2
          exact absurd hpre hn
      · have hst : (pre.length : Int) = stop := hor.resolve_left hpl
        subst hst
        have hpl' : ((pre.length : Int) != (L.length : Int)) = true := by rw [bne_iff_ne]; omega
        clear hor
        gi_wp2
        refine ⟨trivial, ?_⟩
        refine (callsIn_wide.2 (HALL.out _ hBn)).mono ?_
        rintro e7 w7 ⟨rfl, ⟨v7, bx7, lr7⟩, hB8⟩
        replace bN := boxed_on bN hB8
        have hB9 : Below W.heap.size W w7 := ((Below.refl _ W).alloc (Nat.le_refl _) _).trans (hB8.mono (by simp))
        have hs8 := hB8.size
        simp only [World.size_alloc] at bx7 lr7 hs8 ⊢
        clear hB8 cTn cI cS cW
        gi_wp2
        rename_i Kd hKd
        have hsW := hBW.size
        have hDl : Dm < W.heap.size := (Array.getElem?_eq_some_iff.1 hK).1
        have hg7 : gOf v7 ≠ W.heap.size ∧ gOf v7 < w7.heap.size := by
          rcases lr7.gof with h | h <;> omega
        refine wpIn_rangeFunc_ownH rfl (by decide) (gf := 14) (lb := #[.pointer (some ⟨W.heap.size + 1, 0, none⟩)]) rfl trivial (enters_of Try.func14 (by kernel_rfl) rfl)
          (all_stops Fence.wide 19 trivial rfl (by decide) (W.heap.size + 1) (W.heap.size + 1) v7 L hlen w7 bx7 lr7) Kg.t (Kg.b hg7.2) (Below.refl _ _) (fun _ => rfl)
          (fun pre2 W' => (pre2 <+: L ∧ Boxed W' W.heap.size 3 (.int .i64 (pre2.length : Int))) ∧ Below W.heap.size W W')
          (fun cd pre2 W' => cd = .ret ∧ ¬ pre2 <+: L)
          (OwnFrom.and (OwnFrom.and (ownFrom_pure _ _) (Own.from (boxed_own _ _ _) _)) (ownFrom_below (Nat.le_refl _) (by omega)))
          (fun cd => ownFrom_pure _ _)
          ⟨⟨List.nil_prefix, bN⟩, hB9⟩
          (fun z a' _ => a' = { tmps := #[.slice a l c, .int .i64 (pre.length : Int), undef, .pointer (some ⟨w.heap.size, 0, none⟩), .pointer (some ⟨w.heap.size + 1, 0, none⟩), .pointer (some ⟨w2.heap.size, 0, none⟩), .pointer (some ⟨w3.heap.size, 0, none⟩), .pointer (some ⟨w4.heap.size, 0, none⟩), undef, undef, .pointer (some ⟨W.heap.size, 0, none⟩), .string z.1, .string z.2, undef, undef, .slice a l c, .bool false, .slice a l c, .slice (some ⟨x, 0, none⟩) l kc, .slice a l c, .slice wa L.length wc, .slice (some ⟨x, 0, none⟩) l kc, .func (.func 14) #[] #[.pointer (some ⟨W3.heap.size, 0, none⟩)], .bool false, .slice (some ⟨x, 0, none⟩) l kc, .func (.func 14) #[] #[.pointer (some ⟨w4.heap.size + 1, 0, none⟩)], undef, undef, undef, undef, undef, undef, undef, undef, undef, undef, undef, undef, undef, undef, undef, undef, undef, undef, undef, undef, undef, undef, undef, undef, undef, undef, undef, undef, undef, .int .i64 (pre.length : Int), .slice wa L.length wc, .int .i64 (L.length : Int), .bool true, .bool true, .int .i64 (pre.length : Int), .int .i64 (pre.length : Int), .bool false, .bool false, .slice (some ⟨x, 0, none⟩) l kc, .func (.func 14) #[] #[.pointer (some ⟨W.heap.size + 1, 0, none⟩)], .string z.1, .string z.2, undef, undef, undef, undef, undef, undef, undef, undef, undef, undef, undef, undef, undef, undef, undef, undef, undef, undef, undef, undef, undef, undef, undef, undef, undef, undef, undef, undef, undef, undef, undef, undef, undef, undef, undef, undef, undef, undef, undef, undef, undef, undef, undef, undef, undef, undef, undef, undef, undef, undef, undef, undef, undef, undef, undef], defers := [] })
          (fun _ _ _ _ _ _ hs _ _ => hs)
          ?assign2 ?body2 ?done2 ?stop2
        case assign2 =>
          rintro l2 pre2 z Wa K hi hK2
          gi_wp2
          exact hK2 _ _ (KeepsFrom.refl _ _) rfl hi rfl
        case body2 =>
          rintro l2 pre2 z a' Wb hl2 ⟨rc, hrc⟩ ⟨⟨hp, bN1⟩, hBb⟩ rfl hlt
          clear hKd
          have hBb3 := hBW.trans (hBb.mono hBW.size)
          have hST1 := HST.out.on hBb3
          obtain ⟨g, hwa⟩ := hST1.2.2.2.2.2.some (by omega)
          subst hwa
          have cN := bN1.cell
          have cW := hST1.2.2.2.1.cell
          have cT := hST1.2.2.1.cell
          have hlt' : ¬ (L.length : Int) ≤ (pre2.length : Int) := by omega
          have hl3 : l2 < Wb.heap.size := (Array.getElem?_eq_some_iff.1 hrc).1
          clear hST1
          gi_wp2
          refine ⟨trivial, ?_⟩
          refine (CallsIn.inRound l2 (callsIn_wide.2 (HALL.out _ hBb3))).mono ?_
          rintro e9 w9 ⟨rfl, ⟨v9, bx9, lr9⟩, hB10⟩
          have hs10 := hB10.size
          have hBc : Below W.heap.size W w9 := hBb.trans (hB10.mono hBb.size)
          have bN2 := boxed_on bN1 hB10
          have hrc2 : w9.heap[l2]? = some (.loop rc) := (hB10.block l2 hl3).trans hrc
          have hkf : KeepsFrom w7.heap.size Wb w9 := keepsFrom_below hB10
          have hkg : Kg (gOf v7) Wb w9 := Kg.below hB10 (by omega)
          have hg9 : gOf v9 < w9.heap.size := by rcases lr9.gof with h | h <;> omega
          have hsc := hBc.size
          clear cN cW cT hB10 bN1 hBb3
          gi_wp2
          obtain ⟨e, he⟩ : ∃ e, L[pre2.length]? = some e := ⟨L[pre2.length], List.getElem?_eq_getElem hlt⟩
          obtain ⟨e0, he0⟩ : ∃ e0, L[0]? = some e0 := ⟨L[0], List.getElem?_eq_getElem (by omega)⟩
          refine wpIn_rangeFunc_ownN (l₀ := l2) (r₀ := rc) rfl hrc2 (by decide) (gf := 14) (lb := #[.pointer (some ⟨Wb.heap.size, 0, none⟩)]) rfl trivial (enters_of Try.func14 (by kernel_rfl) rfl)
            ((all_stops Fence.wide (20 - 1 - 1 - 1) trivial rfl (by decide) Wb.heap.size Wb.heap.size v9 L hlen w9 bx9 lr9).inRound l2) Kg.t (Kg.b hg9) (Below.refl _ _) (fun _ => rfl)
            (fun p3 W' => (p3 = [] ∧ Boxed W' W.heap.size 3 (.int .i64 (pre2.length : Int))) ∧ (Below W.heap.size W W' ∧ (Kg (gOf v7) Wb W' ∧ KeepsFrom w7.heap.size Wb W')))
            (fun cd p3 W' => (cd = .ret ∧ ¬ p3 <+: L) ∨ ((cd = .exit 4 ∧ Boxed W' W.heap.size 3 (.int .i64 (pre2.length : Int))) ∧ (Below W.heap.size W W' ∧ (Kg (gOf v7) Wb W' ∧ KeepsFrom w7.heap.size Wb W'))))
            (OwnFrom.and (OwnFrom.and (ownFrom_pure _ _) (Own.from (boxed_own _ _ _) _)) (OwnFrom.and (ownFrom_below (Nat.le_refl _) hsc) (OwnFrom.and (ownFrom_kg (by omega) (by omega)) (ownFrom_keepsFrom hs10))))
            (fun cd => OwnFrom.or (ownFrom_pure _ _) (OwnFrom.and (OwnFrom.and (ownFrom_pure _ _) (Own.from (boxed_own _ _ _) _)) (OwnFrom.and (ownFrom_below (Nat.le_refl _) hsc) (OwnFrom.and (ownFrom_kg (by omega) (by omega)) (ownFrom_keepsFrom hs10)))))
            ⟨⟨rfl, bN2⟩, hBc, hkg, hkf⟩
            (fun q a'' _ => a'' = { tmps := #[.slice a l c, .int .i64 (pre.length : Int), undef, .pointer (some ⟨w.heap.size, 0, none⟩), .pointer (some ⟨w.heap.size + 1, 0, none⟩), .pointer (some ⟨w2.heap.size, 0, none⟩), .pointer (some ⟨w3.heap.size, 0, none⟩), .pointer (some ⟨w4.heap.size, 0, none⟩), undef, undef, .pointer (some ⟨W.heap.size, 0, none⟩), .string z.1, .string z.2, .string q.1, .string q.2, .slice a l c, .bool false, .slice a l c, .slice (some ⟨x, 0, none⟩) l kc, .slice a l c, .slice (some ⟨g, 0, none⟩) L.length wc, .slice (some ⟨x, 0, none⟩) l kc, .func (.func 14) #[] #[.pointer (some ⟨W3.heap.size, 0, none⟩)], .bool false, .slice (some ⟨x, 0, none⟩) l kc, .func (.func 14) #[] #[.pointer (some ⟨w4.heap.size + 1, 0, none⟩)], undef, undef, undef, undef, undef, undef, undef, undef, undef, undef, undef, undef, undef, undef, undef, undef, undef, undef, undef, undef, undef, undef, undef, undef, undef, undef, undef, undef, undef, .int .i64 (pre.length : Int), .slice (some ⟨g, 0, none⟩) L.length wc, .int .i64 (L.length : Int), .bool true, .bool true, .int .i64 (pre.length : Int), .int .i64 (pre.length : Int), .bool false, .bool false, .slice (some ⟨x, 0, none⟩) l kc, .func (.func 14) #[] #[.pointer (some ⟨W.heap.size + 1, 0, none⟩)], .string z.1, .string z.2, .int .i64 (pre2.length : Int), .slice (some ⟨g, 0, none⟩) L.length wc, .int .i64 (L.length : Int), .bool false, .slice (some ⟨x, 0, none⟩) l kc, .func (.func 14) #[] #[.pointer (some ⟨Wb.heap.size, 0, none⟩)], .string q.1, .string q.2, undef, undef, undef, undef, undef, undef, undef, undef, undef, undef, undef, undef, undef, undef, undef, undef, undef, undef, undef, undef, undef, undef, undef, undef, undef, undef, undef, undef, undef, undef, undef, undef, undef, undef, undef, undef, undef, undef, undef, undef, undef, undef, undef, undef, undef, undef, undef], defers := [] })
            (fun _ _ _ _ _ _ hs _ _ => hs)
            ?assign3 ?body3 ?done3 ?stop3
          case assign3 =>
            rintro l3 p3 q Wi K hi hK3
            gi_wp2
            exact hK3 _ _ (KeepsFrom.refl _ _) rfl hi rfl
          case body3 =>
            rintro l3 p3 q a'' Wi _ _ ⟨⟨rfl, bN3⟩, hBi, hkgi, hkfi⟩ rfl _
            have hST2 := HST.out.on (hBW.trans (hBi.mono hBW.size))
            obtain ⟨_, hgl, _, hcell⟩ := hST2.2.2.2.2.2.get
            obtain ⟨k0, k1⟩ := hcell 0 e0 he0
            simp only [Nat.zero_mul, Nat.zero_add] at k0 k1
            have cW := hST2.2.2.2.1.cell
            have cR := hST2.2.1.cell
            have fR := hST2.2.1.frozen
            have hL0 : (0 : Int) < (L.length : Int) := by omega
            have bdn : q ≠ e0 → ¬ [] ++ [q] <+: L := fun h h' => h (snoc_of_prefix (pre := []) he0 h')
            have HI : Hid ((Boxed Wi W.heap.size 3 (.int .i64 (pre2.length : Int))) ∧ (Below W.heap.size W Wi ∧ (Kg (gOf v7) Wb Wi ∧ KeepsFrom w7.heap.size Wb Wi))) := ⟨bN3, hBi, hkgi, hkfi⟩
            clear hcell hST2 bN3 hBi hkgi hkfi
            by_cases h1 : q.1 = e0.1
            · by_cases h2 : q.2 = e0.2
              · rw [← h1] at k0
                rw [← h2] at k1
                clear h1 h2 bdn
                gi_wp2
                exact ⟨KeepsFrom.refl _ _, .inr ⟨⟨rfl, HI.out.1⟩, HI.out.2⟩⟩
              · have HY : Hid (¬ [] ++ [q] <+: L) := bdn (fun h => h2 (by rw [h]))
                rw [← h1] at k0
                have h2' := str_ne h2
                clear h1 h2 bdn
                gi_wp2
                exact ⟨(KeepsOthers.setCell _ _ _).from _, .inl ⟨rfl, HY.out⟩⟩
            · have HY : Hid (¬ [] ++ [q] <+: L) := bdn (fun h => h1 (by rw [h]))
              have h1' := str_ne h1
              clear h1 bdn
              gi_wp2
              exact ⟨(KeepsOthers.setCell _ _ _).from _, .inl ⟨rfl, HY.out⟩⟩
          case done3 =>
            rintro ys Wi rfl ⟨⟨hnil, _⟩, _⟩
            exact absurd hlt (by simp [hnil])
          case stop3 =>
            rintro cd p3 Wi hpre (⟨rfl, hn⟩ | ⟨⟨rfl, bN3⟩, hBi, hkgi, hkfi⟩)
            · exact absurd hpre hn
            · have hST2 := HST.out.on (hBW.trans (hBi.mono hBW.size))
              obtain ⟨_, hgl, _, hcell⟩ := hST2.2.2.2.2.2.get
              obtain ⟨k0, k1⟩ := hcell pre2.length e he
              have cN := bN3.cell
              have fN := bN3.frozen
              have cW := hST2.2.2.2.1.cell
              have cR := hST2.2.1.cell
              have fR := hST2.2.1.frozen
              have bdy : z = e → pre2 ++ [z] <+: L := fun h => by subst h; exact snoc_prefix hp he
              have bdn : z ≠ e → ¬ pre2 ++ [z] <+: L := fun h h' => h (snoc_of_prefix he h')
              have HI : Hid ((Boxed Wi W.heap.size 3 (.int .i64 (pre2.length : Int))) ∧ (Below W.heap.size W Wi ∧ (Kg (gOf v7) Wb Wi ∧ KeepsFrom w7.heap.size Wb Wi))) := ⟨bN3, hBi, hkgi, hkfi⟩
              clear hcell hST2 bN3 hBi hkgi hkfi
              by_cases h1 : z.1 = e.1
              · by_cases h2 : z.2 = e.2
                · have HY : Hid (pre2 ++ [z] <+: L) := bdy (Prod.ext h1 h2)
                  rw [← h1] at k0
                  rw [← h2] at k1
                  clear h1 h2 bdy bdn
                  have hlb : (pre2.length : Int) ≤ 100000 := by omega
                  gi_wp2
                  exact ⟨HI.out.2.2.2.trans ((KeepsOthers.setCell _ _ _).from _), HI.out.2.2.1.t (Below.heap_setCell _ _ _ _ (fun h => hg7.1 (by simpa using h))), ⟨HY.out, by rw [List.length_append]; exact HI.out.1.set _⟩, HI.out.2.1.setCell (p := ⟨W.heap.size, 0, none⟩) (Nat.le_refl _) _⟩
                · have HY : Hid (¬ pre2 ++ [z] <+: L) := bdn (fun h => h2 (by rw [h]))
                  rw [← h1] at k0
                  have h2' := str_ne h2
                  clear h1 h2 bdy bdn
                  gi_wp2
                  exact ⟨HI.out.2.2.2.trans ((KeepsOthers.setCell _ _ _).from _), rfl, HY.out⟩
              · have HY : Hid (¬ pre2 ++ [z] <+: L) := bdn (fun h => h1 (by rw [h]))
                have h1' := str_ne h1
                clear h1 bdy bdn
                gi_wp2
                exact ⟨HI.out.2.2.2.trans ((KeepsOthers.setCell _ _ _).from _), rfl, HY.out⟩
        case done2 =>
          rintro Dn ys W' hDn rfl ⟨⟨_, bN1⟩, hBb⟩ hK2
          refine hKd _ _ ?_
          have hBe := hBW.trans (hBb.mono hBW.size)
          have hBz := hBw.trans (hBe.mono hBw.size)
          have hST1 := HST.out.on hBe
          have cN := bN1.cell
          have cW := hST1.2.2.2.1.cell
          have cT := hST1.2.2.1.cell
          have hll := cnt_ge D l
          gi_wp2
          refine ⟨trivial, ?_⟩
          refine (callsIn_wide.2 (untouched_any ⟨x, 0, none⟩ a l kc c D W' (by omega) (fun i hi => by have := cnt_at D hi; omega) hST1.2.2.2.2.1 (HR.out _ hBz))).mono ?_
          rintro e8 w8 ⟨hB11, rfl⟩
          have bR8 := boxed_on hST1.2.1 hB11
          have cR := bR8.cell
          have fR := bR8.frozen
          have hs11 := hB11.size
          have hDnl : Dn < W'.heap.size := (Array.getElem?_eq_some_iff.1 hK2).1
          have hsb := hBb.size
          clear cN cW cT
          have hRn : (w8.setCell ⟨w.heap.size + 1, 0, none⟩ (.bool true)).heap[Dn]? = some (.deferred (some [])) := (Below.heap_setCell _ _ _ Dn (by show Dn ≠ w.heap.size + 1; omega)).trans ((hB11.block Dn hDnl).trans hK2)
          have hRm : ((w8.setCell ⟨w.heap.size + 1, 0, none⟩ (.bool true)).putObj Dn (.deferred none)).heap[Dm]? = some (.deferred (some [])) :=
            (World.putObj_heap_other (by omega)).trans ((Below.heap_setCell _ _ _ Dm (by show Dm ≠ w.heap.size + 1; omega)).trans ((hB11.block Dm (by omega)).trans ((hBb.block Dm hDl).trans hK)))
          have bF : Boxed (((w8.setCell ⟨w.heap.size + 1, 0, none⟩ (.bool true)).putObj Dn (.deferred none)).putObj Dm (.deferred none)) (w.heap.size + 1) 4 (.bool true) :=
            ((bR8.set (.bool true)).kept (grownBy_putObj' _ Dn _) (fun h => by cases h; omega)).kept (grownBy_putObj' _ Dm _) (fun h => by cases h; omega)
          have cF := bF.cell
          have HF : Hid (Below w.heap.size w (((w8.setCell ⟨w.heap.size + 1, 0, none⟩ (.bool true)).putObj Dn (.deferred none)).putObj Dm (.deferred none))) :=
            (((hBz.trans (hB11.mono hBz.size)).setCell (p := ⟨w.heap.size + 1, 0, none⟩) (by simp) _).trans (belowK_b (w := w) (Nat.le_refl _) _ Dn _ _ (by omega) hRn rfl rfl)).trans (belowK_b (w := w) (Nat.le_refl _) _ Dm _ _ (by omega) hRm rfl rfl)
          gi_wp2
          refine ⟨by simp, .inl ⟨_, _, rfl, run_takeDeferred hRn, ?_⟩⟩
          refine ⟨by simp, .inl ⟨_, _, rfl, run_takeDeferred hRm, ?_⟩⟩
          exact ⟨.bool true, by simp [results, Try.f3, go_sem, cF], rfl, HF.out⟩
        case stop2 =>
          rintro Dn cd pre2 W' hDn hpre ⟨_, hn⟩ hK2
          exact absurd hpre hn
    refine wpIn_rangeFunc_ownG rfl (by decide) (gf := 14) (lb := #[.pointer (some ⟨w4.heap.size + 1, 0, none⟩)]) rfl trivial (enters_of Try.func14 (by kernel_rfl) rfl)
      (all_stops Fence.wide 19 trivial rfl (by decide) (w4.heap.size + 1) (w4.heap.size + 1) v5 L hlen w5 bx5 lr5) Kg.t (Kg.b hg5.2) (Below.refl _ _) (fun _ => rfl)
      (fun pre W => (pre <+: L ∧ Boxed W w4.heap.size 3 (.int .i64 (pre.length : Int))) ∧ Below W3.heap.size W3 W)
      (fun cd pre W => (cd = .ret ∧ ¬ pre <+: L) ∨ ((cd = .exit 0 ∧ (pre.length : Int) = stop ∧ Boxed W w4.heap.size 3 (.int .i64 (pre.length : Int))) ∧ Below W3.heap.size W3 W))
      (OwnFrom.and (OwnFrom.and (ownFrom_pure _ _) (Own.from (boxed_own _ _ _) _)) (ownFrom_below (Nat.le_refl _) (by omega)))
      (fun cd => OwnFrom.or (ownFrom_pure _ _) (OwnFrom.and (OwnFrom.and (ownFrom_pure _ _) (OwnFrom.and (ownFrom_pure _ _) (Own.from (boxed_own _ _ _) _))) (ownFrom_below (Nat.le_refl _) (by omega))))
      ⟨⟨List.nil_prefix, bI⟩, hB7⟩
      (fun y => { tmps := #[.slice a l c, .int .i64 stop, undef, .pointer (some ⟨w.heap.size, 0, none⟩), .pointer (some ⟨w.heap.size + 1, 0, none⟩), .pointer (some ⟨w2.heap.size, 0, none⟩), .pointer (some ⟨w3.heap.size, 0, none⟩), .pointer (some ⟨w4.heap.size, 0, none⟩), .string y.1, .string y.2, undef, undef, undef, undef, undef, .slice a l c, .bool false, .slice a l c, .slice (some ⟨x, 0, none⟩) l kc, .slice a l c, .slice wa L.length wc, .slice (some ⟨x, 0, none⟩) l kc, .func (.func 14) #[] #[.pointer (some ⟨W3.heap.size, 0, none⟩)], .bool false, .slice (some ⟨x, 0, none⟩) l kc, .func (.func 14) #[] #[.pointer (some ⟨w4.heap.size + 1, 0, none⟩)], .string y.1, .string y.2, undef, undef, undef, undef, undef, undef, undef, undef, undef, undef, undef, undef, undef, undef, undef, undef, undef, undef, undef, undef, undef, undef, undef, undef, undef, undef, undef, undef, undef, undef, undef, undef, undef, undef, undef, undef, undef, undef, undef, undef, undef, undef, undef, undef, undef, undef, undef, undef, undef, undef, undef, undef, undef, undef, undef, undef, undef, undef, undef, undef, undef, undef, undef, undef, undef, undef, undef, undef, undef, undef, undef, undef, undef, undef, undef, undef, undef, undef, undef, undef, undef, undef, undef, undef, undef, undef, undef, undef, undef, undef, undef, undef, undef, undef, undef], defers := [] }) ?assign ?body ?done ?stop
    case assign =>
      intro l2 y W K hK
      gi_wp2
      exact hK
    case body =>
      rintro l2 pre y W ⟨⟨hp, bI1⟩, hBW⟩ hlt
      clear rest hKc
      have hST1 := HST.out.on hBW
      obtain ⟨g, hwa⟩ := hST1.2.2.2.2.2.some (by omega)
      subst hwa
      obtain ⟨_, hgl, _, hcell⟩ := hST1.2.2.2.2.2.get
      obtain ⟨e, he⟩ : ∃ e, L[pre.length]? = some e := ⟨L[pre.length], List.getElem?_eq_getElem hlt⟩
      obtain ⟨k0, k1⟩ := hcell _ e he
      have cI := bI1.cell
      have fI := bI1.frozen
      have cS := hST1.1.cell
      have cW := hST1.2.2.2.1.cell
      have cR := hST1.2.1.cell
      have fR := hST1.2.1.frozen
      have hlt' : ¬ (L.length : Int) ≤ (pre.length : Int) := by omega
      have bdy : y = e → pre ++ [y] <+: L := fun h => by subst h; exact snoc_prefix hp he
      have bdn : y ≠ e → ¬ pre ++ [y] <+: L := fun h h' => h (snoc_of_prefix he h')
      have hne : w.heap.size ≠ w4.heap.size := by omega
      have cS2 : ∀ v, (W.setCell ⟨w4.heap.size, 0, none⟩ v).cell? ⟨w.heap.size, 0, none⟩ = some (.int .i64 stop) := fun v => (hST1.1.other hne v).cell
      clear hcell hST1 hne
      have HW : Hid (Below W3.heap.size W3 W) := hBW
      have HP : Hid (pre <+: L) := hp
      have HBI : Hid (Boxed W w4.heap.size 3 (.int .i64 (pre.length : Int))) := bI1
      clear hBW hp bI1
      by_cases h1 : y.1 = e.1
      · by_cases h2 : y.2 = e.2
        · have HY : Hid (pre ++ [y] <+: L) := bdy (Prod.ext h1 h2)
          clear bdy bdn
          rw [← h1] at k0
          rw [← h2] at k1
          clear h1 h2
          have hlb : (pre.length : Int) ≤ 100000 := by omega
          gi_wp2
          · have hst : ((pre.length : Int) + 1 == stop) = true := by assumption
            have hst' : (pre.length : Int) + 1 = stop := eq_of_beq hst
            exact ⟨(KeepsOthers.setCell _ _ _).from _, .inr ⟨⟨rfl, by rw [List.length_append]; exact hst', by rw [List.length_append]; exact HBI.out.set _⟩, HW.out.setCell (p := ⟨w4.heap.size, 0, none⟩) hs4 _⟩⟩
          · exact ⟨(KeepsOthers.setCell _ _ _).from _, Below.heap_setCell _ _ _ _ (fun h => hg5.1 (by simpa using h)), ⟨HY.out, by rw [List.length_append]; exact HBI.out.set _⟩, HW.out.setCell (p := ⟨w4.heap.size, 0, none⟩) hs4 _⟩
        · have HY : Hid (¬ pre ++ [y] <+: L) := bdn (fun h => h2 (by rw [h]))
          clear bdy bdn
          rw [← h1] at k0
          have h2' := str_ne h2
          clear h1 h2
          gi_wp2
          all_goals first | exact ⟨(KeepsOthers.setCell _ _ _).from _, .inl ⟨rfl, HY.out⟩⟩ | skip
      · have HY : Hid (¬ pre ++ [y] <+: L) := bdn (fun h => h1 (by rw [h]))
        clear bdy bdn
        have h1' := str_ne h1
        clear h1
        gi_wp2
        all_goals first | exact ⟨(KeepsOthers.setCell _ _ _).from _, .inl ⟨rfl, HY.out⟩⟩ | skip
    case done =>
      rintro Dm ys W hD rfl ⟨⟨_, bI1⟩, hBW⟩ hK
      exact rest Dm ys W hD (.inl rfl) bI1 hBW hK
    case stop =>
      rintro Dm cd pre W hD hpre (⟨_, hn⟩ | ⟨⟨rfl, hst, bI1⟩, hBW⟩) hK
      · exact absurd hpre hn
      · gi_wp2
        exact rest Dm pre W hD (.inr hst) bI1 hBW hK
end Ra
end Go.Proofs.Ytcolkfoodjpdjaa
