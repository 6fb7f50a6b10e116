import Derived.Test.YtgoigcpdfecfhaaGreatDoorMgA
namespace Go.Proofs.YtgoigcpdfecfhaaGreatDoor
namespace Au
open Go.RowKit Go.Shelf
set_option linter.unusedVariables false
attribute [local go_sem] Oper.semAt_some
/-- A frame that a range's own book-keeping does not see. -/
theorem keepsFrom_ch {X : Nat → Prop} {B : Nat} {W W' : World} (h : Ch X W W') (hX : ∀ k, X k → k < B) : KeepsFrom B W W' :=
  ⟨h.size, fun k o hk h0 _ => (h.block k (lt_of_some h0) (fun hx => by have := hX k hx; omega)).trans h0⟩
theorem keepsFrom_below {B : Nat} {W W' : World} (h : Below W.heap.size W W') : KeepsFrom B W W' := ⟨h.size, fun k o _ h0 _ => (h.block k (Array.getElem?_eq_some_iff.1 h0).1).trans h0⟩
theorem ownFrom_lows {β : Type} {B B' : Nat} {J : β → World → Prop} (hB : B ≤ B') (hJ : ∀ s W W', J s W → (∀ k, k < B → W'.heap[k]? = W.heap[k]?) → J s W') (hl : ∀ s W, J s W → B ≤ W.heap.size) : OwnFrom B' J :=
  fun s X Y row hs hg hr => hJ s X Y hs (fun k hk => hg.block k (Nat.lt_of_lt_of_le hk (hl s X hs)) (fun e => by have := (hr k e.symm).1; omega))
/-- What over holds at each edge. -/
def Ov (B qb : Nat) (see : Value) (X : Nat → Prop) (J : List T3 → World → Prop) (n : Nat) (kd : Int) (w : World) (pre : List Tl) (W : World) : Prop :=
  J (pre.map Prod.fst) W ∧ (∀ x ∈ pre, x.2 = 0 ∧ bad n kd x.1 = 0) ∧ Ch X w W ∧ Boxed W B 75 (.pointer (some ⟨qb, 0, none⟩)) ∧ Boxed W (B + 1) 80 see ∧ Boxed W (B + 2) 36 (.int .i64 0)
def Ow (B : Nat) (X : Nat → Prop) (J : List T3 → World → Prop) (n : Nat) (kd : Int) (w : World) (c : Code) (pre : List Tl) (W : World) : Prop :=
  c = .ret ∧ ∃ p x, pre = p ++ [x] ∧ J (p.map Prod.fst) W ∧ (∀ x ∈ p, x.2 = 0 ∧ bad n kd x.1 = 0) ∧ Ch X w W ∧ (if x.2 = 0 then bad n kd x.1 else x.2) ≠ 0 ∧ Boxed W (B + 2) 36 (.int .i64 (if x.2 = 0 then bad n kd x.1 else x.2))
theorem fa_ms (n : Nat) (kd : Int) (L : List T3) (f : Int) (p : List Tl) (x : Tl) (hp : p ++ [x] <+: Ms L f) (hg : ∀ x ∈ p, x.2 = 0 ∧ bad n kd x.1 = 0) (hx : (if x.2 = 0 then bad n kd x.1 else x.2) ≠ 0) : fa n kd L f = if x.2 = 0 then bad n kd x.1 else x.2 := by
  have hlt : p.length < (Ms L f).length := by have := hp.length_le; simp at this; omega
  have hget : (Ms L f)[p.length]? = some x := by
    obtain ⟨t, ht⟩ := hp
    rw [← ht]; simp
  have hpre : p = (Ms L f).take p.length := by
    obtain ⟨t, ht⟩ := hp
    rw [← ht]; simp
  by_cases hk : p.length < L.length
  · have hL : L[p.length]? = some L[p.length] := List.getElem?_eq_getElem hk
    have hxe : x = (L[p.length], 0) := by
      unfold Ms at hget
      rw [List.getElem?_append_left (by simpa using hk), List.getElem?_map, hL] at hget
      simpa using hget.symm
    subst hxe
    rw [if_pos rfl] at hx ⊢
    rw [Ms_take L f _ (by omega)] at hpre
    have hsplit : L = L.take p.length ++ L[p.length] :: L.drop (p.length + 1) := by
      rw [← List.drop_eq_getElem_cons hk, List.take_append_drop]
    generalize L[p.length] = e0 at *
    show fa n kd L f = bad n kd e0
    have hx' : bad n kd e0 ≠ 0 := hx
    conv => lhs; rw [hsplit]
    rw [fa_app n kd (L.take p.length) _ f (fun e he => by
      have : (e, (0 : Int)) ∈ p := by rw [hpre]; exact List.mem_map.2 ⟨e, he, rfl⟩
      exact (hg _ this).2)]
    simp only [fa]
    rw [if_neg hx']
  · have hMl := Ms_len L f
    by_cases h0 : f = 0
    · rw [if_pos h0] at hMl; omega
    · rw [if_neg h0] at hMl
      have hpl : p.length = L.length := by omega
      have hxe : x = ((0, 0, 0), f) := by
        rw [Ms_last L f h0, List.getElem?_append_right (by rw [List.length_take]; omega), List.length_take, hpl] at hget
        rw [show L.length - min L.length (Ms L f).length = 0 by omega] at hget
        simpa using hget.symm
      subst hxe
      rw [if_neg h0]
      rw [hpl, Ms_take L f _ (Nat.le_refl _), List.take_length] at hpre
      have := fa_app n kd L [] f (fun e he => by
        have : (e, (0 : Int)) ∈ p := by rw [hpre]; exact List.mem_map.2 ⟨e, he, rfl⟩
        exact (hg _ this).2)
      rw [List.append_nil] at this
      rw [this]; rfl
theorem fa_all (n : Nat) (kd : Int) (L : List T3) (f : Int) (hg : ∀ x ∈ Ms L f, x.2 = 0 ∧ bad n kd x.1 = 0) : fa n kd L f = 0 ∧ (Ms L f).map Prod.fst = L := by
  have h0 : f = 0 := by
    apply Classical.byContradiction
    intro h
    have : (((0, 0, 0), f) : Tl) ∈ Ms L f := by unfold Ms; rw [if_neg h]; simp
    exact h (hg _ this).1
  subst h0
  have hm : Ms L 0 = L.map (fun x => (x, 0)) := by unfold Ms; simp
  rw [hm] at hg ⊢
  have := fa_app n kd L [] 0 (fun e he => (hg _ (List.mem_map.2 ⟨e, he, rfl⟩)).2)
  rw [List.append_nil] at this
  refine ⟨this.trans rfl, ?_⟩
  rw [List.map_map]
  exact List.map_id' L
set_option maxRecDepth 100000 in
set_option maxHeartbeats 4000000 in
theorem over_any (qb n g Bt Bf K : Nat) (kd : Int) (sl : Value) (bx : Array Value) (L : List T3) (f : Int) (X : Nat → Prop) (J : List T3 → World → Prop) (hk : kd ≠ 3) (hlen : L.length ≤ 140737488351232) (w : World)
    (HE : ∀ A W, (callFunc K A).run Tryz.prog W = .ok (.enter K A) W)
    (hF : Fd w g Bt Bf L f) (hXg : ¬ X g) (hXt : ¬ X Bt) (hXf : ¬ X Bf) (hXl : ∀ k, X k → k < w.heap.size)
    (hq : ∀ pre W, J pre W → ∃ o, Iq W qb n kd (.func (.func 41) #[] #[.pointer (some ⟨Bt, 0, none⟩), .pointer (some ⟨Bf, 0, none⟩)]) sl o)
    (hJ : ∀ pre W W', J pre W → (∀ k, k < w.heap.size → W'.heap[k]? = W.heap[k]?) → J pre W')
    (hsee : ∀ pre e W, pre.length < L.length + 1 → bad n kd e = 0 → J pre W → w.heap.size ≤ W.heap.size → Calls Tryz.prog K (#[eV e.1 e.2.1 e.2.2] ++ bx) W fun r W' => (∃ v, r = .returned v) ∧ J (pre ++ [e]) W' ∧ Ch X W W')
    (h0 : J [] w) :
    Calls Tryz.prog 35 #[.pointer (some ⟨qb, 0, none⟩), .func (.func K) #[] bx] w fun e w' => ∃ E, e = .returned (.int .i64 E) ∧ E = fa n kd L f ∧ Ch X w w' ∧ ((E = 0 ∧ J L w') ∨ (E ≠ 0 ∧ ∃ pre, J pre w')) := by
  obtain ⟨B, hB⟩ : ∃ B, B = w.heap.size := ⟨_, rfl⟩
  have hFl := hF.lt
  obtain ⟨o0, hQ0⟩ := hq [] w h0
  have hqb := hQ0.lt
  obtain ⟨W0, hW0⟩ : ∃ W0, ((w.alloc (.cells #[.pointer (some ⟨qb, 0, none⟩)] 75)).alloc (.cells #[.func (.func K) #[] bx] 80)).alloc (.cells #[.int .i64 0] 36) = W0 := ⟨_, rfl⟩
  have hbel : Below w.heap.size w W0 := by rw [← hW0]; exact bA (bA (b1 _ _ _) (by simp) _) (by simp only [World.size_alloc]; omega) _
  have hsz : W0.heap.size = B + 3 := by rw [← hW0]; simp; omega
  have hb1 : Boxed W0 B 75 (.pointer (some ⟨qb, 0, none⟩)) := by rw [← hW0, hB]; exact ((Boxed.new w _ _).alloc _).alloc _
  have hb2 : Boxed W0 (B + 1) 80 (.func (.func K) #[] bx) := by rw [← hW0, hB]; have := ((Boxed.new (w.alloc (.cells #[.pointer (some ⟨qb, 0, none⟩)] 75)) 80 (.func (.func K) #[] bx)).alloc (.cells #[.int .i64 0] 36)); simpa using this
  have hb3 : Boxed W0 (B + 2) 36 (.int .i64 0) := by rw [← hW0, hB]; have := (Boxed.new ((w.alloc (.cells #[.pointer (some ⟨qb, 0, none⟩)] 75)).alloc (.cells #[.func (.func K) #[] bx] 80)) 36 (.int .i64 0)); simpa using this
  have hI0 : Ov B qb (.func (.func K) #[] bx) X J n kd w [] W0 := ⟨hJ _ _ _ h0 (fun k hk => hbel.block k hk), fun x hx => (List.not_mem_nil hx).elim, Ch.of hbel, hb1, hb2, hb3⟩
  have hQ1 := (hQ0.on (X := fun _ => False) (Ch.of hbel) (fun h => h)).c.2.2.1
  refine (callsIn_wide (n := 20)).1 ?_
  refine callsIn_of_wp_marks Tryz.func35 rfl trivial ?_ rfl
  simp only [Tryz.ntmps35, List.size_toArray, List.length_cons, List.length_nil, Nat.reduceAdd, Nat.reduceSub, Array.replicate_succ, Array.replicate_zero, List.push_toArray, List.append_toArray, List.nil_append, List.cons_append]
  have hI0h := hide hI0
  rw [← hW0] at hQ1
  have hW0h := hide hW0
  have HFd := hide hF
  have HQ := hide hq
  have HJ := hide hJ
  have HS := hide hsee
  have hbelH := hide hbel
  clear hI0 hW0 hb1 hb2 hb3 hbel hF hq hJ hsee hQ0 h0
  gi_wp2
  rw [hW0h.out]
  have hFd0 : Fd W0 g Bt Bf L f := HFd.out.on (X := fun _ => False) (Ch.of hbelH.out) (fun h => h) (fun h => h) (fun h => h)
  subst hB
  have hend : ∀ (D : Nat) (E : Int) (W : World), W0.heap.size ≤ D → E = fa n kd L f → Ch X w W → ((E = 0 ∧ J L W) ∨ (E ≠ 0 ∧ ∃ pre, J pre W)) → Boxed W (w.heap.size + 2) 36 (.int .i64 E) → W.heap[D]? = some (.deferred (some [])) →
      (Ch X w (W.putObj D (.deferred none)) ∧ ((E = 0 ∧ J L (W.putObj D (.deferred none))) ∨ (E ≠ 0 ∧ ∃ pre, J pre (W.putObj D (.deferred none)))) ∧ Boxed (W.putObj D (.deferred none)) (w.heap.size + 2) 36 (.int .i64 E)) := by
    intro D E W hD hE hC hJJ hbx hdf
    have hke : ∀ k, k < w.heap.size + 3 → (W.putObj D (.deferred none)).heap[k]? = W.heap[k]? := fun k hk => World.putObj_heap_other (by omega)
    refine ⟨⟨hC.os, hC.tape, hC.output, by simp; exact hC.size, fun k hk hx => (hke k (by omega)).trans (hC.block k hk hx)⟩, ?_, (hke _ (by omega)).trans hbx⟩
    · rcases hJJ with ⟨a, b⟩ | ⟨a, pre, b⟩
      · exact .inl ⟨a, HJ.out _ _ _ b (fun k hk => hke k (by omega))⟩
      · exact .inr ⟨a, pre, HJ.out _ _ _ b (fun k hk => hke k (by omega))⟩
  rename_i Q1 K1 hK1
  refine wpIn_rangeFunc_ownH rfl (by decide) (gf := 41) (lb := #[.pointer (some ⟨Bt, 0, none⟩), .pointer (some ⟨Bf, 0, none⟩)]) rfl trivial (enters_of Tryz.func41 (by kernel_rfl) rfl)
    (Fd.stops Fence.wide 19 trivial rfl (by decide) hlen hFd0) Kk.t (Kk.b hFd0.lt.1 hFd0.lt.2.2) (Below.refl _ _) (fun _ => rfl)
    (Ov w.heap.size qb (.func (.func K) #[] bx) X J n kd w) (Ow w.heap.size X J n kd w) ?own ?ownx hI0h.out
    (fun z a' W' => ∃ Bx, a' = { tmps := #[.pointer (some ⟨qb, 0, none⟩), .func (.func K) #[] bx, .pointer (some ⟨w.heap.size, 0, none⟩), .pointer (some ⟨w.heap.size + 1, 0, none⟩), .pointer (some ⟨w.heap.size + 1 + 1, 0, none⟩), .pointer (some ⟨Bx, 0, none⟩), .int .i64 z.2, .pointer (some ⟨qb, 0, none⟩), .pointer (some ⟨qb, 0, none⟩), .pointer (some ⟨qb, 2, none⟩), .func (.func 41) #[] #[.pointer (some ⟨Bt, 0, none⟩), .pointer (some ⟨Bf, 0, none⟩)], eV z.1.1 z.1.2.1 z.1.2.2, .int .i64 z.2, undef, undef, undef, undef, undef, undef, undef, undef, undef, undef, undef], defers := [] } ∧ W'.heap[Bx]? = some (.cells #[.int .u32 z.1.1, .int .u32 z.1.2.1, .int .u32 z.1.2.2] 78) ∧ w.heap.size + 2 < Bx)
    (fun z a' _ X Y row hs hg hr => by
      obtain ⟨Bx, h1, h2, h3⟩ := hs
      refine ⟨Bx, h1, (hg.block Bx (Array.getElem?_eq_some_iff.1 h2).1 (fun e => ?_)).trans h2, h3⟩
      obtain ⟨_, o, ho, hc⟩ := hr Bx e.symm
      rw [h2] at ho; cases ho; cases hc)
    ?assign ?body ?done ?stop
  case own =>
    rintro s X1 Y1 row ⟨a1, a2, a3, a4, a5, a6⟩ hg hr
    have hl := a6.lt
    have key : ∀ k, k < w.heap.size + 3 → Y1.heap[k]? = X1.heap[k]? := fun k hk => hg.block k (by omega) (fun e => by have := (hr k e.symm).1; omega)
    exact ⟨HJ.out _ _ _ a1 (fun k hk => key k (by omega)), a2, ⟨hg.os.trans a3.os, hg.tape.trans a3.tape, hg.output.trans a3.output, Nat.le_trans a3.size hg.size, fun k hk hx => (key k (by omega)).trans (a3.block k hk hx)⟩, (key _ (by omega)).trans a4, (key _ (by omega)).trans a5, (key _ (by omega)).trans a6⟩
  case ownx =>
    rintro c s X1 Y1 row ⟨a0, p, x, a1, a2, a3, a4, a5, a6⟩ hg hr
    have hl := a6.lt
    have key : ∀ k, k < w.heap.size + 3 → Y1.heap[k]? = X1.heap[k]? := fun k hk => hg.block k (by omega) (fun e => by have := (hr k e.symm).1; omega)
    exact ⟨a0, p, x, a1, HJ.out _ _ _ a2 (fun k hk => key k (by omega)), a3, ⟨hg.os.trans a4.os, hg.tape.trans a4.tape, hg.output.trans a4.output, Nat.le_trans a4.size hg.size, fun k hk hx => (key k (by omega)).trans (a4.block k hk hx)⟩, a5, (key _ (by omega)).trans a6⟩
  case assign =>
    rintro l2 pre z Wa K9 ⟨a1, a2, a3, a4, a5, a6⟩ hK9
    have hl := a6.lt
    have hla := hFl
    have has := a3.size
    gi_wp2
    refine hK9 _ _ (keepsFrom_below (b1 _ _ _)) (Kk.below (b1 _ _ _) (by omega) (by omega)) ⟨HJ.out _ _ _ a1 (fun k hk => (b1 _ _ _).block k (by omega)), a2, a3.alloc _, a4.alloc _, a5.alloc _, a6.alloc _⟩ ⟨Wa.heap.size, rfl, World.alloc_heap_new _ _, by omega⟩
  case body =>
    rintro l2 pre z a' Wb hl2 ⟨rc, hrc⟩ ⟨a1, a2, a3, a4, a5, a6⟩ ⟨Bx, rfl, hBx, hBx1⟩ hlt
    have hMl := Ms_len L f
    have hple : pre.length < L.length + 1 := by split at hMl <;> omega
    have hws := a3.size
    have hl6 := a6.lt
    have hBxl := lt_of_some hBx
    obtain ⟨o1, hQ1⟩ := HQ.out _ _ a1
    have hFb : Fd Wb g Bt Bf L f := HFd.out.on a3 hXg hXt hXf
    have cP : Wb.cell? ⟨w.heap.size, 0, none⟩ = some (.pointer (some ⟨qb, 0, none⟩)) := a4.cell
    have cS : Wb.cell? ⟨w.heap.size + 1, 0, none⟩ = some (.func (.func K) #[] bx) := a5.cell
    have cR : Wb.cell? ⟨w.heap.size + 1 + 1, 0, none⟩ = some (.int .i64 0) := a6.cell
    have fR : Wb.frozen? ⟨w.heap.size + 1 + 1, 0, none⟩ = false := a6.frozen
    have cX0 : Wb.cell? ⟨Bx, 0, none⟩ = some (.int .u32 z.1.1) := by simp [World.cell?, hBx]
    have cX1 : Wb.cell? ⟨Bx, 1, none⟩ = some (.int .u32 z.1.2.1) := by simp [World.cell?, hBx]
    have cX2 : Wb.cell? ⟨Bx, 2, none⟩ = some (.int .u32 z.1.2.2) := by simp [World.cell?, hBx]
    by_cases hz : z.2 = 0
    · have hz1 : (z.2 == 0) = true := by simp [hz]
      have HFa := hide (fault_any qb n kd _ sl o1 z.1.1 z.1.2.1 z.1.2.2 hk Wb hQ1)
      have HO : Hid (Ov w.heap.size qb (.func (.func K) #[] bx) X J n kd w pre Wb) := ⟨a1, a2, a3, a4, a5, a6⟩
      clear a1 a2 a3 a4 a5 a6 hQ1 hrc
      gi_wp2
      refine ⟨trivial, ?_⟩
      gi_at_call 94
      refine (CallsIn.inRound l2 (callsIn_wide.2 HFa.out)).mono ?_
      rintro e1 w1 ⟨rfl, hB1⟩
      obtain ⟨a1, a2, a3, a4, a5, a6⟩ := HO.out
      have b3 : Ch X w w1 := a3.trans (Ch.of hB1)
      have b4 : Boxed w1 w.heap.size 75 (.pointer (some ⟨qb, 0, none⟩)) := (hB1.block _ (by omega)).trans a4
      have b5 : Boxed w1 (w.heap.size + 1) 80 (.func (.func K) #[] bx) := (hB1.block _ (by omega)).trans a5
      have b6 : Boxed w1 (w.heap.size + 2) 36 (.int .i64 0) := (hB1.block _ (by omega)).trans a6
      have b1 : J (pre.map Prod.fst) w1 := HJ.out _ _ _ a1 (fun k hk => hB1.block k (by omega))
      have hs1 := hB1.size
      have d1 : w1.cell? ⟨w.heap.size + 1, 0, none⟩ = some (.func (.func K) #[] bx) := b5.cell
      have dR : w1.cell? ⟨w.heap.size + 1 + 1, 0, none⟩ = some (.int .i64 0) := b6.cell
      have dfR : w1.frozen? ⟨w.heap.size + 1 + 1, 0, none⟩ = false := b6.frozen
      have dX0 : w1.cell? ⟨Bx, 0, none⟩ = some (.int .u32 z.1.1) := (hB1.cell (p := ⟨Bx, 0, none⟩) hBxl).trans cX0
      have dX1 : w1.cell? ⟨Bx, 1, none⟩ = some (.int .u32 z.1.2.1) := (hB1.cell (p := ⟨Bx, 1, none⟩) hBxl).trans cX1
      have dX2 : w1.cell? ⟨Bx, 2, none⟩ = some (.int .u32 z.1.2.2) := (hB1.cell (p := ⟨Bx, 2, none⟩) hBxl).trans cX2
      clear HO cP cS cR fR cX0 cX1 cX2 HFa hz1
      by_cases hb : bad n kd z.1 = 0
      · have hbe : (bad n kd (z.1.1, z.1.2.1, z.1.2.2) != 0) = false := by simp; exact hb
        have HSE := hide (HS.out (pre.map Prod.fst) z.1 w1 (by simpa using hple) hb b1 (by omega))
        have HO : Hid (Ov w.heap.size qb (.func (.func K) #[] bx) X J n kd w pre w1) := ⟨b1, a2, b3, b4, b5, b6⟩
        have HB1 := hide hB1
        clear a1 a2 a3 a4 a5 a6 b1 b3 b4 b5 b6 hB1
        gi_wp2
        refine ⟨trivial, ?_⟩
        refine (CallsIn.inRound l2 (callsIn_wide.2 HSE.out)).mono ?_
        rintro e2 w2 ⟨⟨v2, rfl⟩, hJ2, hC2⟩
        obtain ⟨b1, b2, b3, b4, b5, b6⟩ := HO.out
        have hl1 := b6.lt
        have nX : ∀ k, w.heap.size ≤ k → ¬ X k := fun k hk hx => by have := hXl k hx; omega
        have HO2 : Hid (Ov w.heap.size qb (.func (.func K) #[] bx) X J n kd w (pre ++ [z]) w2) := by
          refine ⟨by rw [List.map_append]; exact hJ2, fun y hy => ?_, b3.trans hC2, (hC2.block _ (by omega) (nX _ (by omega))).trans b4, (hC2.block _ (by omega) (nX _ (by omega))).trans b5, (hC2.block _ (by omega) (nX _ (by omega))).trans b6⟩
          rcases List.mem_append.1 hy with h | h
          · exact b2 y h
          · rw [List.mem_singleton.1 h]; exact ⟨hz, hb⟩
        have HKF : Hid (KeepsFrom W0.heap.size Wb w2) := (keepsFrom_ch ((Ch.of HB1.out).trans hC2) (fun k hx => by have := hXl k hx; omega))
        have HKk : Hid (Kk g Bf Wb w2) := by
          have hb1 := HB1.out
          exact ⟨(hC2.block g (by omega) hXg).trans (hb1.block g (by omega)), (hC2.block Bf (by omega) hXf).trans (hb1.block Bf (by omega))⟩
        clear HO HSE HB1 b1 b2 b3 b4 b5 b6 hJ2 hC2 d1 dR dfR dX0 dX1 dX2
        gi_wp2
        exact ⟨HKF.out, HKk.out, HO2.out⟩
      · have hbe : (bad n kd (z.1.1, z.1.2.1, z.1.2.2) != 0) = true := by simp; exact hb
        obtain ⟨E, hE⟩ : ∃ E, bad n kd (z.1.1, z.1.2.1, z.1.2.2) = E := ⟨_, rfl⟩
        have hE0 : E ≠ 0 := by rw [← hE]; exact hb
        have hEz : (if z.2 = 0 then bad n kd z.1 else z.2) = E := by rw [if_pos hz]; exact hE
        rw [hE] at hbe
        rw [hE]
        have HO2 : Hid (KeepsFrom W0.heap.size Wb (w1.setCell ⟨w.heap.size + 1 + 1, 0, none⟩ (.int .i64 E)) ∧ Ow w.heap.size X J n kd w .ret (pre ++ [z]) (w1.setCell ⟨w.heap.size + 1 + 1, 0, none⟩ (.int .i64 E))) := by
          have hoth : ∀ k, k ≠ w.heap.size + 2 → (w1.setCell ⟨w.heap.size + 1 + 1, 0, none⟩ (.int .i64 E)).heap[k]? = w1.heap[k]? := fun k hk => Below.heap_setCell _ _ _ k hk
          refine ⟨⟨by simp; exact hB1.size, fun k o hk h0 _ => (hoth k (by omega)).trans ((hB1.block k (lt_of_some h0)).trans h0)⟩, rfl, pre, z, rfl, HJ.out _ _ _ b1 (fun k hk => hoth k (by omega)), a2, b3.set _ _ (Or.inr (by omega)), by rw [hEz]; exact hE0, ?_⟩
          rw [hEz]
          exact Boxed.set _ b6
        clear a1 a2 a3 a4 a5 a6 b1 b3 b4 b5 b6 hB1 hEz hE
        gi_wp2
        exact HO2.out
    · have hz1 : (z.2 == 0) = false := by simp [hz]
      have hz2 : (z.2 != 0) = true := by simp [hz]
      obtain ⟨E, hE⟩ : ∃ E, z.2 = E := ⟨_, rfl⟩
      have hEz : (if z.2 = 0 then bad n kd z.1 else z.2) = E := by rw [if_neg hz]; exact hE
      have HO2 : Hid (KeepsFrom W0.heap.size Wb (Wb.setCell ⟨w.heap.size + 1 + 1, 0, none⟩ (.int .i64 E)) ∧ Ow w.heap.size X J n kd w .ret (pre ++ [z]) (Wb.setCell ⟨w.heap.size + 1 + 1, 0, none⟩ (.int .i64 E))) := by
        have hoth : ∀ k, k ≠ w.heap.size + 2 → (Wb.setCell ⟨w.heap.size + 1 + 1, 0, none⟩ (.int .i64 E)).heap[k]? = Wb.heap[k]? := fun k hk => Below.heap_setCell _ _ _ k hk
        refine ⟨⟨by simp, fun k o hk h0 _ => (hoth k (by omega)).trans h0⟩, rfl, pre, z, rfl, HJ.out _ _ _ a1 (fun k hk => hoth k (by omega)), a2, a3.set _ _ (Or.inr (by omega)), by rw [hEz, ← hE]; exact hz, ?_⟩
        rw [hEz]
        exact Boxed.set _ a6
      rw [hE] at hz1 hz2
      rw [hE]
      clear a1 a2 a3 a4 a5 a6 hEz hE hQ1 hrc hz
      gi_wp2
      exact HO2.out
  case done =>
    rintro D ys W' hDn rfl ⟨a1, a2, a3, a4, a5, a6⟩ hK
    obtain ⟨f1, f2⟩ := fa_all n kd L f a2
    rw [f2] at a1
    have hoth : ∀ k, k ≠ w.heap.size + 2 → (W'.setCell ⟨w.heap.size + 1 + 1, 0, none⟩ (.int .i64 0)).heap[k]? = W'.heap[k]? := fun k hk => Below.heap_setCell _ _ _ k hk
    have hK' : (W'.setCell ⟨w.heap.size + 1 + 1, 0, none⟩ (.int .i64 0)).heap[D]? = some (.deferred (some [])) := (hoth D (by omega)).trans hK
    obtain ⟨e1, e2, e3⟩ := hend D 0 (W'.setCell ⟨w.heap.size + 1 + 1, 0, none⟩ (.int .i64 0)) hDn f1.symm (a3.set _ _ (Or.inr (by omega))) (.inl ⟨rfl, HJ.out _ _ _ a1 (fun k hk => hoth k (by omega))⟩) (Boxed.set _ a6) hK'
    have cR : W'.cell? ⟨w.heap.size + 1 + 1, 0, none⟩ = some (.int .i64 0) := a6.cell
    have fR : W'.frozen? ⟨w.heap.size + 1 + 1, 0, none⟩ = false := a6.frozen
    have cE : ((W'.setCell ⟨w.heap.size + 1 + 1, 0, none⟩ (.int .i64 0)).putObj D (.deferred none)).cell? ⟨w.heap.size + 1 + 1, 0, none⟩ = some (.int .i64 0) := e3.cell
    have HJL : Hid (J L ((W'.setCell ⟨w.heap.size + 1 + 1, 0, none⟩ (.int .i64 0)).putObj D (.deferred none))) := by rcases e2 with ⟨_, h⟩ | ⟨h, _⟩; exact h; exact absurd rfl h
    have HC1 := hide e1
    clear a1 a2 a3 a4 a5 a6 e1 e2 e3 hend HJ HS HQ HFd hFd0
    refine hK1 _ _ ?_
    gi_wp2
    refine ⟨by simp, .inl ⟨_, _, rfl, run_takeDeferred hK', ?_⟩⟩
    exact ⟨.int .i64 0, by simp [results, Tryz.f35, go_sem, cE], ⟨0, rfl, by first | exact f1.symm | rfl, HC1.out, .inl ⟨rfl, HJL.out⟩⟩⟩
  case stop =>
    rintro D cd pre W' hDn hpre ⟨rfl, p, x, rfl, a2, a3, a4, a5, a6⟩ hK
    have f1 := fa_ms n kd L f p x hpre a3 a5
    obtain ⟨E, hE⟩ : ∃ E, (if x.2 = 0 then bad n kd x.1 else x.2) = E := ⟨_, rfl⟩
    rw [hE] at a5 a6 f1
    obtain ⟨e1, e2, e3⟩ := hend D E W' hDn f1.symm a4 (.inr ⟨a5, _, a2⟩) a6 hK
    have cE : (W'.putObj D (.deferred none)).cell? ⟨w.heap.size + 1 + 1, 0, none⟩ = some (.int .i64 E) := e3.cell
    have HEE : Hid (Ch X w (W'.putObj D (.deferred none)) ∧ ((E = 0 ∧ J L (W'.putObj D (.deferred none))) ∨ (E ≠ 0 ∧ ∃ pre, J pre (W'.putObj D (.deferred none))))) := ⟨e1, e2⟩
    clear a2 a3 a4 a6 e1 e2 e3 hend HJ HS HQ HFd hFd0 hK1
    gi_wp2
    refine ⟨by simp, .inl ⟨_, _, rfl, run_takeDeferred hK, ?_⟩⟩
    exact ⟨.int .i64 E, by simp [results, Tryz.f35, go_sem, cE], ⟨E, rfl, f1.symm, HEE.out⟩⟩
end Au
end Go.Proofs.YtgoigcpdfecfhaaGreatDoor
namespace Go.Proofs.YtgoigcpdfecfhaaGreatDoor
namespace Au
open Go.RowKit
set_option linter.unusedVariables false
set_option maxRecDepth 8000
set_option maxHeartbeats 4000000 in
theorem rule_any (qb n r K : Nat) (kd : Int) (ed sl : Value) (o : Vd) (bx : Array Value) (β : Nat → Bool) (P : Nat → Nat → Prop) (X : Nat → Prop) (J : World → Prop) (hn : n < 4294967296) (w : World)
    (HE : ∀ A W, (callFunc K A).run Tryz.prog W = .ok (.enter K A) W)
    (h : Iq w qb n kd ed sl o) (hJ0 : J w) (hXq : ¬ X qb) (hJq : ∀ W W', J W → Ch (fun k => k = qb) W W' → J W') (hP : Lm P o)
    (hb : ∀ v W, v < n → J W → Iq W qb n kd ed sl o → Calls Tryz.prog K (#[.int .u32 (v : Int)] ++ bx) W fun e W' => e = .returned (.bool (β v)) ∧ J W' ∧ Ch X W W') :
    Calls Tryz.prog 38 #[.pointer (some ⟨qb, 0, none⟩), .int .i64 (r : Int), .func (.func K) #[] bx] w fun e w' => (∃ x, e = .returned x) ∧ ∃ o', Lm (fun a b => P a b ∨ (b = r ∧ a < n ∧ β a = true)) o' ∧ Iq w' qb n kd ed sl o' ∧ J w' ∧ Ch (fun k => X k ∨ k = qb) w w' := by
  obtain ⟨c0, _⟩ := h.c
  have HH := hide h
  have HP := hide hP
  have HJ := hide hJq
  have HB := hide hb
  have HJ0 := hide hJ0
  clear h hP hJq hb hJ0
  go_enter Tryz.func38, Tryz.ntmps38
  go_wp2_with (fail)
  go_loopw [11] (fun t wr => ∃ v : Nat, v ≤ n ∧ t = .int .u32 v ∧ Hid (Iq wr qb n kd ed sl o) ∧ Hid (J wr) ∧ Hid (Ch (fun k => X k ∨ k = qb) w wr) ∧ Hid (∀ u, u < v → β u = false)) (fun t _ => n - (intOf t).toNat)
  case atStart => exact ⟨0, Nat.zero_le _, rfl, HH, HJ0, Ch.refl _ _, fun u hu => by omega⟩
  case round =>
    clear HH HJ0
    obtain ⟨v, hv, rfl, HI, HJw, HC, HF⟩ := hrel
    by_cases cc : v < n
    · have hcc : (v : Int) < (n : Int) := by omega
      have HBv := hide (HB.out v wr cc HJw.out HI.out)
      have hcv : IntKind.u32.wrap (v : Int) = v := by simp only [IntKind.wrap, IntKind.signed, IntKind.bits]; simp; omega
      go_wp2_with (fail)
      refine HBv.out.mono ?_
      rintro e1 w1 ⟨rfl, hJ1, hC1⟩
      have HI1 := hide (HI.out.on hC1 hXq)
      have HJ1 := hide hJ1
      have HC1 : Hid (Ch (fun k => X k ∨ k = qb) w w1) := HC.out.trans (hC1.mono (fun k _ hx => Or.inl hx))
      clear hJ1 hC1 HBv
      cases hβ : β v with
      | true =>
        have HN := hide (note_any qb v r n kd ed sl o w1 HI1.out)
        have HL := hide (HP.out.rule (r := r) cc hβ HF.out)
        clear hβ
        go_wp2_with (fail)
        refine HN.out.mono ?_
        rintro e2 w2 ⟨⟨x2, rfl⟩, hI2, hC2⟩
        have HEn : Hid (∃ o', Lm (fun a b => P a b ∨ (b = r ∧ a < n ∧ β a = true)) o' ∧ Iq w2 qb n kd ed sl o' ∧ J w2 ∧ Ch (fun k => X k ∨ k = qb) w w2) := ⟨_, HL.out, hI2, HJ.out _ _ HJ1.out hC2, HC1.out.trans (hC2.mono (fun k _ hx => Or.inr hx))⟩
        clear hI2 hC2 HN HL
        go_wp2
        all_goals (refine bodyPost_ret (results_none rfl _ _ _) rfl ?_)
        all_goals exact ⟨⟨_, rfl⟩, HEn.out⟩
      | false =>
        have HF1 : Hid (∀ u, u < v + 1 → β u = false) := fun u hu => by
          by_cases e : u = v
          · rw [e]; exact hβ
          · exact HF.out u (by omega)
        clear hβ HF
        go_wp2
        all_goals exact ⟨⟨v + 1, cc, by go_num, HI1, HJ1, HC1, HF1⟩, by simp [intOf]; omega⟩
    · have hvn : n = v := by omega
      subst hvn
      have HEn : Hid (∃ o', Lm (fun a b => P a b ∨ (b = r ∧ a < n ∧ β a = true)) o' ∧ Iq wr qb n kd ed sl o' ∧ J wr ∧ Ch (fun k => X k ∨ k = qb) w wr) := ⟨o, HP.out.none_rule HF.out, HI.out, HJw.out, HC.out⟩
      clear HF HI HJw HC
      go_wp2
      go_end0
      exact ⟨⟨_, rfl⟩, HEn.out⟩
abbrev z3 : Array Value := #[.bool false, .int .u32 0, .int .i64 0]
/-- What a verdict and an error are told as. -/
def vx (E : Int) (o : Vd) : Array Value := if E = 0 then #[.bool (vR o), .int .u32 (vV o), .int .i64 (vK o)] else z3
abbrev fe (Bt Bf : Nat) : Value := .func (.func 41) #[] #[.pointer (some ⟨Bt, 0, none⟩), .pointer (some ⟨Bf, 0, none⟩)]
theorem fe_ne (fv : Array Value) (W : World) : Sem.run Tryz.prog (binOp BinOp.eql 40 (Value.func (Fn.func 41) #[] fv) Value.nilFunc) W = .ok (.bool false) W := rfl
/-- What is asked ahead of the edges. -/
def ak (made : Int) (n sn rl p : Nat) : Int := if made ≠ 0 then made else if sn ≠ n then 180 else if rl < p * n then 94 else 0
theorem sets3 {w : World} {g : Nat} {old : Array Value} {t : TypeId} {fr : Nat × Nat} (hg : w.heap[g]? = some (.cells old t fr)) (hs : old.size = 3) (v0 v1 v2 : Value) :
    (((w.setCell ⟨g, 0, none⟩ v0).setCell ⟨g, 1, none⟩ v1).setCell ⟨g, 2, none⟩ v2) = w.setRow g #[v0, v1, v2] := by
  match old, hs with
  | ⟨[u0, u1, u2]⟩, _ =>
    rw [setCell_eq_setRow w g 0 #[u0, u1, u2] t fr v0 hg]
    rw [show (#[u0, u1, u2] : Array Value).setIfInBounds 0 v0 = #[v0, u1, u2] from rfl]
    have q0 := setRow_heap w g _ #[v0, u1, u2] t fr hg
    rw [setCell_eq_setRow _ g 1 #[v0, u1, u2] t fr v1 q0]
    rw [show (#[v0, u1, u2] : Array Value).setIfInBounds 1 v1 = #[v0, v1, u2] from rfl]
    rw [setRow_setRow]
    have q1 := setRow_heap w g _ #[v0, v1, u2] t fr hg
    rw [setCell_eq_setRow _ g 2 #[v0, v1, u2] t fr v2 q1]
    rw [show (#[v0, v1, u2] : Array Value).setIfInBounds 2 v2 = #[v0, v1, v2] from rfl]
    rw [setRow_setRow]
theorem size35 : (Tryz.prog.info? 35).map (·.size) = some 3 := by kernel_rfl
theorem res38 (T : Array Value) (b : Nat) (a c d : Value) (W : World) (h10 : T[10]? = some (.pointer (some ⟨b, 0, none⟩))) {E : Int} (h11 : T[11]? = some (.int .i64 E)) (h : W.heap[b]? = some (.cells #[a, c, d] 35 (0, 0))) :
    (results Tryz.f31 T).run Tryz.prog W = .ok (.tuple #[.agg #[a, c, d], .int .i64 E]) W := by
  have h0 : W.cell? ⟨b, 0, none⟩ = some a := (cell_of_row _ _ _ _ _ _ h).trans rfl
  have h1 : W.cell? ⟨b, 1, none⟩ = some c := (cell_of_row _ _ _ _ _ _ h).trans rfl
  have h2 : W.cell? ⟨b, 2, none⟩ = some d := (cell_of_row _ _ _ _ _ _ h).trans rfl
  simp [results, Tryz.f31, go_sem, h10, h11, h0, h1, h2]
set_option maxHeartbeats 4000000 in
theorem judge_bad (n p rl sn sc K rb Bt Bf : Nat) (made kd : Int) (sa : Option Addr) (bx : Array Value) (hp : p ≤ 2) (hn : n < 4294967296) (hs : sn ≤ 140737488351232) (hr : rl ≤ 5000) (hm : ak made n sn rl p ≠ 0) (w : World) :
    Calls Tryz.prog 31 #[.agg #[.int .u32 (n : Int), .int .i64 kd, fe Bt Bf, .slice sa sn sc, .bool false, .int .u32 0, .int .i64 0], .int .i64 made, .slice (some ⟨rb, 0, none⟩) rl rl, .int .i64 (p : Int), .func (.func K) #[] bx] w fun e w' =>
      e = .returned (.tuple #[.agg z3, .int .i64 (ak made n sn rl p)]) ∧ Below w.heap.size w w' := by
  have hfe := fe_ne #[.pointer (some ⟨Bt, 0, none⟩), .pointer (some ⟨Bf, 0, none⟩)]
  have HB : Hid (∀ C C', Below w.heap.size w ((w.alloc (.cells C 69)).alloc (.cells C' 35))) := fun C C' => bA (b1 _ _ _) (by simp) _
  have hw1 : IntKind.u64.wrap (p : Int) = p := wu _ (by omega) (by omega)
  have hw2 : IntKind.u64.wrap (n : Int) = n := wu _ (by omega) (by omega)
  have hpn : p * n ≤ 2 * n := Nat.mul_le_mul_right n hp
  obtain ⟨m, hpm⟩ : ∃ m, p * n = m := ⟨_, rfl⟩
  rw [hpm] at hpn
  have hw3 : IntKind.u64.wrap ((p : Int) * (n : Int)) = m := by rw [← Int.natCast_mul, hpm]; exact wu _ (by omega) (by omega)
  have hw4 : IntKind.u64.wrap (sn : Int) = sn := wu _ (by omega) (by omega)
  have hw5 : IntKind.u64.wrap (rl : Int) = rl := wu _ (by omega) (by omega)
  unfold ak at hm ⊢
  rw [hpm] at hm ⊢
  by_cases h1 : made = 0
  · rw [if_neg (by simpa using h1)] at hm ⊢
    have hm1 : (made != 0) = false := by simpa using h1
    by_cases h2 : sn = n
    · rw [if_neg (by simpa using h2)] at hm ⊢
      have hm2 : ((sn : Int) != (n : Int)) = false := by simp; omega
      by_cases h3 : rl < m
      · rw [if_pos h3]
        have hm3 : (rl : Int) < (m : Int) := by omega
        clear hm h1 h2 h3 hpm hpn
        go_enter Tryz.func31, Tryz.ntmps31
        go_wp2
        all_goals (refine bodyPost_ret (v := .tuple #[.agg z3, .int .i64 94]) ?_ rfl ?_)
        all_goals first | (simp [results, Tryz.f31, go_sem]; done) | exact ⟨rfl, HB.out _ _⟩
      · rw [if_neg h3] at hm; exact absurd rfl hm
    · rw [if_pos h2]
      have hm2 : ((sn : Int) != (n : Int)) = true := by simp; omega
      clear hm h1 h2 hpm hpn
      go_enter Tryz.func31, Tryz.ntmps31
      go_wp2
      all_goals (refine bodyPost_ret (v := .tuple #[.agg z3, .int .i64 180]) ?_ rfl ?_)
      all_goals first | (simp [results, Tryz.f31, go_sem]; done) | exact ⟨rfl, HB.out _ _⟩
  · rw [if_pos h1]
    have hm1 : (made != 0) = true := by simpa using h1
    clear hm h1 hpm hpn
    go_enter Tryz.func31, Tryz.ntmps31
    go_wp2
    all_goals (refine bodyPost_ret (v := .tuple #[.agg z3, .int .i64 made]) ?_ rfl ?_)
    all_goals first | (simp [results, Tryz.f31, go_sem]; done) | exact ⟨rfl, HB.out _ _⟩
set_option maxHeartbeats 4000000 in
theorem judge_ok (n p rl sn sc K rb Bt Bf : Nat) (made kd : Int) (sa : Option Addr) (bx : Array Value) (Y : Nat → Prop) (R : Int → Vd → World → Prop) (hp : p ≤ 2) (hn : n < 4294967296) (hs : sn ≤ 140737488351232) (hr : rl ≤ 5000) (hm : ak made n sn rl p = 0) (w : World)
    (HE : ∀ A W, (callFunc K A).run Tryz.prog W = .ok (.enter K A) W)
    (hY : ¬ Y (w.heap.size + 1))
    (hR : ∀ E o W W', R E o W → (∀ k, k < w.heap.size → W'.heap[k]? = W.heap[k]?) → R E o W')
    (hl : Calls Tryz.prog K (#[.pointer (some ⟨w.heap.size, 0, none⟩), .slice (some ⟨rb, 0, none⟩) (p * n) (p * n)] ++ bx) ((w.alloc (.cells (qc n kd (fe Bt Bf) (.slice sa sn sc) none) 69)).alloc (.cells z3 35)) fun e w' =>
      ∃ E o, e = .returned (.int .i64 E) ∧ Iq w' w.heap.size n kd (fe Bt Bf) (.slice sa sn sc) o ∧ R E o w' ∧ Ch Y ((w.alloc (.cells (qc n kd (fe Bt Bf) (.slice sa sn sc) none) 69)).alloc (.cells z3 35)) w') :
    Calls Tryz.prog 31 #[.agg #[.int .u32 (n : Int), .int .i64 kd, fe Bt Bf, .slice sa sn sc, .bool false, .int .u32 0, .int .i64 0], .int .i64 made, .slice (some ⟨rb, 0, none⟩) rl rl, .int .i64 (p : Int), .func (.func K) #[] bx] w fun e w' =>
      ∃ E o, e = .returned (.tuple #[.agg (vx E o), .int .i64 E]) ∧ R E o w' ∧ Ch Y w w' := by
  have hfe := fe_ne #[.pointer (some ⟨Bt, 0, none⟩), .pointer (some ⟨Bf, 0, none⟩)]
  have hw1 : IntKind.u64.wrap (p : Int) = p := wu _ (by omega) (by omega)
  have hw2 : IntKind.u64.wrap (n : Int) = n := wu _ (by omega) (by omega)
  have hpn : p * n ≤ 2 * n := Nat.mul_le_mul_right n hp
  obtain ⟨m, hpm⟩ : ∃ m, p * n = m := ⟨_, rfl⟩
  rw [hpm] at hpn hl
  have hw3 : IntKind.u64.wrap ((p : Int) * (n : Int)) = m := by rw [← Int.natCast_mul, hpm]; exact wu _ (by omega) (by omega)
  have hw4 : IntKind.u64.wrap (sn : Int) = sn := wu _ (by omega) (by omega)
  have hw5 : IntKind.u64.wrap (rl : Int) = rl := wu _ (by omega) (by omega)
  unfold ak at hm
  rw [hpm] at hm
  by_cases h1 : made = 0
  · rw [if_neg (by simpa using h1)] at hm
    by_cases h2 : sn = n
    · rw [if_neg (by simpa using h2)] at hm
      by_cases h3 : rl < m
      · rw [if_pos h3] at hm; omega
      · have hm1 : (made != 0) = false := by simpa using h1
        have hm2 : ((sn : Int) != (n : Int)) = false := by simp; omega
        have hm3 : ¬ (rl : Int) < (m : Int) := by omega
        have hm4 : (m : Int) ≤ (rl : Int) := by omega
        have hc0 : ((w.alloc (.cells (qc n kd (fe Bt Bf) (.slice sa sn sc) none) 69)).alloc (.cells z3 35)).heap[w.heap.size + 1]? = some (.cells z3 35) := by
          have := at0 (w.alloc (.cells (qc n kd (fe Bt Bf) (.slice sa sn sc) none) 69)) (.cells z3 35)
          simpa using this
        have HC0 := hide hc0
        have HL := hide hl
        have HB0 : Hid (Below w.heap.size w ((w.alloc (.cells (qc n kd (fe Bt Bf) (.slice sa sn sc) none) 69)).alloc (.cells z3 35))) := bA (b1 _ _ _) (by simp) _
        have HR := hide hR
        clear hm h1 h2 h3 hpm hpn hl hc0 hR
        go_enter Tryz.func31, Tryz.ntmps31
        go_wp2_with (fail)
        refine HL.out.mono ?_
        rintro e1 w1 ⟨E, o, rfl, hI, hRR, hC⟩
        obtain ⟨_, _, _, _, d4, d5, d6⟩ := hI.c
        have hs1 := hC.size
        simp only [World.size_alloc] at hs1
        have hz : w1.heap[w.heap.size + 1]? = some (.cells z3 35 (0, 0)) := (hC.block _ (by simp) hY).trans HC0.out
        have HFin : Hid (∀ a b c, R E o (((w1.setCell ⟨w.heap.size + 1, 0, none⟩ a).setCell ⟨w.heap.size + 1, 1, none⟩ b).setCell ⟨w.heap.size + 1, 2, none⟩ c) ∧ Ch Y w (((w1.setCell ⟨w.heap.size + 1, 0, none⟩ a).setCell ⟨w.heap.size + 1, 1, none⟩ b).setCell ⟨w.heap.size + 1, 2, none⟩ c) ∧ (((w1.setCell ⟨w.heap.size + 1, 0, none⟩ a).setCell ⟨w.heap.size + 1, 1, none⟩ b).setCell ⟨w.heap.size + 1, 2, none⟩ c).heap[w.heap.size + 1]? = some (.cells #[a, b, c] 35 (0, 0))) := fun a b c => by
          rw [sets3 hz rfl]
          refine ⟨HR.out _ _ _ _ hRR (fun k hk => setRow_other _ _ _ _ (by omega)), ((Ch.of HB0.out).trans hC).row _ (Or.inr (by omega)), setRow_heap _ _ _ _ _ _ hz⟩
        have f0 : w1.frozen? ⟨w.heap.size + 1, 0, none⟩ = false := frozen_of_row _ _ _ _ _ hz
        have f1 : w1.frozen? ⟨w.heap.size + 1, 1, none⟩ = false := frozen_of_row _ _ _ _ _ hz
        have f2 : w1.frozen? ⟨w.heap.size + 1, 2, none⟩ = false := frozen_of_row _ _ _ _ _ hz
        have g0 : w1.cell? ⟨w.heap.size + 1, 0, none⟩ = some (.bool false) := (cell_of_row _ _ _ _ _ _ hz).trans rfl
        have g1 : w1.cell? ⟨w.heap.size + 1, 1, none⟩ = some (.int .u32 0) := (cell_of_row _ _ _ _ _ _ hz).trans rfl
        have g2 : w1.cell? ⟨w.heap.size + 1, 2, none⟩ = some (.int .i64 0) := (cell_of_row _ _ _ _ _ _ hz).trans rfl
        clear hI hRR hC hz HL HC0 HB0 HR
        by_cases hE : E = 0
        · have hE1 : (E != 0) = false := by simpa using hE
          go_wp2
          all_goals (refine bodyPost_ret (v := .tuple #[.agg #[.bool (vR o), .int .u32 (vV o), .int .i64 (vK o)], .int .i64 0]) ?_ rfl ?_)
          all_goals first | exact res38 _ _ _ _ _ _ rfl rfl (HFin.out _ _ _).2.2 | exact ⟨E, o, by rw [hE]; rfl, (HFin.out _ _ _).1, (HFin.out _ _ _).2.1⟩
        · have hE1 : (E != 0) = true := by simpa using hE
          go_wp2
          all_goals (refine bodyPost_ret (v := .tuple #[.agg z3, .int .i64 E]) ?_ rfl ?_)
          all_goals first | exact res38 _ _ _ _ _ _ rfl rfl (HFin.out _ _ _).2.2 | exact ⟨E, o, by unfold vx; rw [if_neg hE], (HFin.out _ _ _).1, (HFin.out _ _ _).2.1⟩
    · rw [if_pos h2] at hm; omega
  · rw [if_pos h1] at hm; exact absurd hm h1
end Au
end Go.Proofs.YtgoigcpdfecfhaaGreatDoor
