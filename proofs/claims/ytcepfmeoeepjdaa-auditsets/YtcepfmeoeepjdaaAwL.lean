import Derived.Test.YtcepfmeoeepjdaaAwK
namespace Go.Proofs.Ytcepfmeoeepjdaa
namespace Au
open Go.RowKit
set_option linter.unusedVariables false
set_option maxRecDepth 8000
theorem sh_big (s : Int) (h : 64 ≤ s) : sh s = 0 := by
  unfold sh
  rw [show min s.toNat 64 = 64 by omega]
  rfl
theorem bw_big (s : Int) (h : 64 ≤ s) : bw s = 18446744073709551615 := by
  unfold bw
  rw [sh_big s h]
  rfl
theorem or_zero (t : Int) (h0 : 0 ≤ t) (h1 : t < 18446744073709551616) : bits .or .u64 t 0 = t := by
  have e : bits .or .u64 t 0 = IntKind.u64.wrap ((BitVec.ofInt 64 t ||| BitVec.ofInt 64 0).toNat : Int) := rfl
  have e2 : BitVec.ofInt 64 t ||| BitVec.ofInt 64 0 = BitVec.ofInt 64 t := by simp
  rw [e, e2, wu _ (by omega) (by have := (BitVec.ofInt 64 t).isLt; omega), BitVec.toNat_ofInt]
  omega
theorem bits_b (op : BinOp) (x y : Int) : 0 ≤ bits op .u64 x y ∧ bits op .u64 x y < 18446744073709551616 := by
  unfold bits
  simp only [IntKind.wrap, IntKind.signed, IntKind.bits]
  simp
  omega
theorem tw_b (S : Nat → Nat → Int) (n A C : Nat) (L : List T3) (v : Nat) : 0 ≤ tw S n A C L v ∧ tw S n A C L v < 18446744073709551616 := by
  unfold tw
  have key : ∀ (L : List T3) (t : Int), 0 ≤ t ∧ t < 18446744073709551616 → 0 ≤ L.foldl (twe S n A C v) t ∧ L.foldl (twe S n A C v) t < 18446744073709551616 := by
    intro L
    induction L with
    | nil => intro t h; exact h
    | cons e L ih =>
      intro t h
      refine ih _ ?_
      unfold twe
      split
      · split
        · exact bits_b _ _ _
        · exact h
      · exact h
  exact key L 0 ⟨by omega, by omega⟩
/-- More that is noted changes nothing, where a lesser rule is broken at that vertex. -/
theorem Lm.less {P Q : Nat → Nat → Prop} {o : Vd} (h : Lm Q o) (h1 : ∀ v r, P v r → Q v r) (h2 : ∀ v r, Q v r → ∃ r', r' ≤ r ∧ P v r') : Lm P o := by
  match o, h with
  | none, h => exact fun v r hp => h v r (h1 v r hp)
  | some p, h =>
    obtain ⟨r', hr, hp⟩ := h2 _ _ h.1
    have h3 := h.2 _ _ (h1 _ _ hp)
    have h4 : r' = p.2 := by omega
    rw [h4] at hp
    exact ⟨hp, fun v r hv => h.2 v r (h1 v r hv)⟩
theorem PC.lt {S : Nat → Nat → Int} {n A C : Nat} {L : List T3} {T : Nat → Int} {v r : Nat} (h : PC S n A C L T v r) : v < n := by
  rcases h with (h | h) | h
  · exact h.2.1
  · exact h.2.1
  · exact h.2.1
/-- The document's rules. -/
def PD (S : Nat → Nat → Int) (n A C : Nat) (L : List T3) (T : Nat → Int) (v r : Nat) : Prop := (((r = 2 ∧ v < n ∧ sm S n A C L v = true) ∨ (r = 1 ∧ v < n ∧ decide (64 ≤ S v 0) = true)) ∨ (r = 3 ∧ v < n ∧ ((bits .and .u64 (T v) (bw (S v 0)) != bw (S v 0)) || decide (64 < S v 0)) = true))
theorem PD.lt {S : Nat → Nat → Int} {n A C : Nat} {L : List T3} {T : Nat → Int} {v r : Nat} (h : PD S n A C L T v r) : v < n := by
  rcases h with (h | h) | h
  · exact h.2.1
  · exact h.2.1
  · exact h.2.1
theorem PD.less {S : Nat → Nat → Int} {n A C : Nat} {L : List T3} {T : Nat → Int} {o : Vd} (h : Lm (PD S n A C L T) o) : Lm (PC S n A C L T) o := by
  refine h.less (fun v r hp => ?_) (fun v r hp => ?_)
  · rcases hp with (hp | hp) | ⟨a, b, c⟩
    · exact .inl (.inl hp)
    · exact .inl (.inr hp)
    · exact .inr ⟨a, b, by rw [c]; rfl⟩
  · rcases hp with (hp | hp) | ⟨a, b, c⟩
    · exact ⟨r, Nat.le_refl _, .inl (.inl hp)⟩
    · exact ⟨r, Nat.le_refl _, .inl (.inr hp)⟩
    · cases hq : (bits .and .u64 (T v) (bw (S v 0)) != bw (S v 0)) with
      | true => exact ⟨r, Nat.le_refl _, .inr ⟨a, b, hq⟩⟩
      | false =>
        rw [hq] at c
        simp at c
        exact ⟨1, by omega, .inl (.inr ⟨rfl, b, by simp; omega⟩)⟩
theorem res27 (T : Array Value) (b : Nat) (a c d : Value) (W : World) (h10 : T[6]? = some (.pointer (some ⟨b, 0, none⟩))) (h : W.heap[b]? = some (.cells #[a, c, d] 35 (0, 0))) :
    (results Try.f27 T).run Try.prog W = .ok (.agg #[a, c, d]) W := by
  have h0 : W.cell? ⟨b, 0, none⟩ = some a := (cell_of_row _ _ _ _ _ _ h).trans rfl
  have h1 : W.cell? ⟨b, 1, none⟩ = some c := (cell_of_row _ _ _ _ _ _ h).trans rfl
  have h2 : W.cell? ⟨b, 2, none⟩ = some d := (cell_of_row _ _ _ _ _ _ h).trans rfl
  simp [results, Try.f27, go_sem, h10, h0, h1, h2]
abbrev S12 (fb g N : Nat) (p q : Addr) (s t : Int) (w : World) : Prop := w.cell? ⟨fb, 0, none⟩ = some (.slice (some ⟨g, 0, none⟩) N N) ∧ w.cell? p = some (.int .u64 s) ∧ w.cell? q = some (.int .u64 t)
abbrev S23d (fb g N : Nat) (k : Nat) (t : Int) (w : World) : Prop := w.cell? ⟨fb, 0, none⟩ = some (.slice (some ⟨g, 0, none⟩) N N) ∧ w.cell? ⟨fb + 1, k, none⟩ = some (.int .u64 t)
set_option maxHeartbeats 8000000 in
theorem rcol_any (N A C ec sc : Nat) (a sa : Option Addr) (L : List T3) (S : Nat → Nat → Int) (ho : Ord N A C) (hn : N ≤ 5000) (hlen : L.length ≤ 140737488351232) (w : World) (hE : Row3 .u32 w a L) (hS : Row8 w sa N S) (hI : ∀ e ∈ L, e.1 < N ∧ e.2.1 < N) (hsr : ∀ v, v < N → 0 ≤ S v 0 ∧ S v 0 < 18446744073709551616) :
    Calls Try.prog 27 #[.agg (rk N A C), .slice a L.length ec, .slice sa N sc] w fun e w' => ∃ o, e = .returned (.agg #[.bool (vR o), .int .u32 (vV o), .int .i64 (vK o)]) ∧ Lm (PC S N A C L (tw S N A C L)) o ∧ Below w.heap.size w w' := by
  obtain ⟨n1, n2, n3, n4⟩ := ho.nums
  have HO := hide ho
  have HE := hide hE
  have HSr := hide hS
  have HI := hide hI
  have HSR := hide hsr
  obtain ⟨w0, hw0⟩ : ∃ w0, (w.alloc (.cells (rk N A C) 27)).alloc (.cells z3 35) = w0 := ⟨_, rfl⟩
  have hB0 : Below w.heap.size w w0 := by rw [← hw0]; exact bA2 (b1 _ _ _) _
  have hr0 : w0.heap[w.heap.size]? = some (.cells (rk N A C) 27 (0, 0)) := by rw [← hw0]; exact keep _ (at0 _ _)
  have hz0 : w0.heap[w.heap.size + 1]? = some (.cells z3 35 (0, 0)) := by
    rw [← hw0]
    have := at0 (w.alloc (.cells (rk N A C) 27)) (.cells z3 35)
    rw [World.size_alloc] at this
    exact this
  have HBg := hide (begin_any N hn w0)
  obtain ⟨k0, k1, k2⟩ := k3 hr0
  rw [← hw0] at k0
  have HW0 := hide hw0
  have HR0 := hide hr0
  have HZ0 := hide hz0
  have HB0 := hide hB0
  clear ho hE hS hI hsr hw0 hr0 hz0 hB0 k1 k2
  go_enter Try.func27, Try.ntmps27
  go_wp2_with (fail)
  rw [HW0.out]
  refine HBg.out.mono ?_
  rintro e1 w1 ⟨g, rfl, hg, hGI, hB1⟩
  obtain ⟨w2, hw2⟩ : ∃ w2, w1.alloc (.cells #[.slice (some ⟨g, 0, none⟩) N N] 85) = w2 := ⟨_, rfl⟩
  have hB2 : Below w1.heap.size w1 w2 := by rw [← hw2]; exact b1 _ _ _
  have hfb : Boxed w2 w1.heap.size 85 (.slice (some ⟨g, 0, none⟩) N N) := by rw [← hw2]; exact Boxed.new w1 _ _
  have hr2 : w2.heap[w.heap.size]? = some (.cells (rk N A C) 27 (0, 0)) := (hB2.block _ (Nat.lt_of_lt_of_le (lt_of_some HR0.out) hB1.size)).trans ((hB1.block _ (lt_of_some HR0.out)).trans HR0.out)
  have hz2 : w2.heap[w.heap.size + 1]? = some (.cells z3 35 (0, 0)) := (hB2.block _ (Nat.lt_of_lt_of_le (lt_of_some HZ0.out) hB1.size)).trans ((hB1.block _ (lt_of_some HZ0.out)).trans HZ0.out)
  have hG2 : GI w2 g N (fun _ => 0) := hGI.of (hB2.block _ hGI.lt)
  have hB02 : Below w.heap.size w w2 := (HB0.out.trans (hB1.mono HB0.out.size)).trans (hB2.mono (Nat.le_trans HB0.out.size hB1.size))
  have HZ2 : Hid (Zi w2 w g w1.heap.size N A C (fun _ => 0)) := ⟨hr2, hz2, hfb, hG2, hB02⟩
  obtain ⟨q0, _, _⟩ := k3 hr2
  have hmk := make_u32 w2 N (by omega)
  have hH0 := GU.new w2 N
  obtain ⟨w3, hw3⟩ : ∃ w3, w2.alloc (.cells (madeCells #[.int .u64 0] N) 28) = w3 := ⟨_, rfl⟩
  rw [hw3] at hmk hH0
  have hC23 : Ch (fun _ => False) w2 w3 := by rw [← hw3]; exact Ch.of (b1 _ _ _)
  have HZ3 := hide (HZ2.out.ch hC23 (fun h => h) (fun h => h) (fun h => h) (fun h => h) (fun _ _ h => h))
  have HH3 : Hid (GU w3 w2.heap.size N (tw S N A C (L.take 0))) := hH0
  have hs2 := HZ2.out.1
  have HNe : Hid (w.heap.size ≠ w2.heap.size ∧ w.heap.size + 1 ≠ w2.heap.size ∧ w1.heap.size ≠ w2.heap.size ∧ g ≠ w2.heap.size ∧ w.heap.size ≤ w2.heap.size ∧ w.heap.size + 1 < g ∧ g < w1.heap.size) := by
    have a5 := lt_of_some HZ0.out
    have a6 := hGI.lt
    have a1 := lt_of_some hr2
    have a2 := lt_of_some hz2
    have a3 := hfb.lt
    have a4 := hG2.lt
    exact ⟨by omega, by omega, by omega, by omega, by omega, by omega, by omega⟩
  rw [← hw2] at q0 hmk
  simp only [World.size_alloc] at hmk
  have hsz2 : w2.heap.size = w1.heap.size + 1 := by rw [← hw2]; simp
  obtain ⟨fb, hfbe⟩ : ∃ fb, fb = w1.heap.size := ⟨_, rfl⟩
  rw [hsz2] at HH3 HNe
  rw [← hfbe] at HZ3 HNe HH3 hmk
  clear hB1 hB2 hGI hfb hr2 hz2 hG2 hB02 HZ2 hH0 hw3 hC23 HBg HR0 HZ0 HB0 HW0 k0 hs2 hsz2 hw2
  go_wp2_with (fail)
  rw [← hfbe]
  clear q0 hmk hfbe
  go_loopw [9] (fun v wr => ∃ (i : Nat) (G : Nat → Int), i ≤ L.length ∧ v = .int .i64 i ∧ Hid (GU wr (fb + 1) N (tw S N A C (L.take i))) ∧ Hid (Rl (fun v r => r = 2 ∧ v < N ∧ sm S N A C (L.take i) v = true) N G) ∧ Hid (Zi wr w g fb N A C G)) (fun v _ => L.length - (intOf v).toNat)
  case atStart => exact ⟨0, _, Nat.zero_le _, rfl, HH3, (Rl.zero N).ext (fun v r _ => ⟨fun h => h.elim, fun h => by simp [sm] at h⟩), HZ3⟩
  case round =>
    clear HH3 HZ3
    obtain ⟨i, G, hi, rfl, HH, HR, HZ⟩ := hrel
    by_cases cc : i < L.length
    · have hcc : (i : Int) < (L.length : Int) := by omega
      obtain ⟨eb, rfl, heb, hce⟩ := HE.out (by omega)
      obtain ⟨⟨x, y, z⟩, hxyz⟩ : ∃ e, L[i]? = some e := ⟨L[i]'(by omega), List.getElem?_eq_getElem (by omega)⟩
      obtain ⟨hxn, hyn⟩ := HI.out _ (List.mem_of_getElem? hxyz)
      simp only at hxn hyn
      obtain ⟨c1, c2, _⟩ := cells3 (hce i _ hxyz)
      simp only at c1 c2
      have HB := hide HZ.out.2.2.2.2
      have HD1 : Hid (∀ W, Below w.heap.size w W → W.cell? (eb.add (i * 3)) = some (.int .u32 (x : Int)) ∧ W.cell? ⟨(eb.add (i * 3)).block, (eb.add (i * 3)).off + 1, none⟩ = some (.int .u32 (y : Int))) := fun W hW => ⟨(hW.cell (p := eb.add (i * 3)) (by rw [add_block]; exact heb)).trans c1, (hW.cell (p := ⟨(eb.add (i * 3)).block, (eb.add (i * 3)).off + 1, none⟩) (by rw [show (⟨(eb.add (i * 3)).block, (eb.add (i * 3)).off + 1, none⟩ : Addr).block = eb.block from add_block _ _]; exact heb)).trans c2⟩
      obtain ⟨d1, d2⟩ := HD1.out wr HB.out
      have HTk : Hid (∀ t, tw S N A C (L.take (i + 1)) t = twe S N A C t (tw S N A C (L.take i) t) (x, y, z)) := fun t => by rw [take_succ hxyz, tw_app]
      have HSk : Hid (∀ t, sm S N A C (L.take (i + 1)) t = (sm S N A C (L.take i) t || sme S N A C t (x, y, z))) := fun t => by rw [take_succ hxyz, sm_app]
      clear c1 c2 hce heb hxyz hi
      by_cases hxy : x = y
      · subst hxy
        have HH1 : Hid (GU wr (fb + 1) N (tw S N A C (L.take (i + 1)))) := HH.out.ext (fun t ht => by rw [HTk.out t]; unfold twe; rw [nb_same])
        have HR1 : Hid (Rl (fun v r => r = 2 ∧ v < N ∧ sm S N A C (L.take (i + 1)) v = true) N G) := HR.out.ext (fun v r hv => by rw [HSk.out v]; unfold sme; rw [nb_same]; simp)
        clear HH HTk HD1 HSk HR
        go_wp2
        all_goals exact ⟨⟨i + 1, _, cc, by go_num, HH1, HR1, HZ⟩, by simp [intOf]; omega⟩
      · have hxb : ((x : Int) == (y : Int)) = false := by simp; omega
        have HP : Hid (∀ v, v < N → ∀ W, Calls Try.prog 66 #[.agg (rk N A C), .int .u32 (v : Int)] W fun e w' => e = .returned (.int .u64 ((pl N A C v : Nat) : Int)) ∧ w' = W.alloc (.cells (rk N A C) 27)) := fun v hv W => by
          rw [pl_of HO.out hv]
          exact rplace_any N A C v hv n2 n3 n4 W
        have hr := HZ.out.1
        have HS9 : Hid (S9 w.heap.size N A C wr.drew) := k3 (t := 27) hr
        have HS9a : Hid (∀ o, S9 w.heap.size N A C (wr.alloc o).drew) := fun o => k3 (t := 27) (show (wr.alloc o).heap[w.heap.size]? = _ from keep o hr)
        have HS9b : Hid (∀ o p, S9 w.heap.size N A C ((wr.alloc o).alloc p).drew) := fun o p => k3 (t := 27) (show ((wr.alloc o).alloc p).heap[w.heap.size]? = _ from keep p (keep o hr))
        go_wp2_with (fail)
        apply wp_cut (fun w' => w' = ((wr.alloc (.cells (rk N A C) 27)).alloc (.cells (rk N A C) 27)).drew)
        case h =>
          go_region_held3 (S9 w.heap.size N A C) ((first | with_reducible exact HS9.out | with_reducible exact HS9a.out _ | with_reducible exact HS9b.out _ _)) ((first | (go_at_call 66; refine (HP.out _ (by assumption) _).mono ?_; rintro e1 w1' ⟨rfl, rfl⟩)))
          all_goals exact ⟨rfl, rfl⟩
        case hq =>
          rintro w9 rfl
          obtain ⟨w5, hw5⟩ : ∃ w5, ((wr.alloc (.cells (rk N A C) 27)).alloc (.cells (rk N A C) 27)).drew = w5 := ⟨_, rfl⟩
          have hC5 : Ch (fun _ => False) wr w5 := by rw [← hw5]; exact ((Ch.refl _ wr).alloc _ |>.alloc _).drew
          have HH5 : Hid (GU w5 (fb + 1) N (tw S N A C (L.take i))) := HH.out.of (hC5.block _ HH.out.lt (fun h => h))
          have HZ5 := hide (HZ.out.ch hC5 (fun h => h) (fun h => h) (fun h => h) (fun h => h) (fun _ _ h => h))
          have HB5 := hide HZ5.out.2.2.2.2
          obtain ⟨ax, rfl, hAt⟩ := HSr.out (by omega)
          have HAt : Hid (∀ W, Below w.heap.size w W → ∀ u, u < N → W.cell? (ax.add (u * 8)) = some (.int .u64 (S u 0))) := fun W hW u hu => by
            have h := (hAt.k u hu).1
            exact (hW.cell (p := ax.add (u * 8)) (by rw [add_block]; exact hAt.1)).trans h
          have HAx : Hid (ax.block < w.heap.size) := hAt.1
          have hpn : pl N A C x ≠ pl N A C y := fun e => hxy (pl_inj HO.out hxn hyn e)
          obtain ⟨px, hpx'⟩ : ∃ p, pl N A C x = p := ⟨_, rfl⟩
          obtain ⟨py, hpy'⟩ : ∃ p, pl N A C y = p := ⟨_, rfl⟩
          rw [hpx', hpy']
          rw [hw5]
          obtain ⟨d3, d4⟩ := HD1.out w5 HB5.out
          clear hAt hC5 hw5 HS9 HS9a HS9b HP
          rw [hpx', hpy'] at hpn
          by_cases hlt : py < px
          · have hlti : (py : Int) < (px : Int) := by omega
            have hn9 : nb N A C (x, y, z) = some (x, y) := by unfold nb; simp only; rw [hpx', hpy', if_neg (by omega), if_pos hlt]
            clear hlt
            have HSm1 : Hid (Rl (fun a r => r = 2 ∧ a < N ∧ sm S N A C (L.take (i + 1)) a = true) N (nx G x 2 (S y 0 == S x 0))) := (HR.out.note x 2 (S y 0 == S x 0) (by omega)).ext (fun a r ha => by
              rw [HSk.out a]
              unfold sme
              rw [hn9]
              simp only [Bool.or_eq_true, Bool.and_eq_true, beq_iff_eq]
              constructor
              · rintro (⟨a1, a2, a3⟩ | ⟨a1, a2, a3⟩)
                · exact ⟨a1, a2, .inl a3⟩
                · exact ⟨a3, ha, .inr ⟨a2, a1.symm⟩⟩
              · rintro ⟨a1, a2, a3 | a3⟩
                · exact .inl ⟨a1, a2, a3⟩
                · exact .inr ⟨a3.2.symm, a3.1, a1⟩)
            have HTn : Hid (∀ t, t < N → tw S N A C (L.take (i + 1)) t = up (tw S N A C (L.take i)) x (bits .or .u64 (tw S N A C (L.take i) x) (sh (S y 0))) t) := fun t ht => by
              rw [HTk.out t]
              unfold twe
              rw [hn9]
              by_cases et : t = x
              · subst et; rw [up_eq]; simp
              · rw [up_ne _ _ _ _ et]; simp [et]
            have HNt : Hid (∀ W β, GI W g N G → Calls Try.prog 52 #[.agg #[.slice (some ⟨g, 0, none⟩) N N], .int .i64 (x : Int), .int .i64 2, .bool β] W fun e w' => (∃ x, e = .returned x) ∧ GI w' g N (nx G x 2 β) ∧ Ch (fun j => j = g) W w') := fun W β hG => fnote_any g N x 2 β G hxn hn W hG
            have HK : Hid (∀ W, Ch (fun j => j = g) w5 W → S12 fb g N (ax.add (y * 8)) (ax.add (x * 8)) (S y 0) (S x 0) W) := fun W hW => by
              obtain ⟨z1, z2, z3, z4, z5⟩ := HZ5.out
              obtain ⟨m1, m2, m3, m4, m5, m6, m7⟩ := HNe.out
              have hfl := z3.lt
              have hbs := z5.size
              have hax := HAx.out
              exact ⟨(hW.cell (p := ⟨fb, 0, none⟩) hfl (by show fb ≠ g; omega)).trans z3.cell, (hW.cell (p := ax.add (y * 8)) (by rw [add_block]; omega) (by rw [add_block]; omega)).trans (HAt.out w5 HB5.out y hyn), (hW.cell (p := ax.add (x * 8)) (by rw [add_block]; omega) (by rw [add_block]; omega)).trans (HAt.out w5 HB5.out x hxn)⟩
            have hcv : IntKind.i64.wrap (x : Int) = x := by simp only [IntKind.wrap, IntKind.signed, IntKind.bits]; simp; omega
            obtain ⟨s0, s1⟩ := HSR.out y hyn
            obtain ⟨t0, t1⟩ := tw_b S N A C (L.take i) x
            obtain ⟨T0, hT0⟩ : ∃ T0, tw S N A C (L.take i) x = T0 := ⟨_, rfl⟩
            have HFn : Hid (∀ w6 W7, Ch (fun j => j = g) w5 w6 → GI w6 g N (nx G x 2 (S y 0 == S x 0)) → ∀ q9, q9 = bits .or .u64 T0 (sh (S y 0)) → (W7 = w6.setCell ⟨fb + 1, x, none⟩ (.int .u64 q9) ∨ W7 = (w6.setCell ⟨fb + 1, x, none⟩ (.int .u64 q9)).drew ∨ (W7 = w6 ∧ q9 = T0)) → GU W7 (fb + 1) N (tw S N A C (L.take (i + 1))) ∧ Zi W7 w g fb N A C (nx G x 2 (S y 0 == S x 0))) := fun w6 W7 hC6 hG6 q9 hx hW => by
              obtain ⟨z1, z2, z3, z4, z5⟩ := HZ5.out
              obtain ⟨m1, m2, m3, m4, m5, m6, m7⟩ := HNe.out
              have hU6 : GU w6 (fb + 1) N (tw S N A C (L.take i)) := HH5.out.of (hC6.block _ HH5.out.lt (by show fb + 1 ≠ g; omega))
              have hZ6 : Zi w6 w g fb N A C (nx G x 2 (S y 0 == S x 0)) := ⟨(hC6.block _ (lt_of_some z1) (by show w.heap.size ≠ g; omega)).trans z1, (hC6.block _ (lt_of_some z2) (by show w.heap.size + 1 ≠ g; omega)).trans z2, (hC6.block _ z3.lt (by show fb ≠ g; omega)).trans z3, hG6, z5.trans (hC6.below (fun j hj e => by omega) z5.size)⟩
              have hset : GU (w6.setCell ⟨fb + 1, x, none⟩ (.int .u64 q9)) (fb + 1) N (tw S N A C (L.take (i + 1))) := (hU6.set x q9).1.ext (fun t ht => by rw [HTn.out t ht, hT0, ← hx])
              have hzs : Zi (w6.setCell ⟨fb + 1, x, none⟩ (.int .u64 q9)) w g fb N A C (nx G x 2 (S y 0 == S x 0)) := hZ6.ch (X := fun k => k = fb + 1) ((Ch.refl _ _).set _ _ (Or.inl rfl)) m1 m2 m3 m4 (fun k hk e => by omega)
              rcases hW with rfl | rfl | ⟨rfl, hx0⟩
              · exact ⟨hset, hzs⟩
              · exact ⟨hset.of rfl, hzs.ch (X := fun _ => False) (Ch.refl _ _).drew (fun h => h) (fun h => h) (fun h => h) (fun h => h) (fun _ _ h => h)⟩
              · refine ⟨hU6.ext (fun t ht => ?_), hZ6⟩
                rw [HTn.out t ht]
                by_cases et : t = x
                · subst et; rw [up_eq, hT0, ← hx, hx0]
                · rw [up_ne _ _ _ _ et]
            have HO9 : Hid (64 ≤ S y 0 → T0 = bits .or .u64 T0 (sh (S y 0))) := fun hb => by
              show T0 = _
              rw [sh_big _ hb, or_zero _ (by rw [← hT0]; exact t0) (by rw [← hT0]; exact t1)]
            have HHc : Hid (∀ W, Ch (fun j => j = g) w5 W → W.cell? ⟨fb + 1, x, none⟩ = some (.int .u64 T0) ∧ W.frozen? ⟨fb + 1, x, none⟩ = false) := fun W hW => by
              obtain ⟨m1, m2, m3, m4, m5, m6, m7⟩ := HNe.out
              have hU6 : GU W (fb + 1) N (tw S N A C (L.take i)) := HH5.out.of (hW.block _ HH5.out.lt (by show fb + 1 ≠ g; omega))
              rw [← hT0]
              exact ⟨hU6.cell x hxn, hU6.fz x⟩
            have HGI := hide HZ5.out.2.2.2.1
            clear hT0 t0 t1 HTn hn9 HR HZ HH HSk HTk HZ5 HH5 HAt HB5 hpx' hpy' hpn HD1 HAx
            go_wp2_with (fail)
            go_region_held3 (S12 fb g N (ax.add (y * 8)) (ax.add (x * 8)) (S y 0) (S x 0)) ((first | with_reducible exact HK.out _ (Ch.drew (Ch.refl _ _)) | with_reducible exact HK.out _ HC6.out)) ((first | (go_at_call 52; refine (HNt.out w5.drew _ (HGI.out.of rfl)).mono ?_; rintro e3 w6 ⟨⟨x3, rfl⟩, hG6, hC6'⟩; have HG6 := hide hG6; have HC6 : Hid (Ch (fun j => j = g) w5 w6) := (Ch.refl _ _).drew.trans hC6'; clear hG6 hC6')))
            obtain ⟨_, q1, _⟩ := HK.out _ HC6.out
            obtain ⟨q2, q3⟩ := HHc.out _ HC6.out
            have HFm := hide (fun W7 q9 => HFn.out w6 W7 HC6.out HG6.out q9)
            clear HK HHc HNt HGI HFn HC6 HG6
            by_cases hb : S y 0 < 64
            · have hm9 : min (S y 0).toNat 64 = (S y 0).toNat := by omega
              have HE9 : Hid (∀ q9, q9 = bits .or .u64 T0 (IntKind.u64.wrap (2 ^ (S y 0).toNat)) → q9 = bits .or .u64 T0 (sh (S y 0))) := fun q9 hx => by rw [hx]; unfold sh; rw [hm9]
              clear hm9 HO9
              go_wp2_with (fail)
              go_region_with (fail)
              all_goals go_wp2
              all_goals (refine ⟨⟨i + 1, _, cc, by go_num, ?_, HSm1, ?_⟩, by simp [intOf]; omega⟩)
              all_goals first | exact (HFm.out _ _ (HE9.out _ rfl) (Or.inl rfl)).1 | exact (HFm.out _ _ (HE9.out _ rfl) (Or.inl rfl)).2 | exact (HFm.out _ _ (HE9.out _ rfl) (Or.inr (Or.inl rfl))).1 | exact (HFm.out _ _ (HE9.out _ rfl) (Or.inr (Or.inl rfl))).2 | exact (HFm.out _ _ rfl (Or.inl rfl)).1 | exact (HFm.out _ _ rfl (Or.inl rfl)).2 | exact (HFm.out _ _ rfl (Or.inr (Or.inl rfl))).1 | exact (HFm.out _ _ rfl (Or.inr (Or.inl rfl))).2
            · have HFo := hide (HFm.out w6 _ (HO9.out (by omega)) (Or.inr (Or.inr ⟨rfl, rfl⟩)))
              clear HFm HO9
              go_wp2
              all_goals exact ⟨⟨i + 1, _, cc, by go_num, HFo.out.1, HSm1, HFo.out.2⟩, by simp [intOf]; omega⟩
          · have hlti : ¬ (py : Int) < (px : Int) := by omega
            have hn9 : nb N A C (x, y, z) = some (y, x) := by unfold nb; simp only; rw [hpx', hpy', if_pos (by omega)]
            clear hlt
            have HSm1 : Hid (Rl (fun a r => r = 2 ∧ a < N ∧ sm S N A C (L.take (i + 1)) a = true) N (nx G y 2 (S x 0 == S y 0))) := (HR.out.note y 2 (S x 0 == S y 0) (by omega)).ext (fun a r ha => by
              rw [HSk.out a]
              unfold sme
              rw [hn9]
              simp only [Bool.or_eq_true, Bool.and_eq_true, beq_iff_eq]
              constructor
              · rintro (⟨a1, a2, a3⟩ | ⟨a1, a2, a3⟩)
                · exact ⟨a1, a2, .inl a3⟩
                · exact ⟨a3, ha, .inr ⟨a2, a1.symm⟩⟩
              · rintro ⟨a1, a2, a3 | a3⟩
                · exact .inl ⟨a1, a2, a3⟩
                · exact .inr ⟨a3.2.symm, a3.1, a1⟩)
            have HTn : Hid (∀ t, t < N → tw S N A C (L.take (i + 1)) t = up (tw S N A C (L.take i)) y (bits .or .u64 (tw S N A C (L.take i) y) (sh (S x 0))) t) := fun t ht => by
              rw [HTk.out t]
              unfold twe
              rw [hn9]
              by_cases et : t = y
              · subst et; rw [up_eq]; simp
              · rw [up_ne _ _ _ _ et]; simp [et]
            have HNt : Hid (∀ W β, GI W g N G → Calls Try.prog 52 #[.agg #[.slice (some ⟨g, 0, none⟩) N N], .int .i64 (y : Int), .int .i64 2, .bool β] W fun e w' => (∃ x, e = .returned x) ∧ GI w' g N (nx G y 2 β) ∧ Ch (fun j => j = g) W w') := fun W β hG => fnote_any g N y 2 β G hyn hn W hG
            have HK : Hid (∀ W, Ch (fun j => j = g) w5 W → S12 fb g N (ax.add (x * 8)) (ax.add (y * 8)) (S x 0) (S y 0) W) := fun W hW => by
              obtain ⟨z1, z2, z3, z4, z5⟩ := HZ5.out
              obtain ⟨m1, m2, m3, m4, m5, m6, m7⟩ := HNe.out
              have hfl := z3.lt
              have hbs := z5.size
              have hax := HAx.out
              exact ⟨(hW.cell (p := ⟨fb, 0, none⟩) hfl (by show fb ≠ g; omega)).trans z3.cell, (hW.cell (p := ax.add (x * 8)) (by rw [add_block]; omega) (by rw [add_block]; omega)).trans (HAt.out w5 HB5.out x hxn), (hW.cell (p := ax.add (y * 8)) (by rw [add_block]; omega) (by rw [add_block]; omega)).trans (HAt.out w5 HB5.out y hyn)⟩
            have hcv : IntKind.i64.wrap (y : Int) = y := by simp only [IntKind.wrap, IntKind.signed, IntKind.bits]; simp; omega
            obtain ⟨s0, s1⟩ := HSR.out x hxn
            obtain ⟨t0, t1⟩ := tw_b S N A C (L.take i) y
            obtain ⟨T0, hT0⟩ : ∃ T0, tw S N A C (L.take i) y = T0 := ⟨_, rfl⟩
            have HFn : Hid (∀ w6 W7, Ch (fun j => j = g) w5 w6 → GI w6 g N (nx G y 2 (S x 0 == S y 0)) → ∀ q9, q9 = bits .or .u64 T0 (sh (S x 0)) → (W7 = w6.setCell ⟨fb + 1, y, none⟩ (.int .u64 q9) ∨ W7 = (w6.setCell ⟨fb + 1, y, none⟩ (.int .u64 q9)).drew ∨ (W7 = w6 ∧ q9 = T0)) → GU W7 (fb + 1) N (tw S N A C (L.take (i + 1))) ∧ Zi W7 w g fb N A C (nx G y 2 (S x 0 == S y 0))) := fun w6 W7 hC6 hG6 q9 hx hW => by
              obtain ⟨z1, z2, z3, z4, z5⟩ := HZ5.out
              obtain ⟨m1, m2, m3, m4, m5, m6, m7⟩ := HNe.out
              have hU6 : GU w6 (fb + 1) N (tw S N A C (L.take i)) := HH5.out.of (hC6.block _ HH5.out.lt (by show fb + 1 ≠ g; omega))
              have hZ6 : Zi w6 w g fb N A C (nx G y 2 (S x 0 == S y 0)) := ⟨(hC6.block _ (lt_of_some z1) (by show w.heap.size ≠ g; omega)).trans z1, (hC6.block _ (lt_of_some z2) (by show w.heap.size + 1 ≠ g; omega)).trans z2, (hC6.block _ z3.lt (by show fb ≠ g; omega)).trans z3, hG6, z5.trans (hC6.below (fun j hj e => by omega) z5.size)⟩
              have hset : GU (w6.setCell ⟨fb + 1, y, none⟩ (.int .u64 q9)) (fb + 1) N (tw S N A C (L.take (i + 1))) := (hU6.set y q9).1.ext (fun t ht => by rw [HTn.out t ht, hT0, ← hx])
              have hzs : Zi (w6.setCell ⟨fb + 1, y, none⟩ (.int .u64 q9)) w g fb N A C (nx G y 2 (S x 0 == S y 0)) := hZ6.ch (X := fun k => k = fb + 1) ((Ch.refl _ _).set _ _ (Or.inl rfl)) m1 m2 m3 m4 (fun k hk e => by omega)
              rcases hW with rfl | rfl | ⟨rfl, hx0⟩
              · exact ⟨hset, hzs⟩
              · exact ⟨hset.of rfl, hzs.ch (X := fun _ => False) (Ch.refl _ _).drew (fun h => h) (fun h => h) (fun h => h) (fun h => h) (fun _ _ h => h)⟩
              · refine ⟨hU6.ext (fun t ht => ?_), hZ6⟩
                rw [HTn.out t ht]
                by_cases et : t = y
                · subst et; rw [up_eq, hT0, ← hx, hx0]
                · rw [up_ne _ _ _ _ et]
            have HO9 : Hid (64 ≤ S x 0 → T0 = bits .or .u64 T0 (sh (S x 0))) := fun hb => by
              show T0 = _
              rw [sh_big _ hb, or_zero _ (by rw [← hT0]; exact t0) (by rw [← hT0]; exact t1)]
            have HHc : Hid (∀ W, Ch (fun j => j = g) w5 W → W.cell? ⟨fb + 1, y, none⟩ = some (.int .u64 T0) ∧ W.frozen? ⟨fb + 1, y, none⟩ = false) := fun W hW => by
              obtain ⟨m1, m2, m3, m4, m5, m6, m7⟩ := HNe.out
              have hU6 : GU W (fb + 1) N (tw S N A C (L.take i)) := HH5.out.of (hW.block _ HH5.out.lt (by show fb + 1 ≠ g; omega))
              rw [← hT0]
              exact ⟨hU6.cell y hyn, hU6.fz y⟩
            have HGI := hide HZ5.out.2.2.2.1
            clear hT0 t0 t1 HTn hn9 HR HZ HH HSk HTk HZ5 HH5 HAt HB5 hpx' hpy' hpn HD1 HAx
            go_wp2_with (fail)
            go_region_held3 (S12 fb g N (ax.add (x * 8)) (ax.add (y * 8)) (S x 0) (S y 0)) ((first | with_reducible exact HK.out _ (Ch.drew (Ch.refl _ _)) | with_reducible exact HK.out _ HC6.out)) ((first | (go_at_call 52; refine (HNt.out w5.drew _ (HGI.out.of rfl)).mono ?_; rintro e3 w6 ⟨⟨x3, rfl⟩, hG6, hC6'⟩; have HG6 := hide hG6; have HC6 : Hid (Ch (fun j => j = g) w5 w6) := (Ch.refl _ _).drew.trans hC6'; clear hG6 hC6')))
            obtain ⟨_, q1, _⟩ := HK.out _ HC6.out
            obtain ⟨q2, q3⟩ := HHc.out _ HC6.out
            have HFm := hide (fun W7 q9 => HFn.out w6 W7 HC6.out HG6.out q9)
            clear HK HHc HNt HGI HFn HC6 HG6
            by_cases hb : S x 0 < 64
            · have hm9 : min (S x 0).toNat 64 = (S x 0).toNat := by omega
              have HE9 : Hid (∀ q9, q9 = bits .or .u64 T0 (IntKind.u64.wrap (2 ^ (S x 0).toNat)) → q9 = bits .or .u64 T0 (sh (S x 0))) := fun q9 hx => by rw [hx]; unfold sh; rw [hm9]
              clear hm9 HO9
              go_wp2_with (fail)
              go_region_with (fail)
              all_goals go_wp2
              all_goals (refine ⟨⟨i + 1, _, cc, by go_num, ?_, HSm1, ?_⟩, by simp [intOf]; omega⟩)
              all_goals first | exact (HFm.out _ _ (HE9.out _ rfl) (Or.inl rfl)).1 | exact (HFm.out _ _ (HE9.out _ rfl) (Or.inl rfl)).2 | exact (HFm.out _ _ (HE9.out _ rfl) (Or.inr (Or.inl rfl))).1 | exact (HFm.out _ _ (HE9.out _ rfl) (Or.inr (Or.inl rfl))).2 | exact (HFm.out _ _ rfl (Or.inl rfl)).1 | exact (HFm.out _ _ rfl (Or.inl rfl)).2 | exact (HFm.out _ _ rfl (Or.inr (Or.inl rfl))).1 | exact (HFm.out _ _ rfl (Or.inr (Or.inl rfl))).2
            · have HFo := hide (HFm.out w6 _ (HO9.out (by omega)) (Or.inr (Or.inr ⟨rfl, rfl⟩)))
              clear HFm HO9
              go_wp2
              all_goals exact ⟨⟨i + 1, _, cc, by go_num, HFo.out.1, HSm1, HFo.out.2⟩, by simp [intOf]; omega⟩
    · have him : i = L.length := by omega
      subst him
      rw [List.take_length] at HH HR
      clear cc hi
      go_wp2_with (fail)
      obtain ⟨W0, hW0⟩ : ∃ W0, W0 = wr := ⟨_, rfl⟩
      subst hW0
      go_loopw [12] (fun v wr => ∃ (k : Nat) (G : Nat → Int), k ≤ N ∧ v = .int .i64 k ∧ Hid (Rl (fun v r => (r = 2 ∧ v < N ∧ sm S N A C L v = true) ∨ (v < k ∧ PD S N A C L (tw S N A C L) v r)) N G) ∧ Hid (GU wr (fb + 1) N (tw S N A C L)) ∧ Hid (Zi wr w g fb N A C G)) (fun v _ => N - (intOf v).toNat)
      case atStart => exact ⟨0, _, Nat.zero_le _, rfl, HR.out.ext (fun v r _ => ⟨Or.inl, fun h => h.elim (fun h => h) (fun h => by omega)⟩), HH, HZ⟩
      case round =>
        clear HH HZ HR
        obtain ⟨k, G, hk, rfl, HR, HH, HZ⟩ := hrel
        by_cases cc : k < N
        · have hcc : (k : Int) < (N : Int) := by omega
          obtain ⟨ax, rfl, hAt⟩ := HSr.out (by omega)
          have HK : Hid (∀ W, Ch (fun j => j = g) wr W → S23d fb g N k (tw S N A C L k) W) := fun W hW => by
            obtain ⟨z1, z2, z3, z4, z5⟩ := HZ.out
            obtain ⟨n1, n2, n3, n4, n5, n6, n7⟩ := HNe.out
            exact ⟨(hW.cell (p := ⟨fb, 0, none⟩) z3.lt (by show fb ≠ g; omega)).trans z3.cell, (hW.cell (p := ⟨fb + 1, k, none⟩) HH.out.lt (by show fb + 1 ≠ g; omega)).trans (HH.out.cell k cc)⟩
          have HN : Hid (∀ W G (r : Nat) β, GI W g N G → Calls Try.prog 52 #[.agg #[.slice (some ⟨g, 0, none⟩) N N], .int .i64 (k : Int), .int .i64 (r : Int), .bool β] W fun e w' => (∃ x, e = .returned x) ∧ GI w' g N (nx G k r β) ∧ Ch (fun j => j = g) W w') := fun W G r β hG => fnote_any g N k r β G cc hn W hG
          have HRn : Hid (∀ β1 β3, β1 = decide (64 ≤ S k 0) → β3 = ((bits .and .u64 (tw S N A C L k) (bw (S k 0)) != bw (S k 0)) || decide (64 < S k 0)) → Rl (fun v r => (r = 2 ∧ v < N ∧ sm S N A C L v = true) ∨ (v < k + 1 ∧ PD S N A C L (tw S N A C L) v r)) N (nx (nx G k 1 β1) k 3 β3)) := fun β1 β3 e1 e3 => ((HR.out.note k 1 β1 (by omega)).note k 3 β3 (by omega)).ext (fun v r hv => by
            subst e1 e3
            unfold PD
            constructor
            · rintro (((a | ⟨a, b⟩) | ⟨a, rfl, rfl⟩) | ⟨a, rfl, rfl⟩)
              · exact .inl a
              · exact .inr ⟨by omega, b⟩
              · exact .inr ⟨by omega, .inl (.inr ⟨rfl, hv, a⟩)⟩
              · exact .inr ⟨by omega, .inr ⟨rfl, hv, a⟩⟩
            · rintro (a | ⟨a, b⟩)
              · exact .inl (.inl (.inl a))
              · by_cases e : v = k
                · subst e
                  rcases b with (b | ⟨rfl, _, b⟩) | ⟨rfl, _, b⟩
                  · exact .inl (.inl (.inl b))
                  · exact .inl (.inr ⟨b, rfl, rfl⟩)
                  · exact .inr ⟨b, rfl, rfl⟩
                · exact .inl (.inl (.inr ⟨by omega, b⟩)))
          have HFin : Hid (∀ W G', Ch (fun j => j = g) wr W → GI W g N G' → GU W (fb + 1) N (tw S N A C L) ∧ Zi W w g fb N A C G') := fun W G' hW hG => by
            obtain ⟨z1, z2, z3, z4, z5⟩ := HZ.out
            obtain ⟨n1, n2, n3, n4, n5, n6, n7⟩ := HNe.out
            exact ⟨HH.out.of (hW.block _ HH.out.lt (by show fb + 1 ≠ g; omega)), (hW.block _ (lt_of_some z1) (by show w.heap.size ≠ g; omega)).trans z1, (hW.block _ (lt_of_some z2) (by show w.heap.size + 1 ≠ g; omega)).trans z2, (hW.block _ z3.lt (by show fb ≠ g; omega)).trans z3, hG, z5.trans (hW.below (fun j hj e => by omega) z5.size)⟩
          have HG0 := hide HZ.out.2.2.2.1
          have HC0 : Hid (Ch (fun j => j = g) wr wr) := Ch.refl _ _
          have q0 : wr.cell? (ax.add (k * 8)) = some (.int .u64 (S k 0)) := (HZ.out.2.2.2.2.cell (p := ax.add (k * 8)) (by rw [add_block]; exact hAt.1)).trans (hAt.k k cc).1
          have q1 : wr.cell? ⟨fb, 0, none⟩ = some (.slice (some ⟨g, 0, none⟩) N N) := HZ.out.2.2.1.cell
          obtain ⟨s0, s1⟩ := HSR.out k cc
          have B1 : Hid (∀ β, β = decide (63 < S k 0) → β = decide (64 ≤ S k 0)) := fun β h => by rw [h]; apply decide_eq_decide.2; omega
          have B3 : Hid (∀ T X, tw S N A C L k = T → bw (S k 0) = X → ∀ β, β = ((bits .and .u64 T X != X) || decide (64 < S k 0)) → β = ((bits .and .u64 (tw S N A C L k) (bw (S k 0)) != bw (S k 0)) || decide (64 < S k 0))) := fun T X hT hX β h => by rw [hT, hX]; exact h
          clear hAt HH HZ HR hk
          go_wp2_with (fail)
          refine (HN.out wr G 1 _ HG0.out).mono ?_
          rintro e3 w4 ⟨⟨x3, rfl⟩, hG4, hC4⟩
          have HG4 := hide hG4
          have HC4 := hide hC4
          clear hG4 hC4 q0 q1
          obtain ⟨T9, hT9⟩ : ∃ T9, tw S N A C L k = T9 := ⟨_, rfl⟩
          rw [hT9] at HK
          have HT9 := hide hT9
          clear hT9
          by_cases hb : S k 0 < 64
          · have HX9 : Hid (IntKind.u64.wrap (IntKind.u64.wrap (2 ^ (S k 0).toNat) - 1) = bw (S k 0)) := by
              show _ = _
              unfold bw sh
              rw [show min (S k 0).toNat 64 = (S k 0).toNat by omega]
            go_wp2_with (fail)
            rw [HX9.out]
            obtain ⟨X9, hX9⟩ : ∃ X9, bw (S k 0) = X9 := ⟨_, rfl⟩
            rw [hX9]
            have B4 := hide (B3.out T9 X9 HT9.out hX9)
            clear hb HX9 hX9 B3 HT9
            cases hq : (bits .and .u64 T9 X9 != X9) with
            | true =>
              go_wp2_with (fail)
              refine wp_region_held_drew (S := (S23d fb g N k T9)) (by kernel_rfl) ?_ (fun hHeld => ?_)
              · exact HK.out _ (Ch.drew HC4.out)
              refine wpAnyH_take (i := 0) (oi := ({ dst := some 113, op := Go.Op.load 85 (Go.Operand.tmp 7), type := 85, pos := "ref.go:286", after := #[], guard := none } : Oper)) (v := ?_) rfl (by kernel_rfl) (by kernel_rfl) (by kernel_rfl) (fun _ _ _ h => h) (Or.inl ⟨by rfl, ?_⟩) (by assumption) ?_
              rotate_left 1
              · (intro w hSw; (try dsimp only at hSw); go_simp; (try with_reducible rfl))
              try simp only [Act.put, List.setIfInBounds_toArray, List.set_cons_zero, List.set_cons_succ]
              refine wpAnyH_take (i := 1) (oi := ({ dst := some 114, op := Go.Op.move (Go.Operand.tmp 12), type := 3, pos := "ref.go:286", after := #[], guard := none } : Oper)) (v := ?_) rfl (by kernel_rfl) (by kernel_rfl) (by kernel_rfl) (fun _ _ _ h => h) (Or.inl ⟨by rfl, ?_⟩) (by assumption) ?_
              rotate_left 1
              · (intro w hSw; (try dsimp only at hSw); go_simp; (try with_reducible rfl))
              try simp only [Act.put, List.setIfInBounds_toArray, List.set_cons_zero, List.set_cons_succ]
              refine wpAnyH_take (i := 2) (oi := ({ dst := some 115, op := Go.Op.move (Go.Operand.tmp 8), type := 32, pos := "ref.go:286", after := #[], guard := none } : Oper)) (v := ?_) rfl (by kernel_rfl) (by kernel_rfl) (by kernel_rfl) (fun _ _ _ h => h) (Or.inl ⟨by rfl, ?_⟩) (by assumption) ?_
              rotate_left 1
              · (intro w hSw; (try dsimp only at hSw); go_simp; (try with_reducible rfl))
              try simp only [Act.put, List.setIfInBounds_toArray, List.set_cons_zero, List.set_cons_succ]
              refine wpAnyH_take (i := 3) (oi := ({ dst := some 116, op := Go.Op.move (Go.Operand.tmp 12), type := 3, pos := "ref.go:286", after := #[], guard := none } : Oper)) (v := ?_) rfl (by kernel_rfl) (by kernel_rfl) (by kernel_rfl) (fun _ _ _ h => h) (Or.inl ⟨by rfl, ?_⟩) (by assumption) ?_
              rotate_left 1
              · (intro w hSw; (try dsimp only at hSw); go_simp; (try with_reducible rfl))
              try simp only [Act.put, List.setIfInBounds_toArray, List.set_cons_zero, List.set_cons_succ]
              refine wpAnyH_take (i := 4) (oi := ({ dst := some 117, op := Go.Op.indexAddr 32 (Go.Operand.tmp 115) (Go.Operand.tmp 116), type := 0, pos := "ref.go:286", after := #[{ on := 2, ground := Go.Ground.data }, { on := 3, ground := Go.Ground.data }], guard := none } : Oper)) (v := ?_) rfl (by kernel_rfl) (by kernel_rfl) (by kernel_rfl) (fun _ _ _ h => h) (Or.inl ⟨by rfl, ?_⟩) (by assumption) ?_
              rotate_left 1
              · (intro w hSw; (try dsimp only at hSw); go_simp; (try with_reducible rfl))
              try simp only [Act.put, List.setIfInBounds_toArray, List.set_cons_zero, List.set_cons_succ]
              refine wpAnyH_take (i := 5) (oi := ({ dst := some 118, op := Go.Op.load 28 (Go.Operand.tmp 117), type := 28, pos := "ref.go:286", after := #[{ on := 4, ground := Go.Ground.data }], guard := none } : Oper)) (v := ?_) rfl (by kernel_rfl) (by kernel_rfl) (by kernel_rfl) (fun _ _ _ h => h) (Or.inl ⟨by rfl, ?_⟩) (by assumption) ?_
              rotate_left 1
              · (intro w hSw; (try dsimp only at hSw); go_simp; (try with_reducible rfl))
              try simp only [Act.put, List.setIfInBounds_toArray, List.set_cons_zero, List.set_cons_succ]
              refine wpAnyH_take (i := 6) (oi := ({ dst := some 119, op := Go.Op.move (Go.Operand.tmp 14), type := 28, pos := "ref.go:286", after := #[], guard := none } : Oper)) (v := ?_) rfl (by kernel_rfl) (by kernel_rfl) (by kernel_rfl) (fun _ _ _ h => h) (Or.inl ⟨by rfl, ?_⟩) (by assumption) ?_
              rotate_left 1
              · (intro w hSw; (try dsimp only at hSw); go_simp; (try with_reducible rfl))
              try simp only [Act.put, List.setIfInBounds_toArray, List.set_cons_zero, List.set_cons_succ]
              refine wpAnyH_take (i := 7) (oi := ({ dst := some 120, op := Go.Op.binOp Go.BinOp.and 28 (Go.Operand.tmp 118) (Go.Operand.tmp 119) 28, type := 28, pos := "ref.go:286", after := #[{ on := 5, ground := Go.Ground.data }, { on := 6, ground := Go.Ground.data }], guard := none } : Oper)) (v := ?_) rfl (by kernel_rfl) (by kernel_rfl) (by kernel_rfl) (fun _ _ _ h => h) (Or.inl ⟨by rfl, ?_⟩) (by assumption) ?_
              rotate_left 1
              · (intro w hSw; (try dsimp only at hSw); go_simp; (try with_reducible rfl))
              try simp only [Act.put, List.setIfInBounds_toArray, List.set_cons_zero, List.set_cons_succ]
              refine wpAnyH_take (i := 8) (oi := ({ dst := some 121, op := Go.Op.move (Go.Operand.tmp 14), type := 28, pos := "ref.go:286", after := #[], guard := none } : Oper)) (v := ?_) rfl (by kernel_rfl) (by kernel_rfl) (by kernel_rfl) (fun _ _ _ h => h) (Or.inl ⟨by rfl, ?_⟩) (by assumption) ?_
              rotate_left 1
              · (intro w hSw; (try dsimp only at hSw); go_simp; (try with_reducible rfl))
              try simp only [Act.put, List.setIfInBounds_toArray, List.set_cons_zero, List.set_cons_succ]
              refine wpAnyH_take (i := 9) (oi := ({ dst := some 122, op := Go.Op.binOp Go.BinOp.neq 28 (Go.Operand.tmp 120) (Go.Operand.tmp 121) 28, type := 4, pos := "ref.go:286", after := #[{ on := 7, ground := Go.Ground.data }, { on := 8, ground := Go.Ground.data }], guard := none } : Oper)) (v := ?_) rfl (by kernel_rfl) (by kernel_rfl) (by kernel_rfl) (fun _ _ _ h => h) (Or.inl ⟨by rfl, ?_⟩) (by assumption) ?_
              rotate_left 1
              · (intro w hSw; (try dsimp only at hSw); go_simp; (try with_reducible rfl))
              try simp only [Act.put, List.setIfInBounds_toArray, List.set_cons_zero, List.set_cons_succ]
              refine wpAnyH_take (i := 10) (oi := ({ dst := some 123, op := Go.Op.move (Go.Operand.tmp 122), type := 4, pos := "ref.go:286", after := #[{ on := 9, ground := Go.Ground.data }], guard := none } : Oper)) (v := ?_) rfl (by kernel_rfl) (by kernel_rfl) (by kernel_rfl) (fun _ _ _ h => h) (Or.inl ⟨by rfl, ?_⟩) (by assumption) ?_
              rotate_left 1
              · (intro w hSw; (try dsimp only at hSw); go_simp; (try with_reducible rfl))
              try simp only [Act.put, List.setIfInBounds_toArray, List.set_cons_zero, List.set_cons_succ]
              refine wpAnyH_take (i := 11) (oi := ({ dst := some 124, op := Go.Op.move (Go.Operand.tmp 13), type := 28, pos := "ref.go:286", after := #[{ on := 10, ground := Go.Ground.guard }], guard := some (10, false) } : Oper)) (v := undef) rfl (by kernel_rfl) (by kernel_rfl) (by kernel_rfl) (fun _ _ _ h => h) (Or.inr ⟨by rfl, rfl⟩) (by assumption) ?_
              try simp only [Act.put, List.setIfInBounds_toArray, List.set_cons_zero, List.set_cons_succ]
              refine wpAnyH_take (i := 12) (oi := ({ dst := some 125, op := Go.Op.binOp Go.BinOp.gtr 28 (Go.Operand.tmp 124) (Go.Operand.const (Go.Value.int Go.IntKind.u64 64)) 28, type := 4, pos := "ref.go:286", after := #[{ on := 11, ground := Go.Ground.data }, { on := 10, ground := Go.Ground.guard }], guard := some (10, false) } : Oper)) (v := undef) rfl (by kernel_rfl) (by kernel_rfl) (by kernel_rfl) (fun _ _ _ h => h) (Or.inr ⟨by rfl, rfl⟩) (by assumption) ?_
              try simp only [Act.put, List.setIfInBounds_toArray, List.set_cons_zero, List.set_cons_succ]
              refine wpAnyH_take (i := 13) (oi := ({ dst := some 126, op := Go.Op.pick (Go.Operand.tmp 123) (Go.Operand.const (Go.Value.bool true)) (Go.Operand.tmp 125), type := 4, pos := "ref.go:286", after := #[{ on := 10, ground := Go.Ground.data }, { on := 12, ground := Go.Ground.data }], guard := none } : Oper)) (v := ?_) rfl (by kernel_rfl) (by kernel_rfl) (by kernel_rfl) (fun _ _ _ h => h) (Or.inl ⟨by rfl, ?_⟩) (by assumption) ?_
              rotate_left 1
              · (intro w hSw; (try dsimp only at hSw); go_simp; (try with_reducible rfl))
              try simp only [Act.put, List.setIfInBounds_toArray, List.set_cons_zero, List.set_cons_succ]
              refine wpAnyH_ready (rs := [14]) (by kernel_rfl) (by simp) ?_
              refine AllReadyH.cons (o := ({ dst := some 127, op := Go.Op.call { callee := Go.Callee.value (Go.Operand.func 52), args := #[Go.Operand.tmp 113, Go.Operand.tmp 114, Go.Operand.const (Go.Value.int Go.IntKind.i64 3), Go.Operand.tmp 126], argTypes := #[85, 3, 3, 4] }, type := 0, pos := "ref.go:286", after := #[{ on := 0, ground := Go.Ground.data }, { on := 1, ground := Go.Ground.data }, { on := 13, ground := Go.Ground.data }, { on := 10, ground := Go.Ground.chain }], guard := none } : Oper)) rfl (fun K hK => ?_) AllReadyH.nil
              go_simp
              go_at_call 52
              refine (HN.out w4.drew _ 3 _ (HG4.out.of rfl)).mono ?_
              rintro e3 w5 ⟨⟨x3, rfl⟩, hG5, hC5⟩
              have HG5 := hide hG5
              have HC5 : Hid (Ch (fun j => j = g) wr w5) := HC4.out.drew.trans hC5
              clear hG5 hC5
              go_wp2_with (fail)
              refine hK.out _ _ ?_ (fun hHeld => ?_)
              · exact HK.out _ HC5.out
              clear hK K
              try simp only [Act.put, List.setIfInBounds_toArray, List.set_cons_zero, List.set_cons_succ]
              refine wpAnyH_done (by kernel_rfl) ?_ _
              have HEnd := hide (HFin.out w5 _ HC5.out HG5.out)
              have HRn1 := hide (HRn.out _ _ (B1.out _ rfl) (B4.out _ (by rw [hq])))
              clear HFin HRn HC0 HC4 HC5 HG0 HG4 HG5 HK HN B1 B4
              go_wp2
              all_goals exact ⟨⟨k + 1, _, cc, by go_num, HRn1, HEnd.out.1, HEnd.out.2⟩, by simp [intOf]; omega⟩
            | false =>
              go_wp2_with (fail)
              go_region_held3 (S23d fb g N k T9) ((first | with_reducible exact HK.out _ (Ch.drew HC4.out) | with_reducible exact HK.out _ HC5.out)) ((first | (go_at_call 52; refine (HN.out w4.drew _ 3 _ (HG4.out.of rfl)).mono ?_; rintro e3 w5 ⟨⟨x3, rfl⟩, hG5, hC5⟩; have HG5 := hide hG5; have HC5 : Hid (Ch (fun j => j = g) wr w5) := HC4.out.drew.trans hC5; clear hG5 hC5)))
              have HEnd := hide (HFin.out w5 _ HC5.out HG5.out)
              have HRn1 := hide (HRn.out _ _ (B1.out _ rfl) (B4.out _ (by rw [hq])))
              clear HFin HRn HC0 HC4 HC5 HG0 HG4 HG5 HK HN B1 B4
              go_wp2
              all_goals exact ⟨⟨k + 1, _, cc, by go_num, HRn1, HEnd.out.1, HEnd.out.2⟩, by simp [intOf]; omega⟩
          · have B4 := hide (B3.out T9 _ HT9.out (bw_big _ (by omega)))
            go_wp2_with (fail)
            clear hb B3 HT9
            cases hq : (bits .and .u64 T9 18446744073709551615 != 18446744073709551615) with
            | true =>
              go_wp2_with (fail)
              refine wp_region_held_drew (S := (S23d fb g N k T9)) (by kernel_rfl) ?_ (fun hHeld => ?_)
              · exact HK.out _ (Ch.drew HC4.out)
              refine wpAnyH_take (i := 0) (oi := ({ dst := some 113, op := Go.Op.load 85 (Go.Operand.tmp 7), type := 85, pos := "ref.go:286", after := #[], guard := none } : Oper)) (v := ?_) rfl (by kernel_rfl) (by kernel_rfl) (by kernel_rfl) (fun _ _ _ h => h) (Or.inl ⟨by rfl, ?_⟩) (by assumption) ?_
              rotate_left 1
              · (intro w hSw; (try dsimp only at hSw); go_simp; (try with_reducible rfl))
              try simp only [Act.put, List.setIfInBounds_toArray, List.set_cons_zero, List.set_cons_succ]
              refine wpAnyH_take (i := 1) (oi := ({ dst := some 114, op := Go.Op.move (Go.Operand.tmp 12), type := 3, pos := "ref.go:286", after := #[], guard := none } : Oper)) (v := ?_) rfl (by kernel_rfl) (by kernel_rfl) (by kernel_rfl) (fun _ _ _ h => h) (Or.inl ⟨by rfl, ?_⟩) (by assumption) ?_
              rotate_left 1
              · (intro w hSw; (try dsimp only at hSw); go_simp; (try with_reducible rfl))
              try simp only [Act.put, List.setIfInBounds_toArray, List.set_cons_zero, List.set_cons_succ]
              refine wpAnyH_take (i := 2) (oi := ({ dst := some 115, op := Go.Op.move (Go.Operand.tmp 8), type := 32, pos := "ref.go:286", after := #[], guard := none } : Oper)) (v := ?_) rfl (by kernel_rfl) (by kernel_rfl) (by kernel_rfl) (fun _ _ _ h => h) (Or.inl ⟨by rfl, ?_⟩) (by assumption) ?_
              rotate_left 1
              · (intro w hSw; (try dsimp only at hSw); go_simp; (try with_reducible rfl))
              try simp only [Act.put, List.setIfInBounds_toArray, List.set_cons_zero, List.set_cons_succ]
              refine wpAnyH_take (i := 3) (oi := ({ dst := some 116, op := Go.Op.move (Go.Operand.tmp 12), type := 3, pos := "ref.go:286", after := #[], guard := none } : Oper)) (v := ?_) rfl (by kernel_rfl) (by kernel_rfl) (by kernel_rfl) (fun _ _ _ h => h) (Or.inl ⟨by rfl, ?_⟩) (by assumption) ?_
              rotate_left 1
              · (intro w hSw; (try dsimp only at hSw); go_simp; (try with_reducible rfl))
              try simp only [Act.put, List.setIfInBounds_toArray, List.set_cons_zero, List.set_cons_succ]
              refine wpAnyH_take (i := 4) (oi := ({ dst := some 117, op := Go.Op.indexAddr 32 (Go.Operand.tmp 115) (Go.Operand.tmp 116), type := 0, pos := "ref.go:286", after := #[{ on := 2, ground := Go.Ground.data }, { on := 3, ground := Go.Ground.data }], guard := none } : Oper)) (v := ?_) rfl (by kernel_rfl) (by kernel_rfl) (by kernel_rfl) (fun _ _ _ h => h) (Or.inl ⟨by rfl, ?_⟩) (by assumption) ?_
              rotate_left 1
              · (intro w hSw; (try dsimp only at hSw); go_simp; (try with_reducible rfl))
              try simp only [Act.put, List.setIfInBounds_toArray, List.set_cons_zero, List.set_cons_succ]
              refine wpAnyH_take (i := 5) (oi := ({ dst := some 118, op := Go.Op.load 28 (Go.Operand.tmp 117), type := 28, pos := "ref.go:286", after := #[{ on := 4, ground := Go.Ground.data }], guard := none } : Oper)) (v := ?_) rfl (by kernel_rfl) (by kernel_rfl) (by kernel_rfl) (fun _ _ _ h => h) (Or.inl ⟨by rfl, ?_⟩) (by assumption) ?_
              rotate_left 1
              · (intro w hSw; (try dsimp only at hSw); go_simp; (try with_reducible rfl))
              try simp only [Act.put, List.setIfInBounds_toArray, List.set_cons_zero, List.set_cons_succ]
              refine wpAnyH_take (i := 6) (oi := ({ dst := some 119, op := Go.Op.move (Go.Operand.tmp 14), type := 28, pos := "ref.go:286", after := #[], guard := none } : Oper)) (v := ?_) rfl (by kernel_rfl) (by kernel_rfl) (by kernel_rfl) (fun _ _ _ h => h) (Or.inl ⟨by rfl, ?_⟩) (by assumption) ?_
              rotate_left 1
              · (intro w hSw; (try dsimp only at hSw); go_simp; (try with_reducible rfl))
              try simp only [Act.put, List.setIfInBounds_toArray, List.set_cons_zero, List.set_cons_succ]
              refine wpAnyH_take (i := 7) (oi := ({ dst := some 120, op := Go.Op.binOp Go.BinOp.and 28 (Go.Operand.tmp 118) (Go.Operand.tmp 119) 28, type := 28, pos := "ref.go:286", after := #[{ on := 5, ground := Go.Ground.data }, { on := 6, ground := Go.Ground.data }], guard := none } : Oper)) (v := ?_) rfl (by kernel_rfl) (by kernel_rfl) (by kernel_rfl) (fun _ _ _ h => h) (Or.inl ⟨by rfl, ?_⟩) (by assumption) ?_
              rotate_left 1
              · (intro w hSw; (try dsimp only at hSw); go_simp; (try with_reducible rfl))
              try simp only [Act.put, List.setIfInBounds_toArray, List.set_cons_zero, List.set_cons_succ]
              refine wpAnyH_take (i := 8) (oi := ({ dst := some 121, op := Go.Op.move (Go.Operand.tmp 14), type := 28, pos := "ref.go:286", after := #[], guard := none } : Oper)) (v := ?_) rfl (by kernel_rfl) (by kernel_rfl) (by kernel_rfl) (fun _ _ _ h => h) (Or.inl ⟨by rfl, ?_⟩) (by assumption) ?_
              rotate_left 1
              · (intro w hSw; (try dsimp only at hSw); go_simp; (try with_reducible rfl))
              try simp only [Act.put, List.setIfInBounds_toArray, List.set_cons_zero, List.set_cons_succ]
              refine wpAnyH_take (i := 9) (oi := ({ dst := some 122, op := Go.Op.binOp Go.BinOp.neq 28 (Go.Operand.tmp 120) (Go.Operand.tmp 121) 28, type := 4, pos := "ref.go:286", after := #[{ on := 7, ground := Go.Ground.data }, { on := 8, ground := Go.Ground.data }], guard := none } : Oper)) (v := ?_) rfl (by kernel_rfl) (by kernel_rfl) (by kernel_rfl) (fun _ _ _ h => h) (Or.inl ⟨by rfl, ?_⟩) (by assumption) ?_
              rotate_left 1
              · (intro w hSw; (try dsimp only at hSw); go_simp; (try with_reducible rfl))
              try simp only [Act.put, List.setIfInBounds_toArray, List.set_cons_zero, List.set_cons_succ]
              refine wpAnyH_take (i := 10) (oi := ({ dst := some 123, op := Go.Op.move (Go.Operand.tmp 122), type := 4, pos := "ref.go:286", after := #[{ on := 9, ground := Go.Ground.data }], guard := none } : Oper)) (v := ?_) rfl (by kernel_rfl) (by kernel_rfl) (by kernel_rfl) (fun _ _ _ h => h) (Or.inl ⟨by rfl, ?_⟩) (by assumption) ?_
              rotate_left 1
              · (intro w hSw; (try dsimp only at hSw); go_simp; (try with_reducible rfl))
              try simp only [Act.put, List.setIfInBounds_toArray, List.set_cons_zero, List.set_cons_succ]
              refine wpAnyH_take (i := 11) (oi := ({ dst := some 124, op := Go.Op.move (Go.Operand.tmp 13), type := 28, pos := "ref.go:286", after := #[{ on := 10, ground := Go.Ground.guard }], guard := some (10, false) } : Oper)) (v := undef) rfl (by kernel_rfl) (by kernel_rfl) (by kernel_rfl) (fun _ _ _ h => h) (Or.inr ⟨by rfl, rfl⟩) (by assumption) ?_
              try simp only [Act.put, List.setIfInBounds_toArray, List.set_cons_zero, List.set_cons_succ]
              refine wpAnyH_take (i := 12) (oi := ({ dst := some 125, op := Go.Op.binOp Go.BinOp.gtr 28 (Go.Operand.tmp 124) (Go.Operand.const (Go.Value.int Go.IntKind.u64 64)) 28, type := 4, pos := "ref.go:286", after := #[{ on := 11, ground := Go.Ground.data }, { on := 10, ground := Go.Ground.guard }], guard := some (10, false) } : Oper)) (v := undef) rfl (by kernel_rfl) (by kernel_rfl) (by kernel_rfl) (fun _ _ _ h => h) (Or.inr ⟨by rfl, rfl⟩) (by assumption) ?_
              try simp only [Act.put, List.setIfInBounds_toArray, List.set_cons_zero, List.set_cons_succ]
              refine wpAnyH_take (i := 13) (oi := ({ dst := some 126, op := Go.Op.pick (Go.Operand.tmp 123) (Go.Operand.const (Go.Value.bool true)) (Go.Operand.tmp 125), type := 4, pos := "ref.go:286", after := #[{ on := 10, ground := Go.Ground.data }, { on := 12, ground := Go.Ground.data }], guard := none } : Oper)) (v := ?_) rfl (by kernel_rfl) (by kernel_rfl) (by kernel_rfl) (fun _ _ _ h => h) (Or.inl ⟨by rfl, ?_⟩) (by assumption) ?_
              rotate_left 1
              · (intro w hSw; (try dsimp only at hSw); go_simp; (try with_reducible rfl))
              try simp only [Act.put, List.setIfInBounds_toArray, List.set_cons_zero, List.set_cons_succ]
              refine wpAnyH_ready (rs := [14]) (by kernel_rfl) (by simp) ?_
              refine AllReadyH.cons (o := ({ dst := some 127, op := Go.Op.call { callee := Go.Callee.value (Go.Operand.func 52), args := #[Go.Operand.tmp 113, Go.Operand.tmp 114, Go.Operand.const (Go.Value.int Go.IntKind.i64 3), Go.Operand.tmp 126], argTypes := #[85, 3, 3, 4] }, type := 0, pos := "ref.go:286", after := #[{ on := 0, ground := Go.Ground.data }, { on := 1, ground := Go.Ground.data }, { on := 13, ground := Go.Ground.data }, { on := 10, ground := Go.Ground.chain }], guard := none } : Oper)) rfl (fun K hK => ?_) AllReadyH.nil
              go_simp
              go_at_call 52
              refine (HN.out w4.drew _ 3 _ (HG4.out.of rfl)).mono ?_
              rintro e3 w5 ⟨⟨x3, rfl⟩, hG5, hC5⟩
              have HG5 := hide hG5
              have HC5 : Hid (Ch (fun j => j = g) wr w5) := HC4.out.drew.trans hC5
              clear hG5 hC5
              go_wp2_with (fail)
              refine hK.out _ _ ?_ (fun hHeld => ?_)
              · exact HK.out _ HC5.out
              clear hK K
              try simp only [Act.put, List.setIfInBounds_toArray, List.set_cons_zero, List.set_cons_succ]
              refine wpAnyH_done (by kernel_rfl) ?_ _
              have HEnd := hide (HFin.out w5 _ HC5.out HG5.out)
              have HRn1 := hide (HRn.out _ _ (B1.out _ rfl) (B4.out _ (by rw [hq])))
              clear HFin HRn HC0 HC4 HC5 HG0 HG4 HG5 HK HN B1 B4
              go_wp2
              all_goals exact ⟨⟨k + 1, _, cc, by go_num, HRn1, HEnd.out.1, HEnd.out.2⟩, by simp [intOf]; omega⟩
            | false =>
              go_wp2_with (fail)
              go_region_held3 (S23d fb g N k T9) ((first | with_reducible exact HK.out _ (Ch.drew HC4.out) | with_reducible exact HK.out _ HC5.out)) ((first | (go_at_call 52; refine (HN.out w4.drew _ 3 _ (HG4.out.of rfl)).mono ?_; rintro e3 w5 ⟨⟨x3, rfl⟩, hG5, hC5⟩; have HG5 := hide hG5; have HC5 : Hid (Ch (fun j => j = g) wr w5) := HC4.out.drew.trans hC5; clear hG5 hC5)))
              have HEnd := hide (HFin.out w5 _ HC5.out HG5.out)
              have HRn1 := hide (HRn.out _ _ (B1.out _ rfl) (B4.out _ (by rw [hq])))
              clear HFin HRn HC0 HC4 HC5 HG0 HG4 HG5 HK HN B1 B4
              go_wp2
              all_goals exact ⟨⟨k + 1, _, cc, by go_num, HRn1, HEnd.out.1, HEnd.out.2⟩, by simp [intOf]; omega⟩
        · have hcc : ¬ (k : Int) < (N : Int) := by omega
          have hkn : N = k := by omega
          subst hkn
          obtain ⟨z1, z2, z3, z4, z5⟩ := HZ.out
          have HV := hide (verdict_any g N G _ hn (HR.out.ext (fun v r hv => ⟨fun h => h.elim (fun h => .inl (.inl h)) (fun h => h.2), fun h => .inr ⟨hv, h⟩⟩)) (fun v r h => PD.lt h) wr z4)
          have cX := z3.cell
          have HZz := hide z2
          have HZb := hide z5
          clear z1 z2 z3 z4 z5 HR HH HZ
          go_wp2_with (fail)
          refine HV.out.mono ?_
          rintro e4 w4 ⟨o, rfl, hL, hB4⟩
          have hz4 : w4.heap[w.heap.size + 1]? = some (.cells z3 35 (0, 0)) := (hB4.block _ (lt_of_some HZz.out)).trans HZz.out
          have hbs := HZb.out.size
          obtain ⟨g0, g1, g2, f0, f1, f2⟩ := z35 hz4
          have HF : Hid (∀ a b c, (((w4.setCell ⟨w.heap.size + 1, 0, none⟩ a).setCell ⟨w.heap.size + 1, 1, none⟩ b).setCell ⟨w.heap.size + 1, 2, none⟩ c).heap[w.heap.size + 1]? = some (.cells #[a, b, c] 35 (0, 0)) ∧ Below w.heap.size w (((w4.setCell ⟨w.heap.size + 1, 0, none⟩ a).setCell ⟨w.heap.size + 1, 1, none⟩ b).setCell ⟨w.heap.size + 1, 2, none⟩ c)) := fun a b c => by
            rw [sets3 hz4 rfl]
            exact ⟨setRow_heap _ _ _ _ _ _ hz4, below_setRow (HZb.out.trans (hB4.mono hbs)) (by omega) _⟩
          have HL := hide (PD.less hL)
          clear hz4 hB4 hL HV HZz HZb cX
          go_wp2
          all_goals (refine bodyPost_ret (v := .agg #[.bool (vR o), .int .u32 (vV o), .int .i64 (vK o)]) ?_ rfl ?_)
          all_goals first | exact res27 _ _ _ _ _ _ rfl (HF.out _ _ _).1 | exact ⟨o, rfl, HL.out, (HF.out _ _ _).2⟩
end Au
end Go.Proofs.Ytcepfmeoeepjdaa
