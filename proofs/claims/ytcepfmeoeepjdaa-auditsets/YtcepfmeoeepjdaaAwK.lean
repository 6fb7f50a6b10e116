import Derived.Test.YtcepfmeoeepjdaaAwI
import Derived.Test.YtcepfmeoeepjdaaAwJ
import Derived.Test.YtcepfmeoeepjdaaAvC
namespace Go.Proofs.Ytcepfmeoeepjdaa
namespace Au
open Go.RowKit
set_option linter.unusedVariables false
set_option maxRecDepth 8000
theorem pl_of {N A C v : Nat} (h : Ord N A C) (hv : v < N) : pl N A C v = (A * v + C) % N := if_pos ⟨h, hv⟩
theorem nb_same {N A C : Nat} (x z : Nat) : nb N A C (x, x, z) = none := by unfold nb; rw [if_neg (Nat.lt_irrefl _), if_neg (Nat.lt_irrefl _)]
abbrev S9 (b N A C : Nat) (w : World) : Prop := w.cell? ⟨b, 0, none⟩ = some (.int .u32 (N : Int)) ∧ w.cell? ⟨b, 1, none⟩ = some (.int .u32 (A : Int)) ∧ w.cell? ⟨b, 2, none⟩ = some (.int .u32 (C : Int))
/-- What the document's Independent holds besides. -/
def Zi (W w : World) (g fb N A C : Nat) (G : Nat → Int) : Prop := W.heap[w.heap.size]? = some (.cells (rk N A C) 27 (0, 0)) ∧ W.heap[w.heap.size + 1]? = some (.cells z3 35 (0, 0)) ∧ Boxed W fb 85 (.slice (some ⟨g, 0, none⟩) N N) ∧ GI W g N G ∧ Below w.heap.size w W
theorem Zi.ch {W W' w : World} {g fb N A C : Nat} {G : Nat → Int} {X : Nat → Prop} (h : Zi W w g fb N A C G) (hc : Ch X W W') (h1 : ¬ X w.heap.size) (h2 : ¬ X (w.heap.size + 1)) (h3 : ¬ X fb) (h4 : ¬ X g) (h5 : ∀ k, k < w.heap.size → ¬ X k) : Zi W' w g fb N A C G := by
  obtain ⟨a, b, c, d, e⟩ := h
  exact ⟨(hc.block _ (lt_of_some a) h1).trans a, (hc.block _ (lt_of_some b) h2).trans b, (hc.block _ c.lt h3).trans c, d.of (hc.block _ d.lt h4), e.trans (hc.below h5 e.size)⟩
abbrev S16 (fb g N : Nat) (p : Addr) (s : Int) (k : Nat) (h : Bool) (w : World) : Prop := w.cell? ⟨fb, 0, none⟩ = some (.slice (some ⟨g, 0, none⟩) N N) ∧ w.cell? p = some (.int .u64 s) ∧ w.cell? ⟨fb + 1, k, none⟩ = some (.bool h)
theorem PI.lt {S : Nat → Nat → Int} {n : Nat} {H : Nat → Bool} {v r : Nat} (h : PI S n H v r) : v < n := by
  rcases h with ((h | h) | h) | h
  · exact h.elim
  · exact h.2.1
  · exact h.2.1
  · exact h.2.1
theorem res25 (T : Array Value) (b : Nat) (a c d : Value) (W : World) (h10 : T[6]? = some (.pointer (some ⟨b, 0, none⟩))) (h : W.heap[b]? = some (.cells #[a, c, d] 35 (0, 0))) :
    (results Try.f25 T).run Try.prog W = .ok (.agg #[a, c, d]) W := by
  have h0 : W.cell? ⟨b, 0, none⟩ = some a := (cell_of_row _ _ _ _ _ _ h).trans rfl
  have h1 : W.cell? ⟨b, 1, none⟩ = some c := (cell_of_row _ _ _ _ _ _ h).trans rfl
  have h2 : W.cell? ⟨b, 2, none⟩ = some d := (cell_of_row _ _ _ _ _ _ h).trans rfl
  simp [results, Try.f25, go_sem, h10, h0, h1, h2]
set_option maxHeartbeats 8000000 in
theorem rindep_any (N A C ec sc : Nat) (a sa : Option Addr) (L : List T3) (S : Nat → Nat → Int) (ho : Ord N A C) (hn : N ≤ 5000) (hlen : L.length ≤ 140737488351232) (w : World) (hE : Row3 .u32 w a L) (hS : Row8 w sa N S) (hI : ∀ e ∈ L, e.1 < N ∧ e.2.1 < N) :
    Calls Try.prog 25 #[.agg (rk N A C), .slice a L.length ec, .slice sa N sc] w fun e w' => ∃ o, e = .returned (.agg #[.bool (vR o), .int .u32 (vV o), .int .i64 (vK o)]) ∧ Lm (PI S N (ah S N A C L)) o ∧ Below w.heap.size w w' := by
  obtain ⟨n1, n2, n3, n4⟩ := ho.nums
  have HO := hide ho
  have HE := hide hE
  have HSr := hide hS
  have HI := hide hI
  obtain ⟨w0, hw0⟩ : ∃ w0, (w.alloc (.cells (rk N A C) 27)).alloc (.cells z3 35) = w0 := ⟨_, rfl⟩
  have hB0 : Below w.heap.size w w0 := by rw [← hw0]; exact bA2 (b1 _ _ _) _
  have hr0 : w0.heap[w.heap.size]? = some (.cells (rk N A C) 27 (0, 0)) := by rw [← hw0]; exact keep _ (at0 _ _)
  have hz0 : w0.heap[w.heap.size + 1]? = some (.cells z3 35 (0, 0)) := by
    rw [← hw0]
    have := at0 (w.alloc (.cells (rk N A C) 27)) (.cells z3 35)
    rw [World.size_alloc] at this
    exact this
  have HBg := hide (begin_any N hn w0)
  obtain ⟨k0, k1, k2⟩ := k3 hr0
  rw [← hw0] at k0
  have HW0 := hide hw0
  have HR0 := hide hr0
  have HZ0 := hide hz0
  have HB0 := hide hB0
  clear ho hE hS hI hw0 hr0 hz0 hB0 k1 k2
  go_enter Try.func25, Try.ntmps25
  go_wp2_with (fail)
  rw [HW0.out]
  refine HBg.out.mono ?_
  rintro e1 w1 ⟨g, rfl, hg, hGI, hB1⟩
  obtain ⟨w2, hw2⟩ : ∃ w2, w1.alloc (.cells #[.slice (some ⟨g, 0, none⟩) N N] 85) = w2 := ⟨_, rfl⟩
  have hB2 : Below w1.heap.size w1 w2 := by rw [← hw2]; exact b1 _ _ _
  have hfb : Boxed w2 w1.heap.size 85 (.slice (some ⟨g, 0, none⟩) N N) := by rw [← hw2]; exact Boxed.new w1 _ _
  have hr2 : w2.heap[w.heap.size]? = some (.cells (rk N A C) 27 (0, 0)) := (hB2.block _ (Nat.lt_of_lt_of_le (lt_of_some HR0.out) hB1.size)).trans ((hB1.block _ (lt_of_some HR0.out)).trans HR0.out)
  have hz2 : w2.heap[w.heap.size + 1]? = some (.cells z3 35 (0, 0)) := (hB2.block _ (Nat.lt_of_lt_of_le (lt_of_some HZ0.out) hB1.size)).trans ((hB1.block _ (lt_of_some HZ0.out)).trans HZ0.out)
  have hG2 : GI w2 g N (fun _ => 0) := hGI.of (hB2.block _ hGI.lt)
  have hB02 : Below w.heap.size w w2 := (HB0.out.trans (hB1.mono HB0.out.size)).trans (hB2.mono (Nat.le_trans HB0.out.size hB1.size))
  have HZ2 : Hid (Zi w2 w g w1.heap.size N A C (fun _ => 0)) := ⟨hr2, hz2, hfb, hG2, hB02⟩
  obtain ⟨q0, _, _⟩ := k3 hr2
  have hmk := make_bool w2 N (by omega)
  have hH0 := GH.new w2 N
  obtain ⟨w3, hw3⟩ : ∃ w3, w2.alloc (.cells (madeCells #[.bool false] N) 4) = w3 := ⟨_, rfl⟩
  rw [hw3] at hmk hH0
  have hC23 : Ch (fun _ => False) w2 w3 := by rw [← hw3]; exact Ch.of (b1 _ _ _)
  have HZ3 := hide (HZ2.out.ch hC23 (fun h => h) (fun h => h) (fun h => h) (fun h => h) (fun _ _ h => h))
  have HH3 : Hid (GH w3 w2.heap.size N (ah S N A C (L.take 0))) := hH0
  have hs2 := HZ2.out.1
  have HNe : Hid (w.heap.size ≠ w2.heap.size ∧ w.heap.size + 1 ≠ w2.heap.size ∧ w1.heap.size ≠ w2.heap.size ∧ g ≠ w2.heap.size ∧ w.heap.size ≤ w2.heap.size ∧ w.heap.size + 1 < g ∧ g < w1.heap.size) := by
    have a5 := lt_of_some HZ0.out
    have a6 := hGI.lt
    have a1 := lt_of_some hr2
    have a2 := lt_of_some hz2
    have a3 := hfb.lt
    have a4 := hG2.lt
    exact ⟨by omega, by omega, by omega, by omega, by omega, by omega, by omega⟩
  rw [← hw2] at q0 hmk
  simp only [World.size_alloc] at hmk
  have hsz2 : w2.heap.size = w1.heap.size + 1 := by rw [← hw2]; simp
  obtain ⟨fb, hfbe⟩ : ∃ fb, fb = w1.heap.size := ⟨_, rfl⟩
  rw [hsz2] at HH3 HNe
  rw [← hfbe] at HZ3 HNe HH3 hmk
  clear hB1 hB2 hGI hfb hr2 hz2 hG2 hB02 HZ2 hH0 hw3 hC23 HBg HR0 HZ0 HB0 HW0 k0 hs2 hsz2 hw2
  go_wp2_with (fail)
  rw [← hfbe]
  clear q0 hmk hfbe
  go_loopw [9] (fun v wr => ∃ i : Nat, i ≤ L.length ∧ v = .int .i64 i ∧ Hid (GH wr (fb + 1) N (ah S N A C (L.take i))) ∧ Hid (Zi wr w g fb N A C (fun _ => 0))) (fun v _ => L.length - (intOf v).toNat)
  case atStart => exact ⟨0, Nat.zero_le _, rfl, HH3, HZ3⟩
  case round =>
    clear HH3 HZ3
    obtain ⟨i, hi, rfl, HH, HZ⟩ := hrel
    by_cases cc : i < L.length
    · have hcc : (i : Int) < (L.length : Int) := by omega
      obtain ⟨eb, rfl, heb, hce⟩ := HE.out (by omega)
      obtain ⟨⟨x, y, z⟩, hxyz⟩ : ∃ e, L[i]? = some e := ⟨L[i]'(by omega), List.getElem?_eq_getElem (by omega)⟩
      obtain ⟨hxn, hyn⟩ := HI.out _ (List.mem_of_getElem? hxyz)
      simp only at hxn hyn
      obtain ⟨c1, c2, _⟩ := cells3 (hce i _ hxyz)
      simp only at c1 c2
      have HB := hide HZ.out.2.2.2.2
      have HD1 : Hid (∀ W, Below w.heap.size w W → W.cell? (eb.add (i * 3)) = some (.int .u32 (x : Int)) ∧ W.cell? ⟨(eb.add (i * 3)).block, (eb.add (i * 3)).off + 1, none⟩ = some (.int .u32 (y : Int))) := fun W hW => ⟨(hW.cell (p := eb.add (i * 3)) (by rw [add_block]; exact heb)).trans c1, (hW.cell (p := ⟨(eb.add (i * 3)).block, (eb.add (i * 3)).off + 1, none⟩) (by rw [show (⟨(eb.add (i * 3)).block, (eb.add (i * 3)).off + 1, none⟩ : Addr).block = eb.block from add_block _ _]; exact heb)).trans c2⟩
      obtain ⟨d1, d2⟩ := HD1.out wr HB.out
      have HTk : Hid (∀ t, ah S N A C (L.take (i + 1)) t = (ah S N A C (L.take i) t || ahe S N A C t (x, y, z))) := fun t => by rw [take_succ hxyz, ah_app]
      clear c1 c2 hce heb hxyz hi
      by_cases hxy : x = y
      · subst hxy
        have HH1 : Hid (GH wr (fb + 1) N (ah S N A C (L.take (i + 1)))) := by
          obtain ⟨Q, q1, q2⟩ := HH.out
          refine ⟨Q, q1, fun v hv => ?_⟩
          rw [HTk.out v]; unfold ahe; rw [nb_same]; simp only [Bool.or_false]; exact q2 v hv
        clear HH HTk HD1
        go_wp2
        all_goals exact ⟨⟨i + 1, cc, by go_num, HH1, HZ⟩, by simp [intOf]; omega⟩
      · have hxb : ((x : Int) == (y : Int)) = false := by simp; omega
        have HP : Hid (∀ v, v < N → ∀ W, Calls Try.prog 66 #[.agg (rk N A C), .int .u32 (v : Int)] W fun e w' => e = .returned (.int .u64 ((pl N A C v : Nat) : Int)) ∧ w' = W.alloc (.cells (rk N A C) 27)) := fun v hv W => by
          rw [pl_of HO.out hv]
          exact rplace_any N A C v hv n2 n3 n4 W
        have hr := HZ.out.1
        have HS9 : Hid (S9 w.heap.size N A C wr.drew) := k3 (t := 27) hr
        have HS9a : Hid (∀ o, S9 w.heap.size N A C (wr.alloc o).drew) := fun o => k3 (t := 27) (show (wr.alloc o).heap[w.heap.size]? = _ from keep o hr)
        have HS9b : Hid (∀ o p, S9 w.heap.size N A C ((wr.alloc o).alloc p).drew) := fun o p => k3 (t := 27) (show ((wr.alloc o).alloc p).heap[w.heap.size]? = _ from keep p (keep o hr))
        go_wp2_with (fail)
        apply wp_cut (fun w' => w' = ((wr.alloc (.cells (rk N A C) 27)).alloc (.cells (rk N A C) 27)).drew)
        case h =>
          go_region_held3 (S9 w.heap.size N A C) ((first | with_reducible exact HS9.out | with_reducible exact HS9a.out _ | with_reducible exact HS9b.out _ _)) ((first | (go_at_call 66; refine (HP.out _ (by assumption) _).mono ?_; rintro e1 w1' ⟨rfl, rfl⟩)))
          all_goals exact ⟨rfl, rfl⟩
        case hq =>
          rintro w9 rfl
          obtain ⟨w5, hw5⟩ : ∃ w5, ((wr.alloc (.cells (rk N A C) 27)).alloc (.cells (rk N A C) 27)).drew = w5 := ⟨_, rfl⟩
          have hC5 : Ch (fun _ => False) wr w5 := by rw [← hw5]; exact ((Ch.refl _ wr).alloc _ |>.alloc _).drew
          have HH5 : Hid (GH w5 (fb + 1) N (ah S N A C (L.take i))) := HH.out.of (hC5.block _ HH.out.lt (fun h => h))
          have HZ5 := hide (HZ.out.ch hC5 (fun h => h) (fun h => h) (fun h => h) (fun h => h) (fun _ _ h => h))
          have HB5 := hide HZ5.out.2.2.2.2
          obtain ⟨ax, rfl, hAt⟩ := HSr.out (by omega)
          have HAt : Hid (∀ W, Below w.heap.size w W → ∀ u, u < N → W.cell? (ax.add (u * 8)) = some (.int .u64 (S u 0))) := fun W hW u hu => by
            have h := (hAt.k u hu).1
            exact (hW.cell (p := ax.add (u * 8)) (by rw [add_block]; exact hAt.1)).trans h
          have hpn : pl N A C x ≠ pl N A C y := fun e => hxy (pl_inj HO.out hxn hyn e)
          obtain ⟨px, hpx'⟩ : ∃ p, pl N A C x = p := ⟨_, rfl⟩
          obtain ⟨py, hpy'⟩ : ∃ p, pl N A C y = p := ⟨_, rfl⟩
          rw [hpx', hpy']
          rw [hw5]
          obtain ⟨d3, d4⟩ := HD1.out w5 HB5.out
          clear hAt hC5 hw5 HS9 HS9a HS9b HP
          rw [hpx', hpy'] at hpn
          by_cases hlt : py < px
          · have hlti : (py : Int) < (px : Int) := by omega
            have hn9 : nb N A C (x, y, z) = some (x, y) := by unfold nb; simp only; rw [hpx', hpy', if_neg (by omega), if_pos hlt]
            have HHn : Hid (∀ W : World, W.heap[fb + 1]? = w5.heap[fb + 1]? → GH (W.setCell ⟨fb + 1, x, none⟩ (.bool (ah S N A C (L.take i) x || S y 0 == 1))) (fb + 1) N (ah S N A C (L.take (i + 1)))) := fun W hW => by
              obtain ⟨Q, q1, q2⟩ := ((HH5.out.of hW).set x (ah S N A C (L.take i) x || S y 0 == 1)).1
              refine ⟨Q, q1, fun t ht => ?_⟩
              rw [q2 t ht, HTk.out t]
              unfold ahe
              rw [hn9]
              by_cases et : t = x
              · subst et; simp
              · simp [et]
            have oc := HH5.out.cell x hxn
            have of' := HH5.out.fz x
            have sc0 := (HAt.out w5 HB5.out y hyn)
            have HF : Hid (∀ b, b = (ah S N A C (L.take i) x || S y 0 == 1) → GH (w5.setCell ⟨fb + 1, x, none⟩ (.bool b)) (fb + 1) N (ah S N A C (L.take (i + 1))) ∧ Zi (w5.setCell ⟨fb + 1, x, none⟩ (.bool b)) w g fb N A C (fun _ => 0)) := fun b hb => by
              subst hb
              refine ⟨HHn.out w5 rfl, HZ5.out.ch (X := fun k => k = fb + 1) ((Ch.refl _ _).set _ _ (Or.inl rfl)) HNe.out.1 HNe.out.2.1 HNe.out.2.2.1 HNe.out.2.2.2.1 (fun k hk h => by have := HNe.out.2.2.2.2; omega)⟩
            clear HHn HH5 HZ5 HTk hn9 HH HZ
            cases hah : ah S N A C (L.take i) x with
            | true =>
              rw [hah] at oc
              have HF1 := hide (HF.out true (by rw [hah]; rfl))
              clear HF hah
              go_wp2
              all_goals exact ⟨⟨i + 1, cc, by go_num, HF1.out.1, HF1.out.2⟩, by simp [intOf]; omega⟩
            | false =>
              rw [hah] at oc
              have HF1 := hide (HF.out (S y 0 == 1) (by rw [hah]; simp))
              clear HF hah
              go_wp2
              all_goals exact ⟨⟨i + 1, cc, by go_num, HF1.out.1, HF1.out.2⟩, by simp [intOf]; omega⟩
          · have hlti : ¬ (py : Int) < (px : Int) := by omega
            have hn9 : nb N A C (x, y, z) = some (y, x) := by unfold nb; simp only; rw [hpx', hpy', if_pos (by omega)]
            have HHn : Hid (∀ W : World, W.heap[fb + 1]? = w5.heap[fb + 1]? → GH (W.setCell ⟨fb + 1, y, none⟩ (.bool (ah S N A C (L.take i) y || S x 0 == 1))) (fb + 1) N (ah S N A C (L.take (i + 1)))) := fun W hW => by
              obtain ⟨Q, q1, q2⟩ := ((HH5.out.of hW).set y (ah S N A C (L.take i) y || S x 0 == 1)).1
              refine ⟨Q, q1, fun t ht => ?_⟩
              rw [q2 t ht, HTk.out t]
              unfold ahe
              rw [hn9]
              by_cases et : t = y
              · subst et; simp
              · simp [et]
            have oc := HH5.out.cell y hyn
            have of' := HH5.out.fz y
            have sc0 := (HAt.out w5 HB5.out x hxn)
            have HF : Hid (∀ b, b = (ah S N A C (L.take i) y || S x 0 == 1) → GH (w5.setCell ⟨fb + 1, y, none⟩ (.bool b)) (fb + 1) N (ah S N A C (L.take (i + 1))) ∧ Zi (w5.setCell ⟨fb + 1, y, none⟩ (.bool b)) w g fb N A C (fun _ => 0)) := fun b hb => by
              subst hb
              refine ⟨HHn.out w5 rfl, HZ5.out.ch (X := fun k => k = fb + 1) ((Ch.refl _ _).set _ _ (Or.inl rfl)) HNe.out.1 HNe.out.2.1 HNe.out.2.2.1 HNe.out.2.2.2.1 (fun k hk h => by have := HNe.out.2.2.2.2; omega)⟩
            clear HHn HH5 HZ5 HTk hn9 HH HZ
            cases hah : ah S N A C (L.take i) y with
            | true =>
              rw [hah] at oc
              have HF1 := hide (HF.out true (by rw [hah]; rfl))
              clear HF hah
              go_wp2
              all_goals exact ⟨⟨i + 1, cc, by go_num, HF1.out.1, HF1.out.2⟩, by simp [intOf]; omega⟩
            | false =>
              rw [hah] at oc
              have HF1 := hide (HF.out (S x 0 == 1) (by rw [hah]; simp))
              clear HF hah
              go_wp2
              all_goals exact ⟨⟨i + 1, cc, by go_num, HF1.out.1, HF1.out.2⟩, by simp [intOf]; omega⟩
    · have him : i = L.length := by omega
      subst him
      rw [List.take_length] at HH
      clear cc hi
      go_wp2_with (fail)
      obtain ⟨W0, hW0⟩ : ∃ W0, W0 = wr := ⟨_, rfl⟩
      subst hW0
      go_loopw [12] (fun v wr => ∃ (k : Nat) (G : Nat → Int), k ≤ N ∧ v = .int .i64 k ∧ Hid (Rl (fun v r => v < k ∧ PI S N (ah S N A C L) v r) N G) ∧ Hid (GH wr (fb + 1) N (ah S N A C L)) ∧ Hid (Zi wr w g fb N A C G)) (fun v _ => N - (intOf v).toNat)
      case atStart => exact ⟨0, _, Nat.zero_le _, rfl, (Rl.zero N).ext (fun v r _ => ⟨fun h => h.elim, fun h => by omega⟩), HH, HZ⟩
      case round =>
        clear HH HZ
        obtain ⟨k, G, hk, rfl, HR, HH, HZ⟩ := hrel
        by_cases cc : k < N
        · have hcc : (k : Int) < (N : Int) := by omega
          obtain ⟨ax, rfl, hAt⟩ := HSr.out (by omega)
          obtain ⟨h, hh⟩ : ∃ h, ah S N A C L k = h := ⟨_, rfl⟩
          have HK : Hid (∀ W, Ch (fun j => j = g) wr W → S16 fb g N (ax.add (k * 8)) (S k 0) k h W) := fun W hW => by
            obtain ⟨z1, z2, z3, z4, z5⟩ := HZ.out
            obtain ⟨n1, n2, n3, n4, n5, n6, n7⟩ := HNe.out
            have hfl := z3.lt
            have hhl := HH.out.lt
            have hbs := z5.size
            have hax := hAt.1
            refine ⟨(hW.cell (p := ⟨fb, 0, none⟩) hfl (by show fb ≠ g; omega)).trans z3.cell, (hW.cell (p := ax.add (k * 8)) (by rw [add_block]; omega) (by rw [add_block]; omega)).trans ((z5.cell (p := ax.add (k * 8)) (by rw [add_block]; exact hAt.1)).trans (hAt.k k cc).1), (hW.cell (p := ⟨fb + 1, k, none⟩) hhl (by show fb + 1 ≠ g; omega)).trans ?_⟩
            rw [← hh]
            exact HH.out.cell k cc
          have HN : Hid (∀ W G (r : Nat) β, GI W g N G → Calls Try.prog 52 #[.agg #[.slice (some ⟨g, 0, none⟩) N N], .int .i64 (k : Int), .int .i64 (r : Int), .bool β] W fun e w' => (∃ x, e = .returned x) ∧ GI w' g N (nx G k r β) ∧ Ch (fun j => j = g) W w') := fun W G r β hG => fnote_any g N k r β G cc hn W hG
          have HRn : Hid (∀ β2 β3, β2 = (S k 0 == 1 && h) → β3 = (S k 0 == 0 && !h) → Rl (fun v r => v < k + 1 ∧ PI S N (ah S N A C L) v r) N (nx (nx (nx G k 1 (decide (1 < S k 0))) k 2 β2) k 3 β3)) := fun β2 β3 e2 e3 => (((HR.out.note k 1 (decide (1 < S k 0)) (by omega)).note k 2 β2 (by omega)).note k 3 β3 (by omega)).ext (fun v r hv => by
            subst e2 e3
            unfold PI
            constructor
            · rintro (((⟨a, b⟩ | ⟨a, rfl, rfl⟩) | ⟨a, rfl, rfl⟩) | ⟨a, rfl, rfl⟩)
              · exact ⟨by omega, b⟩
              · exact ⟨by omega, .inl (.inl (.inr ⟨rfl, hv, a⟩))⟩
              · exact ⟨by omega, .inl (.inr ⟨rfl, hv, by rw [hh]; exact a⟩)⟩
              · exact ⟨by omega, .inr ⟨rfl, hv, by rw [hh]; exact a⟩⟩
            · rintro ⟨a, b⟩
              by_cases e : v = k
              · subst e
                rw [hh] at b
                rcases b with ((b | ⟨rfl, _, b⟩) | ⟨rfl, _, b⟩) | ⟨rfl, _, b⟩
                · exact b.elim
                · exact .inl (.inl (.inr ⟨b, rfl, rfl⟩))
                · exact .inl (.inr ⟨b, rfl, rfl⟩)
                · exact .inr ⟨b, rfl, rfl⟩
              · exact .inl (.inl (.inl ⟨by omega, b⟩)))
          have HFin : Hid (∀ W G', Ch (fun j => j = g) wr W → GI W g N G' → GH W (fb + 1) N (ah S N A C L) ∧ Zi W w g fb N A C G') := fun W G' hW hG => by
            obtain ⟨z1, z2, z3, z4, z5⟩ := HZ.out
            obtain ⟨n1, n2, n3, n4, n5, n6, n7⟩ := HNe.out
            exact ⟨HH.out.of (hW.block _ HH.out.lt (by show fb + 1 ≠ g; omega)), (hW.block _ (lt_of_some z1) (by show w.heap.size ≠ g; omega)).trans z1, (hW.block _ (lt_of_some z2) (by show w.heap.size + 1 ≠ g; omega)).trans z2, (hW.block _ z3.lt (by show fb ≠ g; omega)).trans z3, hG, z5.trans (hW.below (fun j hj e => by omega) z5.size)⟩
          have HG0 := hide HZ.out.2.2.2.1
          have HC0 : Hid (Ch (fun j => j = g) wr wr) := Ch.refl _ _
          clear hAt hh HH HZ HR hk
          cases h1 : (S k 0 == 1) with
          | true =>
            have h0 : (S k 0 == 0) = false := by simp at h1 ⊢; omega
            go_wp2_with (fail)
            go_region_held3 (S16 fb g N (ax.add (k * 8)) (S k 0) k h) ((first | with_reducible exact HK.out _ (Ch.drew HC0.out) | with_reducible exact HK.out _ HC3.out)) ((first | (go_at_call 52; refine (HN.out wr.drew _ 1 (decide (1 < S k 0)) (HG0.out.of rfl)).mono ?_; rintro e3 w3 ⟨⟨x3, rfl⟩, hG3, hC3⟩; have HG3 := hide hG3; have HC3 : Hid (Ch (fun j => j = g) wr w3) := HC0.out.drew.trans hC3; clear hG3 hC3)))
            go_wp2_with (fail)
            go_region_held3 (S16 fb g N (ax.add (k * 8)) (S k 0) k h) ((first | with_reducible exact HK.out _ (Ch.drew HC3.out) | with_reducible exact HK.out _ HC4.out)) ((first | (go_at_call 52; refine (HN.out w3.drew _ 2 h (HG3.out.of rfl)).mono ?_; rintro e3 w4 ⟨⟨x3, rfl⟩, hG3, hC3⟩; have HG4 := hide hG3; have HC4 : Hid (Ch (fun j => j = g) wr w4) := HC3.out.drew.trans hC3; clear hG3 hC3)))
            go_wp2_with (fail)
            refine wp_region_held_drew (S := (S16 fb g N (ax.add (k * 8)) (S k 0) k h)) (by kernel_rfl) ?_ (fun hHeld => ?_)
            · exact HK.out _ (Ch.drew HC4.out)
            refine wpAnyH_take (i := 0) (oi := ({ dst := some 100, op := Go.Op.load 85 (Go.Operand.tmp 7), type := 85, pos := "ref.go:255", after := #[], guard := none } : Oper)) (v := ?_) rfl (by kernel_rfl) (by kernel_rfl) (by kernel_rfl) (fun _ _ _ h => h) (Or.inl ⟨by rfl, ?_⟩) (by assumption) ?_
            rotate_left 1
            · (intro w hSw; (try dsimp only at hSw); go_simp; (try with_reducible rfl))
            try simp only [Act.put, List.setIfInBounds_toArray, List.set_cons_zero, List.set_cons_succ]
            refine wpAnyH_take (i := 1) (oi := ({ dst := some 101, op := Go.Op.move (Go.Operand.tmp 12), type := 3, pos := "ref.go:255", after := #[], guard := none } : Oper)) (v := ?_) rfl (by kernel_rfl) (by kernel_rfl) (by kernel_rfl) (fun _ _ _ h => h) (Or.inl ⟨by rfl, ?_⟩) (by assumption) ?_
            rotate_left 1
            · (intro w hSw; (try dsimp only at hSw); go_simp; (try with_reducible rfl))
            try simp only [Act.put, List.setIfInBounds_toArray, List.set_cons_zero, List.set_cons_succ]
            refine wpAnyH_take (i := 2) (oi := ({ dst := some 102, op := Go.Op.move (Go.Operand.tmp 2), type := 23, pos := "ref.go:255", after := #[], guard := none } : Oper)) (v := ?_) rfl (by kernel_rfl) (by kernel_rfl) (by kernel_rfl) (fun _ _ _ h => h) (Or.inl ⟨by rfl, ?_⟩) (by assumption) ?_
            rotate_left 1
            · (intro w hSw; (try dsimp only at hSw); go_simp; (try with_reducible rfl))
            try simp only [Act.put, List.setIfInBounds_toArray, List.set_cons_zero, List.set_cons_succ]
            refine wpAnyH_take (i := 3) (oi := ({ dst := some 103, op := Go.Op.move (Go.Operand.tmp 12), type := 3, pos := "ref.go:255", after := #[], guard := none } : Oper)) (v := ?_) rfl (by kernel_rfl) (by kernel_rfl) (by kernel_rfl) (fun _ _ _ h => h) (Or.inl ⟨by rfl, ?_⟩) (by assumption) ?_
            rotate_left 1
            · (intro w hSw; (try dsimp only at hSw); go_simp; (try with_reducible rfl))
            try simp only [Act.put, List.setIfInBounds_toArray, List.set_cons_zero, List.set_cons_succ]
            refine wpAnyH_take (i := 4) (oi := ({ dst := some 104, op := Go.Op.indexAddr 23 (Go.Operand.tmp 102) (Go.Operand.tmp 103), type := 0, pos := "ref.go:255", after := #[{ on := 2, ground := Go.Ground.data }, { on := 3, ground := Go.Ground.data }], guard := none } : Oper)) (v := ?_) rfl (by kernel_rfl) (by kernel_rfl) (by kernel_rfl) (fun _ _ _ h => h) (Or.inl ⟨by rfl, ?_⟩) (by assumption) ?_
            rotate_left 1
            · (intro w hSw; (try dsimp only at hSw); go_simp; (try with_reducible rfl))
            try simp only [Act.put, List.setIfInBounds_toArray, List.set_cons_zero, List.set_cons_succ]
            refine wpAnyH_take (i := 5) (oi := ({ dst := some 105, op := Go.Op.indexAddr 63 (Go.Operand.tmp 104) (Go.Operand.const (Go.Value.int Go.IntKind.i64 0)), type := 0, pos := "ref.go:255", after := #[{ on := 4, ground := Go.Ground.data }], guard := none } : Oper)) (v := ?_) rfl (by kernel_rfl) (by kernel_rfl) (by kernel_rfl) (fun _ _ _ h => h) (Or.inl ⟨by rfl, ?_⟩) (by assumption) ?_
            rotate_left 1
            · (intro w hSw; (try dsimp only at hSw); go_simp; (try with_reducible rfl))
            try simp only [Act.put, List.setIfInBounds_toArray, List.set_cons_zero, List.set_cons_succ]
            refine wpAnyH_take (i := 6) (oi := ({ dst := some 106, op := Go.Op.load 28 (Go.Operand.tmp 105), type := 28, pos := "ref.go:255", after := #[{ on := 5, ground := Go.Ground.data }], guard := none } : Oper)) (v := ?_) rfl (by kernel_rfl) (by kernel_rfl) (by kernel_rfl) (fun _ _ _ h => h) (Or.inl ⟨by rfl, ?_⟩) (by assumption) ?_
            rotate_left 1
            · (intro w hSw; (try dsimp only at hSw); go_simp; (try with_reducible rfl))
            try simp only [Act.put, List.setIfInBounds_toArray, List.set_cons_zero, List.set_cons_succ]
            refine wpAnyH_take (i := 7) (oi := ({ dst := some 107, op := Go.Op.binOp Go.BinOp.eql 28 (Go.Operand.tmp 106) (Go.Operand.const (Go.Value.int Go.IntKind.u64 0)) 28, type := 4, pos := "ref.go:255", after := #[{ on := 6, ground := Go.Ground.data }], guard := none } : Oper)) (v := ?_) rfl (by kernel_rfl) (by kernel_rfl) (by kernel_rfl) (fun _ _ _ h => h) (Or.inl ⟨by rfl, ?_⟩) (by assumption) ?_
            rotate_left 1
            · (intro w hSw; (try dsimp only at hSw); go_simp; (try with_reducible rfl))
            try simp only [Act.put, List.setIfInBounds_toArray, List.set_cons_zero, List.set_cons_succ]
            refine wpAnyH_take (i := 8) (oi := ({ dst := some 108, op := Go.Op.move (Go.Operand.tmp 107), type := 4, pos := "ref.go:255", after := #[{ on := 7, ground := Go.Ground.data }], guard := none } : Oper)) (v := ?_) rfl (by kernel_rfl) (by kernel_rfl) (by kernel_rfl) (fun _ _ _ h => h) (Or.inl ⟨by rfl, ?_⟩) (by assumption) ?_
            rotate_left 1
            · (intro w hSw; (try dsimp only at hSw); go_simp; (try with_reducible rfl))
            try simp only [Act.put, List.setIfInBounds_toArray, List.set_cons_zero, List.set_cons_succ]
            refine wpAnyH_take (i := 9) (oi := ({ dst := some 109, op := Go.Op.move (Go.Operand.tmp 8), type := 92, pos := "ref.go:255", after := #[{ on := 8, ground := Go.Ground.guard }], guard := some (8, true) } : Oper)) (v := undef) rfl (by kernel_rfl) (by kernel_rfl) (by kernel_rfl) (fun _ _ _ h => h) (Or.inr ⟨by rfl, rfl⟩) (by assumption) ?_
            try simp only [Act.put, List.setIfInBounds_toArray, List.set_cons_zero, List.set_cons_succ]
            refine wpAnyH_take (i := 10) (oi := ({ dst := some 110, op := Go.Op.move (Go.Operand.tmp 12), type := 3, pos := "ref.go:255", after := #[{ on := 8, ground := Go.Ground.guard }], guard := some (8, true) } : Oper)) (v := undef) rfl (by kernel_rfl) (by kernel_rfl) (by kernel_rfl) (fun _ _ _ h => h) (Or.inr ⟨by rfl, rfl⟩) (by assumption) ?_
            try simp only [Act.put, List.setIfInBounds_toArray, List.set_cons_zero, List.set_cons_succ]
            refine wpAnyH_take (i := 11) (oi := ({ dst := some 111, op := Go.Op.indexAddr 92 (Go.Operand.tmp 109) (Go.Operand.tmp 110), type := 0, pos := "ref.go:255", after := #[{ on := 9, ground := Go.Ground.data }, { on := 10, ground := Go.Ground.data }, { on := 8, ground := Go.Ground.guard }], guard := some (8, true) } : Oper)) (v := undef) rfl (by kernel_rfl) (by kernel_rfl) (by kernel_rfl) (fun _ _ _ h => h) (Or.inr ⟨by rfl, rfl⟩) (by assumption) ?_
            try simp only [Act.put, List.setIfInBounds_toArray, List.set_cons_zero, List.set_cons_succ]
            refine wpAnyH_take (i := 12) (oi := ({ dst := some 112, op := Go.Op.load 4 (Go.Operand.tmp 111), type := 4, pos := "ref.go:255", after := #[{ on := 11, ground := Go.Ground.data }, { on := 8, ground := Go.Ground.guard }], guard := some (8, true) } : Oper)) (v := undef) rfl (by kernel_rfl) (by kernel_rfl) (by kernel_rfl) (fun _ _ _ h => h) (Or.inr ⟨by rfl, rfl⟩) (by assumption) ?_
            try simp only [Act.put, List.setIfInBounds_toArray, List.set_cons_zero, List.set_cons_succ]
            refine wpAnyH_take (i := 13) (oi := ({ dst := some 113, op := Go.Op.unOp Go.UnOp.not 4 (Go.Operand.tmp 112), type := 4, pos := "ref.go:255", after := #[{ on := 12, ground := Go.Ground.data }, { on := 8, ground := Go.Ground.guard }], guard := some (8, true) } : Oper)) (v := undef) rfl (by kernel_rfl) (by kernel_rfl) (by kernel_rfl) (fun _ _ _ h => h) (Or.inr ⟨by rfl, rfl⟩) (by assumption) ?_
            try simp only [Act.put, List.setIfInBounds_toArray, List.set_cons_zero, List.set_cons_succ]
            refine wpAnyH_take (i := 14) (oi := ({ dst := some 114, op := Go.Op.pick (Go.Operand.tmp 108) (Go.Operand.tmp 113) (Go.Operand.const (Go.Value.bool false)), type := 4, pos := "ref.go:255", after := #[{ on := 8, ground := Go.Ground.data }, { on := 13, ground := Go.Ground.data }], guard := none } : Oper)) (v := ?_) rfl (by kernel_rfl) (by kernel_rfl) (by kernel_rfl) (fun _ _ _ h => h) (Or.inl ⟨by rfl, ?_⟩) (by assumption) ?_
            rotate_left 1
            · (intro w hSw; (try dsimp only at hSw); go_simp; (try with_reducible rfl))
            try simp only [Act.put, List.setIfInBounds_toArray, List.set_cons_zero, List.set_cons_succ]
            refine wpAnyH_ready (rs := [15]) (by kernel_rfl) (by simp) ?_
            refine AllReadyH.cons (o := ({ dst := some 115, op := Go.Op.call { callee := Go.Callee.value (Go.Operand.func 52), args := #[Go.Operand.tmp 100, Go.Operand.tmp 101, Go.Operand.const (Go.Value.int Go.IntKind.i64 3), Go.Operand.tmp 114], argTypes := #[85, 3, 3, 4] }, type := 0, pos := "ref.go:255", after := #[{ on := 0, ground := Go.Ground.data }, { on := 1, ground := Go.Ground.data }, { on := 14, ground := Go.Ground.data }, { on := 8, ground := Go.Ground.chain }], guard := none } : Oper)) rfl (fun K hK => ?_) AllReadyH.nil
            go_simp
            go_at_call 52
            refine (HN.out w4.drew _ 3 false (HG4.out.of rfl)).mono ?_
            rintro e3 w5 ⟨⟨x3, rfl⟩, hG3, hC3⟩
            have HG5 := hide hG3
            have HC5 : Hid (Ch (fun j => j = g) wr w5) := HC4.out.drew.trans hC3
            clear hG3 hC3
            go_wp2_with (fail)
            refine hK.out _ _ ?_ (fun hHeld => ?_)
            · exact HK.out _ HC5.out
            clear hK K
            try simp only [Act.put, List.setIfInBounds_toArray, List.set_cons_zero, List.set_cons_succ]
            refine wpAnyH_done (by kernel_rfl) ?_ _
            have HEnd := hide (HFin.out w5 _ HC5.out HG5.out)
            have HRn1 := hide (HRn.out h false (by rw [h1]; simp) (by rw [h0]; simp))
            clear HFin HRn HC0 HC3 HC4 HC5 HG0 HG3 HG4 HG5 HK HN
            go_wp2
            all_goals exact ⟨⟨k + 1, _, cc, by go_num, HRn1, HEnd.out.1, HEnd.out.2⟩, by simp [intOf]; omega⟩
          | false =>
            cases h0 : (S k 0 == 0) with
            | true =>
              go_wp2_with (fail)
              go_region_held3 (S16 fb g N (ax.add (k * 8)) (S k 0) k h) ((first | with_reducible exact HK.out _ (Ch.drew HC0.out) | with_reducible exact HK.out _ HC3.out)) ((first | (go_at_call 52; refine (HN.out wr.drew _ 1 (decide (1 < S k 0)) (HG0.out.of rfl)).mono ?_; rintro e3 w3 ⟨⟨x3, rfl⟩, hG3, hC3⟩; have HG3 := hide hG3; have HC3 : Hid (Ch (fun j => j = g) wr w3) := HC0.out.drew.trans hC3; clear hG3 hC3)))
              go_wp2_with (fail)
              refine wp_region_held_drew (S := (S16 fb g N (ax.add (k * 8)) (S k 0) k h)) (by kernel_rfl) ?_ (fun hHeld => ?_)
              · exact HK.out _ (Ch.drew HC3.out)
              refine wpAnyH_take (i := 0) (oi := ({ dst := some 85, op := Go.Op.load 85 (Go.Operand.tmp 7), type := 85, pos := "ref.go:254", after := #[], guard := none } : Oper)) (v := ?_) rfl (by kernel_rfl) (by kernel_rfl) (by kernel_rfl) (fun _ _ _ h => h) (Or.inl ⟨by rfl, ?_⟩) (by assumption) ?_
              rotate_left 1
              · (intro w hSw; (try dsimp only at hSw); go_simp; (try with_reducible rfl))
              try simp only [Act.put, List.setIfInBounds_toArray, List.set_cons_zero, List.set_cons_succ]
              refine wpAnyH_take (i := 1) (oi := ({ dst := some 86, op := Go.Op.move (Go.Operand.tmp 12), type := 3, pos := "ref.go:254", after := #[], guard := none } : Oper)) (v := ?_) rfl (by kernel_rfl) (by kernel_rfl) (by kernel_rfl) (fun _ _ _ h => h) (Or.inl ⟨by rfl, ?_⟩) (by assumption) ?_
              rotate_left 1
              · (intro w hSw; (try dsimp only at hSw); go_simp; (try with_reducible rfl))
              try simp only [Act.put, List.setIfInBounds_toArray, List.set_cons_zero, List.set_cons_succ]
              refine wpAnyH_take (i := 2) (oi := ({ dst := some 87, op := Go.Op.move (Go.Operand.tmp 2), type := 23, pos := "ref.go:254", after := #[], guard := none } : Oper)) (v := ?_) rfl (by kernel_rfl) (by kernel_rfl) (by kernel_rfl) (fun _ _ _ h => h) (Or.inl ⟨by rfl, ?_⟩) (by assumption) ?_
              rotate_left 1
              · (intro w hSw; (try dsimp only at hSw); go_simp; (try with_reducible rfl))
              try simp only [Act.put, List.setIfInBounds_toArray, List.set_cons_zero, List.set_cons_succ]
              refine wpAnyH_take (i := 3) (oi := ({ dst := some 88, op := Go.Op.move (Go.Operand.tmp 12), type := 3, pos := "ref.go:254", after := #[], guard := none } : Oper)) (v := ?_) rfl (by kernel_rfl) (by kernel_rfl) (by kernel_rfl) (fun _ _ _ h => h) (Or.inl ⟨by rfl, ?_⟩) (by assumption) ?_
              rotate_left 1
              · (intro w hSw; (try dsimp only at hSw); go_simp; (try with_reducible rfl))
              try simp only [Act.put, List.setIfInBounds_toArray, List.set_cons_zero, List.set_cons_succ]
              refine wpAnyH_take (i := 4) (oi := ({ dst := some 89, op := Go.Op.indexAddr 23 (Go.Operand.tmp 87) (Go.Operand.tmp 88), type := 0, pos := "ref.go:254", after := #[{ on := 2, ground := Go.Ground.data }, { on := 3, ground := Go.Ground.data }], guard := none } : Oper)) (v := ?_) rfl (by kernel_rfl) (by kernel_rfl) (by kernel_rfl) (fun _ _ _ h => h) (Or.inl ⟨by rfl, ?_⟩) (by assumption) ?_
              rotate_left 1
              · (intro w hSw; (try dsimp only at hSw); go_simp; (try with_reducible rfl))
              try simp only [Act.put, List.setIfInBounds_toArray, List.set_cons_zero, List.set_cons_succ]
              refine wpAnyH_take (i := 5) (oi := ({ dst := some 90, op := Go.Op.indexAddr 63 (Go.Operand.tmp 89) (Go.Operand.const (Go.Value.int Go.IntKind.i64 0)), type := 0, pos := "ref.go:254", after := #[{ on := 4, ground := Go.Ground.data }], guard := none } : Oper)) (v := ?_) rfl (by kernel_rfl) (by kernel_rfl) (by kernel_rfl) (fun _ _ _ h => h) (Or.inl ⟨by rfl, ?_⟩) (by assumption) ?_
              rotate_left 1
              · (intro w hSw; (try dsimp only at hSw); go_simp; (try with_reducible rfl))
              try simp only [Act.put, List.setIfInBounds_toArray, List.set_cons_zero, List.set_cons_succ]
              refine wpAnyH_take (i := 6) (oi := ({ dst := some 91, op := Go.Op.load 28 (Go.Operand.tmp 90), type := 28, pos := "ref.go:254", after := #[{ on := 5, ground := Go.Ground.data }], guard := none } : Oper)) (v := ?_) rfl (by kernel_rfl) (by kernel_rfl) (by kernel_rfl) (fun _ _ _ h => h) (Or.inl ⟨by rfl, ?_⟩) (by assumption) ?_
              rotate_left 1
              · (intro w hSw; (try dsimp only at hSw); go_simp; (try with_reducible rfl))
              try simp only [Act.put, List.setIfInBounds_toArray, List.set_cons_zero, List.set_cons_succ]
              refine wpAnyH_take (i := 7) (oi := ({ dst := some 92, op := Go.Op.binOp Go.BinOp.eql 28 (Go.Operand.tmp 91) (Go.Operand.const (Go.Value.int Go.IntKind.u64 1)) 28, type := 4, pos := "ref.go:254", after := #[{ on := 6, ground := Go.Ground.data }], guard := none } : Oper)) (v := ?_) rfl (by kernel_rfl) (by kernel_rfl) (by kernel_rfl) (fun _ _ _ h => h) (Or.inl ⟨by rfl, ?_⟩) (by assumption) ?_
              rotate_left 1
              · (intro w hSw; (try dsimp only at hSw); go_simp; (try with_reducible rfl))
              try simp only [Act.put, List.setIfInBounds_toArray, List.set_cons_zero, List.set_cons_succ]
              refine wpAnyH_take (i := 8) (oi := ({ dst := some 93, op := Go.Op.move (Go.Operand.tmp 92), type := 4, pos := "ref.go:254", after := #[{ on := 7, ground := Go.Ground.data }], guard := none } : Oper)) (v := ?_) rfl (by kernel_rfl) (by kernel_rfl) (by kernel_rfl) (fun _ _ _ h => h) (Or.inl ⟨by rfl, ?_⟩) (by assumption) ?_
              rotate_left 1
              · (intro w hSw; (try dsimp only at hSw); go_simp; (try with_reducible rfl))
              try simp only [Act.put, List.setIfInBounds_toArray, List.set_cons_zero, List.set_cons_succ]
              refine wpAnyH_take (i := 9) (oi := ({ dst := some 94, op := Go.Op.move (Go.Operand.tmp 8), type := 92, pos := "ref.go:254", after := #[{ on := 8, ground := Go.Ground.guard }], guard := some (8, true) } : Oper)) (v := undef) rfl (by kernel_rfl) (by kernel_rfl) (by kernel_rfl) (fun _ _ _ h => h) (Or.inr ⟨by rfl, rfl⟩) (by assumption) ?_
              try simp only [Act.put, List.setIfInBounds_toArray, List.set_cons_zero, List.set_cons_succ]
              refine wpAnyH_take (i := 10) (oi := ({ dst := some 95, op := Go.Op.move (Go.Operand.tmp 12), type := 3, pos := "ref.go:254", after := #[{ on := 8, ground := Go.Ground.guard }], guard := some (8, true) } : Oper)) (v := undef) rfl (by kernel_rfl) (by kernel_rfl) (by kernel_rfl) (fun _ _ _ h => h) (Or.inr ⟨by rfl, rfl⟩) (by assumption) ?_
              try simp only [Act.put, List.setIfInBounds_toArray, List.set_cons_zero, List.set_cons_succ]
              refine wpAnyH_take (i := 11) (oi := ({ dst := some 96, op := Go.Op.indexAddr 92 (Go.Operand.tmp 94) (Go.Operand.tmp 95), type := 0, pos := "ref.go:254", after := #[{ on := 9, ground := Go.Ground.data }, { on := 10, ground := Go.Ground.data }, { on := 8, ground := Go.Ground.guard }], guard := some (8, true) } : Oper)) (v := undef) rfl (by kernel_rfl) (by kernel_rfl) (by kernel_rfl) (fun _ _ _ h => h) (Or.inr ⟨by rfl, rfl⟩) (by assumption) ?_
              try simp only [Act.put, List.setIfInBounds_toArray, List.set_cons_zero, List.set_cons_succ]
              refine wpAnyH_take (i := 12) (oi := ({ dst := some 97, op := Go.Op.load 4 (Go.Operand.tmp 96), type := 4, pos := "ref.go:254", after := #[{ on := 11, ground := Go.Ground.data }, { on := 8, ground := Go.Ground.guard }], guard := some (8, true) } : Oper)) (v := undef) rfl (by kernel_rfl) (by kernel_rfl) (by kernel_rfl) (fun _ _ _ h => h) (Or.inr ⟨by rfl, rfl⟩) (by assumption) ?_
              try simp only [Act.put, List.setIfInBounds_toArray, List.set_cons_zero, List.set_cons_succ]
              refine wpAnyH_take (i := 13) (oi := ({ dst := some 98, op := Go.Op.pick (Go.Operand.tmp 93) (Go.Operand.tmp 97) (Go.Operand.const (Go.Value.bool false)), type := 4, pos := "ref.go:254", after := #[{ on := 8, ground := Go.Ground.data }, { on := 12, ground := Go.Ground.data }], guard := none } : Oper)) (v := ?_) rfl (by kernel_rfl) (by kernel_rfl) (by kernel_rfl) (fun _ _ _ h => h) (Or.inl ⟨by rfl, ?_⟩) (by assumption) ?_
              rotate_left 1
              · (intro w hSw; (try dsimp only at hSw); go_simp; (try with_reducible rfl))
              try simp only [Act.put, List.setIfInBounds_toArray, List.set_cons_zero, List.set_cons_succ]
              refine wpAnyH_ready (rs := [14]) (by kernel_rfl) (by simp) ?_
              refine AllReadyH.cons (o := ({ dst := some 99, op := Go.Op.call { callee := Go.Callee.value (Go.Operand.func 52), args := #[Go.Operand.tmp 85, Go.Operand.tmp 86, Go.Operand.const (Go.Value.int Go.IntKind.i64 2), Go.Operand.tmp 98], argTypes := #[85, 3, 3, 4] }, type := 0, pos := "ref.go:254", after := #[{ on := 0, ground := Go.Ground.data }, { on := 1, ground := Go.Ground.data }, { on := 13, ground := Go.Ground.data }, { on := 8, ground := Go.Ground.chain }], guard := none } : Oper)) rfl (fun K hK => ?_) AllReadyH.nil
              go_simp
              go_at_call 52
              refine (HN.out w3.drew _ 2 false (HG3.out.of rfl)).mono ?_
              rintro e3 w4 ⟨⟨x3, rfl⟩, hG3, hC3⟩
              have HG4 := hide hG3
              have HC4 : Hid (Ch (fun j => j = g) wr w4) := HC3.out.drew.trans hC3
              clear hG3 hC3
              go_wp2_with (fail)
              refine hK.out _ _ ?_ (fun hHeld => ?_)
              · exact HK.out _ HC4.out
              clear hK K
              try simp only [Act.put, List.setIfInBounds_toArray, List.set_cons_zero, List.set_cons_succ]
              refine wpAnyH_done (by kernel_rfl) ?_ _
              go_wp2_with (fail)
              go_region_held3 (S16 fb g N (ax.add (k * 8)) (S k 0) k h) ((first | with_reducible exact HK.out _ (Ch.drew HC4.out) | with_reducible exact HK.out _ HC5.out)) ((first | (go_at_call 52; refine (HN.out w4.drew _ 3 (!h) (HG4.out.of rfl)).mono ?_; rintro e3 w5 ⟨⟨x3, rfl⟩, hG3, hC3⟩; have HG5 := hide hG3; have HC5 : Hid (Ch (fun j => j = g) wr w5) := HC4.out.drew.trans hC3; clear hG3 hC3)))
              have HEnd := hide (HFin.out w5 _ HC5.out HG5.out)
              have HRn1 := hide (HRn.out false (!h) (by rw [h1]; simp) (by rw [h0]; simp))
              clear HFin HRn HC0 HC3 HC4 HC5 HG0 HG3 HG4 HG5 HK HN
              go_wp2
              all_goals exact ⟨⟨k + 1, _, cc, by go_num, HRn1, HEnd.out.1, HEnd.out.2⟩, by simp [intOf]; omega⟩
            | false =>
              go_wp2_with (fail)
              go_region_held3 (S16 fb g N (ax.add (k * 8)) (S k 0) k h) ((first | with_reducible exact HK.out _ (Ch.drew HC0.out) | with_reducible exact HK.out _ HC3.out)) ((first | (go_at_call 52; refine (HN.out wr.drew _ 1 (decide (1 < S k 0)) (HG0.out.of rfl)).mono ?_; rintro e3 w3 ⟨⟨x3, rfl⟩, hG3, hC3⟩; have HG3 := hide hG3; have HC3 : Hid (Ch (fun j => j = g) wr w3) := HC0.out.drew.trans hC3; clear hG3 hC3)))
              go_wp2_with (fail)
              refine wp_region_held_drew (S := (S16 fb g N (ax.add (k * 8)) (S k 0) k h)) (by kernel_rfl) ?_ (fun hHeld => ?_)
              · exact HK.out _ (Ch.drew HC3.out)
              refine wpAnyH_take (i := 0) (oi := ({ dst := some 85, op := Go.Op.load 85 (Go.Operand.tmp 7), type := 85, pos := "ref.go:254", after := #[], guard := none } : Oper)) (v := ?_) rfl (by kernel_rfl) (by kernel_rfl) (by kernel_rfl) (fun _ _ _ h => h) (Or.inl ⟨by rfl, ?_⟩) (by assumption) ?_
              rotate_left 1
              · (intro w hSw; (try dsimp only at hSw); go_simp; (try with_reducible rfl))
              try simp only [Act.put, List.setIfInBounds_toArray, List.set_cons_zero, List.set_cons_succ]
              refine wpAnyH_take (i := 1) (oi := ({ dst := some 86, op := Go.Op.move (Go.Operand.tmp 12), type := 3, pos := "ref.go:254", after := #[], guard := none } : Oper)) (v := ?_) rfl (by kernel_rfl) (by kernel_rfl) (by kernel_rfl) (fun _ _ _ h => h) (Or.inl ⟨by rfl, ?_⟩) (by assumption) ?_
              rotate_left 1
              · (intro w hSw; (try dsimp only at hSw); go_simp; (try with_reducible rfl))
              try simp only [Act.put, List.setIfInBounds_toArray, List.set_cons_zero, List.set_cons_succ]
              refine wpAnyH_take (i := 2) (oi := ({ dst := some 87, op := Go.Op.move (Go.Operand.tmp 2), type := 23, pos := "ref.go:254", after := #[], guard := none } : Oper)) (v := ?_) rfl (by kernel_rfl) (by kernel_rfl) (by kernel_rfl) (fun _ _ _ h => h) (Or.inl ⟨by rfl, ?_⟩) (by assumption) ?_
              rotate_left 1
              · (intro w hSw; (try dsimp only at hSw); go_simp; (try with_reducible rfl))
              try simp only [Act.put, List.setIfInBounds_toArray, List.set_cons_zero, List.set_cons_succ]
              refine wpAnyH_take (i := 3) (oi := ({ dst := some 88, op := Go.Op.move (Go.Operand.tmp 12), type := 3, pos := "ref.go:254", after := #[], guard := none } : Oper)) (v := ?_) rfl (by kernel_rfl) (by kernel_rfl) (by kernel_rfl) (fun _ _ _ h => h) (Or.inl ⟨by rfl, ?_⟩) (by assumption) ?_
              rotate_left 1
              · (intro w hSw; (try dsimp only at hSw); go_simp; (try with_reducible rfl))
              try simp only [Act.put, List.setIfInBounds_toArray, List.set_cons_zero, List.set_cons_succ]
              refine wpAnyH_take (i := 4) (oi := ({ dst := some 89, op := Go.Op.indexAddr 23 (Go.Operand.tmp 87) (Go.Operand.tmp 88), type := 0, pos := "ref.go:254", after := #[{ on := 2, ground := Go.Ground.data }, { on := 3, ground := Go.Ground.data }], guard := none } : Oper)) (v := ?_) rfl (by kernel_rfl) (by kernel_rfl) (by kernel_rfl) (fun _ _ _ h => h) (Or.inl ⟨by rfl, ?_⟩) (by assumption) ?_
              rotate_left 1
              · (intro w hSw; (try dsimp only at hSw); go_simp; (try with_reducible rfl))
              try simp only [Act.put, List.setIfInBounds_toArray, List.set_cons_zero, List.set_cons_succ]
              refine wpAnyH_take (i := 5) (oi := ({ dst := some 90, op := Go.Op.indexAddr 63 (Go.Operand.tmp 89) (Go.Operand.const (Go.Value.int Go.IntKind.i64 0)), type := 0, pos := "ref.go:254", after := #[{ on := 4, ground := Go.Ground.data }], guard := none } : Oper)) (v := ?_) rfl (by kernel_rfl) (by kernel_rfl) (by kernel_rfl) (fun _ _ _ h => h) (Or.inl ⟨by rfl, ?_⟩) (by assumption) ?_
              rotate_left 1
              · (intro w hSw; (try dsimp only at hSw); go_simp; (try with_reducible rfl))
              try simp only [Act.put, List.setIfInBounds_toArray, List.set_cons_zero, List.set_cons_succ]
              refine wpAnyH_take (i := 6) (oi := ({ dst := some 91, op := Go.Op.load 28 (Go.Operand.tmp 90), type := 28, pos := "ref.go:254", after := #[{ on := 5, ground := Go.Ground.data }], guard := none } : Oper)) (v := ?_) rfl (by kernel_rfl) (by kernel_rfl) (by kernel_rfl) (fun _ _ _ h => h) (Or.inl ⟨by rfl, ?_⟩) (by assumption) ?_
              rotate_left 1
              · (intro w hSw; (try dsimp only at hSw); go_simp; (try with_reducible rfl))
              try simp only [Act.put, List.setIfInBounds_toArray, List.set_cons_zero, List.set_cons_succ]
              refine wpAnyH_take (i := 7) (oi := ({ dst := some 92, op := Go.Op.binOp Go.BinOp.eql 28 (Go.Operand.tmp 91) (Go.Operand.const (Go.Value.int Go.IntKind.u64 1)) 28, type := 4, pos := "ref.go:254", after := #[{ on := 6, ground := Go.Ground.data }], guard := none } : Oper)) (v := ?_) rfl (by kernel_rfl) (by kernel_rfl) (by kernel_rfl) (fun _ _ _ h => h) (Or.inl ⟨by rfl, ?_⟩) (by assumption) ?_
              rotate_left 1
              · (intro w hSw; (try dsimp only at hSw); go_simp; (try with_reducible rfl))
              try simp only [Act.put, List.setIfInBounds_toArray, List.set_cons_zero, List.set_cons_succ]
              refine wpAnyH_take (i := 8) (oi := ({ dst := some 93, op := Go.Op.move (Go.Operand.tmp 92), type := 4, pos := "ref.go:254", after := #[{ on := 7, ground := Go.Ground.data }], guard := none } : Oper)) (v := ?_) rfl (by kernel_rfl) (by kernel_rfl) (by kernel_rfl) (fun _ _ _ h => h) (Or.inl ⟨by rfl, ?_⟩) (by assumption) ?_
              rotate_left 1
              · (intro w hSw; (try dsimp only at hSw); go_simp; (try with_reducible rfl))
              try simp only [Act.put, List.setIfInBounds_toArray, List.set_cons_zero, List.set_cons_succ]
              refine wpAnyH_take (i := 9) (oi := ({ dst := some 94, op := Go.Op.move (Go.Operand.tmp 8), type := 92, pos := "ref.go:254", after := #[{ on := 8, ground := Go.Ground.guard }], guard := some (8, true) } : Oper)) (v := undef) rfl (by kernel_rfl) (by kernel_rfl) (by kernel_rfl) (fun _ _ _ h => h) (Or.inr ⟨by rfl, rfl⟩) (by assumption) ?_
              try simp only [Act.put, List.setIfInBounds_toArray, List.set_cons_zero, List.set_cons_succ]
              refine wpAnyH_take (i := 10) (oi := ({ dst := some 95, op := Go.Op.move (Go.Operand.tmp 12), type := 3, pos := "ref.go:254", after := #[{ on := 8, ground := Go.Ground.guard }], guard := some (8, true) } : Oper)) (v := undef) rfl (by kernel_rfl) (by kernel_rfl) (by kernel_rfl) (fun _ _ _ h => h) (Or.inr ⟨by rfl, rfl⟩) (by assumption) ?_
              try simp only [Act.put, List.setIfInBounds_toArray, List.set_cons_zero, List.set_cons_succ]
              refine wpAnyH_take (i := 11) (oi := ({ dst := some 96, op := Go.Op.indexAddr 92 (Go.Operand.tmp 94) (Go.Operand.tmp 95), type := 0, pos := "ref.go:254", after := #[{ on := 9, ground := Go.Ground.data }, { on := 10, ground := Go.Ground.data }, { on := 8, ground := Go.Ground.guard }], guard := some (8, true) } : Oper)) (v := undef) rfl (by kernel_rfl) (by kernel_rfl) (by kernel_rfl) (fun _ _ _ h => h) (Or.inr ⟨by rfl, rfl⟩) (by assumption) ?_
              try simp only [Act.put, List.setIfInBounds_toArray, List.set_cons_zero, List.set_cons_succ]
              refine wpAnyH_take (i := 12) (oi := ({ dst := some 97, op := Go.Op.load 4 (Go.Operand.tmp 96), type := 4, pos := "ref.go:254", after := #[{ on := 11, ground := Go.Ground.data }, { on := 8, ground := Go.Ground.guard }], guard := some (8, true) } : Oper)) (v := undef) rfl (by kernel_rfl) (by kernel_rfl) (by kernel_rfl) (fun _ _ _ h => h) (Or.inr ⟨by rfl, rfl⟩) (by assumption) ?_
              try simp only [Act.put, List.setIfInBounds_toArray, List.set_cons_zero, List.set_cons_succ]
              refine wpAnyH_take (i := 13) (oi := ({ dst := some 98, op := Go.Op.pick (Go.Operand.tmp 93) (Go.Operand.tmp 97) (Go.Operand.const (Go.Value.bool false)), type := 4, pos := "ref.go:254", after := #[{ on := 8, ground := Go.Ground.data }, { on := 12, ground := Go.Ground.data }], guard := none } : Oper)) (v := ?_) rfl (by kernel_rfl) (by kernel_rfl) (by kernel_rfl) (fun _ _ _ h => h) (Or.inl ⟨by rfl, ?_⟩) (by assumption) ?_
              rotate_left 1
              · (intro w hSw; (try dsimp only at hSw); go_simp; (try with_reducible rfl))
              try simp only [Act.put, List.setIfInBounds_toArray, List.set_cons_zero, List.set_cons_succ]
              refine wpAnyH_ready (rs := [14]) (by kernel_rfl) (by simp) ?_
              refine AllReadyH.cons (o := ({ dst := some 99, op := Go.Op.call { callee := Go.Callee.value (Go.Operand.func 52), args := #[Go.Operand.tmp 85, Go.Operand.tmp 86, Go.Operand.const (Go.Value.int Go.IntKind.i64 2), Go.Operand.tmp 98], argTypes := #[85, 3, 3, 4] }, type := 0, pos := "ref.go:254", after := #[{ on := 0, ground := Go.Ground.data }, { on := 1, ground := Go.Ground.data }, { on := 13, ground := Go.Ground.data }, { on := 8, ground := Go.Ground.chain }], guard := none } : Oper)) rfl (fun K hK => ?_) AllReadyH.nil
              go_simp
              go_at_call 52
              refine (HN.out w3.drew _ 2 false (HG3.out.of rfl)).mono ?_
              rintro e3 w4 ⟨⟨x3, rfl⟩, hG3, hC3⟩
              have HG4 := hide hG3
              have HC4 : Hid (Ch (fun j => j = g) wr w4) := HC3.out.drew.trans hC3
              clear hG3 hC3
              go_wp2_with (fail)
              refine hK.out _ _ ?_ (fun hHeld => ?_)
              · exact HK.out _ HC4.out
              clear hK K
              try simp only [Act.put, List.setIfInBounds_toArray, List.set_cons_zero, List.set_cons_succ]
              refine wpAnyH_done (by kernel_rfl) ?_ _
              go_wp2_with (fail)
              refine wp_region_held_drew (S := (S16 fb g N (ax.add (k * 8)) (S k 0) k h)) (by kernel_rfl) ?_ (fun hHeld => ?_)
              · exact HK.out _ (Ch.drew HC4.out)
              refine wpAnyH_take (i := 0) (oi := ({ dst := some 100, op := Go.Op.load 85 (Go.Operand.tmp 7), type := 85, pos := "ref.go:255", after := #[], guard := none } : Oper)) (v := ?_) rfl (by kernel_rfl) (by kernel_rfl) (by kernel_rfl) (fun _ _ _ h => h) (Or.inl ⟨by rfl, ?_⟩) (by assumption) ?_
              rotate_left 1
              · (intro w hSw; (try dsimp only at hSw); go_simp; (try with_reducible rfl))
              try simp only [Act.put, List.setIfInBounds_toArray, List.set_cons_zero, List.set_cons_succ]
              refine wpAnyH_take (i := 1) (oi := ({ dst := some 101, op := Go.Op.move (Go.Operand.tmp 12), type := 3, pos := "ref.go:255", after := #[], guard := none } : Oper)) (v := ?_) rfl (by kernel_rfl) (by kernel_rfl) (by kernel_rfl) (fun _ _ _ h => h) (Or.inl ⟨by rfl, ?_⟩) (by assumption) ?_
              rotate_left 1
              · (intro w hSw; (try dsimp only at hSw); go_simp; (try with_reducible rfl))
              try simp only [Act.put, List.setIfInBounds_toArray, List.set_cons_zero, List.set_cons_succ]
              refine wpAnyH_take (i := 2) (oi := ({ dst := some 102, op := Go.Op.move (Go.Operand.tmp 2), type := 23, pos := "ref.go:255", after := #[], guard := none } : Oper)) (v := ?_) rfl (by kernel_rfl) (by kernel_rfl) (by kernel_rfl) (fun _ _ _ h => h) (Or.inl ⟨by rfl, ?_⟩) (by assumption) ?_
              rotate_left 1
              · (intro w hSw; (try dsimp only at hSw); go_simp; (try with_reducible rfl))
              try simp only [Act.put, List.setIfInBounds_toArray, List.set_cons_zero, List.set_cons_succ]
              refine wpAnyH_take (i := 3) (oi := ({ dst := some 103, op := Go.Op.move (Go.Operand.tmp 12), type := 3, pos := "ref.go:255", after := #[], guard := none } : Oper)) (v := ?_) rfl (by kernel_rfl) (by kernel_rfl) (by kernel_rfl) (fun _ _ _ h => h) (Or.inl ⟨by rfl, ?_⟩) (by assumption) ?_
              rotate_left 1
              · (intro w hSw; (try dsimp only at hSw); go_simp; (try with_reducible rfl))
              try simp only [Act.put, List.setIfInBounds_toArray, List.set_cons_zero, List.set_cons_succ]
              refine wpAnyH_take (i := 4) (oi := ({ dst := some 104, op := Go.Op.indexAddr 23 (Go.Operand.tmp 102) (Go.Operand.tmp 103), type := 0, pos := "ref.go:255", after := #[{ on := 2, ground := Go.Ground.data }, { on := 3, ground := Go.Ground.data }], guard := none } : Oper)) (v := ?_) rfl (by kernel_rfl) (by kernel_rfl) (by kernel_rfl) (fun _ _ _ h => h) (Or.inl ⟨by rfl, ?_⟩) (by assumption) ?_
              rotate_left 1
              · (intro w hSw; (try dsimp only at hSw); go_simp; (try with_reducible rfl))
              try simp only [Act.put, List.setIfInBounds_toArray, List.set_cons_zero, List.set_cons_succ]
              refine wpAnyH_take (i := 5) (oi := ({ dst := some 105, op := Go.Op.indexAddr 63 (Go.Operand.tmp 104) (Go.Operand.const (Go.Value.int Go.IntKind.i64 0)), type := 0, pos := "ref.go:255", after := #[{ on := 4, ground := Go.Ground.data }], guard := none } : Oper)) (v := ?_) rfl (by kernel_rfl) (by kernel_rfl) (by kernel_rfl) (fun _ _ _ h => h) (Or.inl ⟨by rfl, ?_⟩) (by assumption) ?_
              rotate_left 1
              · (intro w hSw; (try dsimp only at hSw); go_simp; (try with_reducible rfl))
              try simp only [Act.put, List.setIfInBounds_toArray, List.set_cons_zero, List.set_cons_succ]
              refine wpAnyH_take (i := 6) (oi := ({ dst := some 106, op := Go.Op.load 28 (Go.Operand.tmp 105), type := 28, pos := "ref.go:255", after := #[{ on := 5, ground := Go.Ground.data }], guard := none } : Oper)) (v := ?_) rfl (by kernel_rfl) (by kernel_rfl) (by kernel_rfl) (fun _ _ _ h => h) (Or.inl ⟨by rfl, ?_⟩) (by assumption) ?_
              rotate_left 1
              · (intro w hSw; (try dsimp only at hSw); go_simp; (try with_reducible rfl))
              try simp only [Act.put, List.setIfInBounds_toArray, List.set_cons_zero, List.set_cons_succ]
              refine wpAnyH_take (i := 7) (oi := ({ dst := some 107, op := Go.Op.binOp Go.BinOp.eql 28 (Go.Operand.tmp 106) (Go.Operand.const (Go.Value.int Go.IntKind.u64 0)) 28, type := 4, pos := "ref.go:255", after := #[{ on := 6, ground := Go.Ground.data }], guard := none } : Oper)) (v := ?_) rfl (by kernel_rfl) (by kernel_rfl) (by kernel_rfl) (fun _ _ _ h => h) (Or.inl ⟨by rfl, ?_⟩) (by assumption) ?_
              rotate_left 1
              · (intro w hSw; (try dsimp only at hSw); go_simp; (try with_reducible rfl))
              try simp only [Act.put, List.setIfInBounds_toArray, List.set_cons_zero, List.set_cons_succ]
              refine wpAnyH_take (i := 8) (oi := ({ dst := some 108, op := Go.Op.move (Go.Operand.tmp 107), type := 4, pos := "ref.go:255", after := #[{ on := 7, ground := Go.Ground.data }], guard := none } : Oper)) (v := ?_) rfl (by kernel_rfl) (by kernel_rfl) (by kernel_rfl) (fun _ _ _ h => h) (Or.inl ⟨by rfl, ?_⟩) (by assumption) ?_
              rotate_left 1
              · (intro w hSw; (try dsimp only at hSw); go_simp; (try with_reducible rfl))
              try simp only [Act.put, List.setIfInBounds_toArray, List.set_cons_zero, List.set_cons_succ]
              refine wpAnyH_take (i := 9) (oi := ({ dst := some 109, op := Go.Op.move (Go.Operand.tmp 8), type := 92, pos := "ref.go:255", after := #[{ on := 8, ground := Go.Ground.guard }], guard := some (8, true) } : Oper)) (v := undef) rfl (by kernel_rfl) (by kernel_rfl) (by kernel_rfl) (fun _ _ _ h => h) (Or.inr ⟨by rfl, rfl⟩) (by assumption) ?_
              try simp only [Act.put, List.setIfInBounds_toArray, List.set_cons_zero, List.set_cons_succ]
              refine wpAnyH_take (i := 10) (oi := ({ dst := some 110, op := Go.Op.move (Go.Operand.tmp 12), type := 3, pos := "ref.go:255", after := #[{ on := 8, ground := Go.Ground.guard }], guard := some (8, true) } : Oper)) (v := undef) rfl (by kernel_rfl) (by kernel_rfl) (by kernel_rfl) (fun _ _ _ h => h) (Or.inr ⟨by rfl, rfl⟩) (by assumption) ?_
              try simp only [Act.put, List.setIfInBounds_toArray, List.set_cons_zero, List.set_cons_succ]
              refine wpAnyH_take (i := 11) (oi := ({ dst := some 111, op := Go.Op.indexAddr 92 (Go.Operand.tmp 109) (Go.Operand.tmp 110), type := 0, pos := "ref.go:255", after := #[{ on := 9, ground := Go.Ground.data }, { on := 10, ground := Go.Ground.data }, { on := 8, ground := Go.Ground.guard }], guard := some (8, true) } : Oper)) (v := undef) rfl (by kernel_rfl) (by kernel_rfl) (by kernel_rfl) (fun _ _ _ h => h) (Or.inr ⟨by rfl, rfl⟩) (by assumption) ?_
              try simp only [Act.put, List.setIfInBounds_toArray, List.set_cons_zero, List.set_cons_succ]
              refine wpAnyH_take (i := 12) (oi := ({ dst := some 112, op := Go.Op.load 4 (Go.Operand.tmp 111), type := 4, pos := "ref.go:255", after := #[{ on := 11, ground := Go.Ground.data }, { on := 8, ground := Go.Ground.guard }], guard := some (8, true) } : Oper)) (v := undef) rfl (by kernel_rfl) (by kernel_rfl) (by kernel_rfl) (fun _ _ _ h => h) (Or.inr ⟨by rfl, rfl⟩) (by assumption) ?_
              try simp only [Act.put, List.setIfInBounds_toArray, List.set_cons_zero, List.set_cons_succ]
              refine wpAnyH_take (i := 13) (oi := ({ dst := some 113, op := Go.Op.unOp Go.UnOp.not 4 (Go.Operand.tmp 112), type := 4, pos := "ref.go:255", after := #[{ on := 12, ground := Go.Ground.data }, { on := 8, ground := Go.Ground.guard }], guard := some (8, true) } : Oper)) (v := undef) rfl (by kernel_rfl) (by kernel_rfl) (by kernel_rfl) (fun _ _ _ h => h) (Or.inr ⟨by rfl, rfl⟩) (by assumption) ?_
              try simp only [Act.put, List.setIfInBounds_toArray, List.set_cons_zero, List.set_cons_succ]
              refine wpAnyH_take (i := 14) (oi := ({ dst := some 114, op := Go.Op.pick (Go.Operand.tmp 108) (Go.Operand.tmp 113) (Go.Operand.const (Go.Value.bool false)), type := 4, pos := "ref.go:255", after := #[{ on := 8, ground := Go.Ground.data }, { on := 13, ground := Go.Ground.data }], guard := none } : Oper)) (v := ?_) rfl (by kernel_rfl) (by kernel_rfl) (by kernel_rfl) (fun _ _ _ h => h) (Or.inl ⟨by rfl, ?_⟩) (by assumption) ?_
              rotate_left 1
              · (intro w hSw; (try dsimp only at hSw); go_simp; (try with_reducible rfl))
              try simp only [Act.put, List.setIfInBounds_toArray, List.set_cons_zero, List.set_cons_succ]
              refine wpAnyH_ready (rs := [15]) (by kernel_rfl) (by simp) ?_
              refine AllReadyH.cons (o := ({ dst := some 115, op := Go.Op.call { callee := Go.Callee.value (Go.Operand.func 52), args := #[Go.Operand.tmp 100, Go.Operand.tmp 101, Go.Operand.const (Go.Value.int Go.IntKind.i64 3), Go.Operand.tmp 114], argTypes := #[85, 3, 3, 4] }, type := 0, pos := "ref.go:255", after := #[{ on := 0, ground := Go.Ground.data }, { on := 1, ground := Go.Ground.data }, { on := 14, ground := Go.Ground.data }, { on := 8, ground := Go.Ground.chain }], guard := none } : Oper)) rfl (fun K hK => ?_) AllReadyH.nil
              go_simp
              go_at_call 52
              refine (HN.out w4.drew _ 3 false (HG4.out.of rfl)).mono ?_
              rintro e3 w5 ⟨⟨x3, rfl⟩, hG3, hC3⟩
              have HG5 := hide hG3
              have HC5 : Hid (Ch (fun j => j = g) wr w5) := HC4.out.drew.trans hC3
              clear hG3 hC3
              go_wp2_with (fail)
              refine hK.out _ _ ?_ (fun hHeld => ?_)
              · exact HK.out _ HC5.out
              clear hK K
              try simp only [Act.put, List.setIfInBounds_toArray, List.set_cons_zero, List.set_cons_succ]
              refine wpAnyH_done (by kernel_rfl) ?_ _
              have HEnd := hide (HFin.out w5 _ HC5.out HG5.out)
              have HRn1 := hide (HRn.out false false (by rw [h1]; simp) (by rw [h0]; simp))
              clear HFin HRn HC0 HC3 HC4 HC5 HG0 HG3 HG4 HG5 HK HN
              go_wp2
              all_goals exact ⟨⟨k + 1, _, cc, by go_num, HRn1, HEnd.out.1, HEnd.out.2⟩, by simp [intOf]; omega⟩
        · have hcc : ¬ (k : Int) < (N : Int) := by omega
          have hkn : N = k := by omega
          subst hkn
          obtain ⟨z1, z2, z3, z4, z5⟩ := HZ.out
          have HV := hide (verdict_any g N G _ hn (HR.out.ext (fun v r hv => ⟨fun h => h.2, fun h => ⟨hv, h⟩⟩)) (fun v r h => PI.lt h) wr z4)
          have cX := z3.cell
          have HZz := hide z2
          have HZb := hide z5
          clear z1 z2 z3 z4 z5 HR HH HZ
          go_wp2_with (fail)
          refine HV.out.mono ?_
          rintro e4 w4 ⟨o, rfl, hL, hB4⟩
          have hz4 : w4.heap[w.heap.size + 1]? = some (.cells z3 35 (0, 0)) := (hB4.block _ (lt_of_some HZz.out)).trans HZz.out
          have hbs := HZb.out.size
          obtain ⟨g0, g1, g2, f0, f1, f2⟩ := z35 hz4
          have HF : Hid (∀ a b c, (((w4.setCell ⟨w.heap.size + 1, 0, none⟩ a).setCell ⟨w.heap.size + 1, 1, none⟩ b).setCell ⟨w.heap.size + 1, 2, none⟩ c).heap[w.heap.size + 1]? = some (.cells #[a, b, c] 35 (0, 0)) ∧ Below w.heap.size w (((w4.setCell ⟨w.heap.size + 1, 0, none⟩ a).setCell ⟨w.heap.size + 1, 1, none⟩ b).setCell ⟨w.heap.size + 1, 2, none⟩ c)) := fun a b c => by
            rw [sets3 hz4 rfl]
            exact ⟨setRow_heap _ _ _ _ _ _ hz4, below_setRow (HZb.out.trans (hB4.mono hbs)) (by omega) _⟩
          have HL := hide hL
          clear hz4 hB4 hL HV HZz HZb cX
          go_wp2
          all_goals (refine bodyPost_ret (v := .agg #[.bool (vR o), .int .u32 (vV o), .int .i64 (vK o)]) ?_ rfl ?_)
          all_goals first | exact res25 _ _ _ _ _ _ rfl (HF.out _ _ _).1 | exact ⟨o, rfl, HL.out, (HF.out _ _ _).2⟩
end Au
end Go.Proofs.Ytcepfmeoeepjdaa
