import Derived.Test.YtcepfmeoeepjdaaAwG
namespace Go.Proofs.Ytcepfmeoeepjdaa
namespace Au
open Go.RowKit
set_option linter.unusedVariables false
set_option maxRecDepth 8000
/-- The colours of neighbours that come ahead, as bits; is one's own among them? -/
def twe (S : Nat → Nat → Int) (n A C v : Nat) (t : Int) (e : T3) : Int := match nb n A C e with | some p => if v = p.1 then bits .or .u64 t (sh (S p.2 0)) else t | none => t
def tw (S : Nat → Nat → Int) (n A C : Nat) (L : List T3) (v : Nat) : Int := L.foldl (twe S n A C v) 0
theorem tw_app (S : Nat → Nat → Int) (n A C : Nat) (L : List T3) (e : T3) (v : Nat) : tw S n A C (L ++ [e]) v = twe S n A C v (tw S n A C L v) e := by simp [tw]
def sme (S : Nat → Nat → Int) (n A C : Nat) (v : Nat) (e : T3) : Bool := match nb n A C e with | some p => v == p.1 && S p.1 0 == S p.2 0 | none => false
def sm (S : Nat → Nat → Int) (n A C : Nat) (L : List T3) (v : Nat) : Bool := L.any (sme S n A C v)
theorem sm_app (S : Nat → Nat → Int) (n A C : Nat) (L : List T3) (e : T3) (t : Nat) : sm S n A C (L ++ [e]) t = (sm S n A C L t || sme S n A C t e) := by simp [sm]
theorem enters69 (A : Array Value) (W : World) : (callFunc 69 A).run Try.prog W = .ok (.enter 69 A) W := enters_of Try.func69 (by kernel_rfl) rfl A W
theorem enters71 (A : Array Value) (W : World) : (callFunc 71 A).run Try.prog W = .ok (.enter 71 A) W := enters_of Try.func71 (by kernel_rfl) rfl A W
theorem enters72 (A : Array Value) (W : World) : (callFunc 72 A).run Try.prog W = .ok (.enter 72 A) W := enters_of Try.func72 (by kernel_rfl) rfl A W
theorem enters68 (A : Array Value) (W : World) : (callFunc 68 A).run Try.prog W = .ok (.enter 68 A) W := enters_of Try.func68 (by kernel_rfl) rfl A W
/-- A room of words. -/
def Rw (W : World) (rb n m : Nat) (T : Nat → Int) : Prop := ∃ U, GU W rb m U ∧ (∀ v, v < n → U v = T v) ∧ ∀ x, n ≤ x → x < m → U x = 99
theorem Rw.of {W W' : World} {rb n m : Nat} {T : Nat → Int} (h : Rw W rb n m T) (e : W'.heap[rb]? = W.heap[rb]?) : Rw W' rb n m T := by
  obtain ⟨U, a, b⟩ := h
  exact ⟨U, a.of e, b⟩
theorem Rw.lt {W : World} {rb n m : Nat} {T : Nat → Int} (h : Rw W rb n m T) : rb < W.heap.size := by
  obtain ⟨U, a, b⟩ := h
  exact a.lt
theorem Rw.ext {W : World} {rb n m : Nat} {T T' : Nat → Int} (h : Rw W rb n m T) (e : ∀ v, v < n → T v = T' v) : Rw W rb n m T' := by
  obtain ⟨U, a, b, c⟩ := h
  exact ⟨U, a, fun v hv => by rw [b v hv, e v hv], c⟩
def PC (S : Nat → Nat → Int) (n A C : Nat) (L : List T3) (T : Nat → Int) (v r : Nat) : Prop := (((r = 2 ∧ v < n ∧ sm S n A C L v = true) ∨ (r = 1 ∧ v < n ∧ decide (64 ≤ S v 0) = true)) ∨ (r = 3 ∧ v < n ∧ (bits .and .u64 (T v) (bw (S v 0)) != bw (S v 0)) = true))
def RW (n m rb A C : Nat) (L : List T3) (f : Int) (S : Nat → Nat → Int) (E : Int) (o : Vd) (W : World) : Prop := E = fa n 0 L f ∧ (E = 0 → Lm (PC S n A C L (tw S n A C L)) o) ∧ ∃ T, Rw W rb n m T
set_option maxHeartbeats 4000000 in
theorem look68 (n m rb kb sb sg sn sc qb Bt Bf g A C : Nat) (L : List T3) (f : Int) (S : Nat → Nat → Int) (U0 : Nat → Int) (hsr : ∀ v, v < n → 0 ≤ S v 0 ∧ S v 0 < 18446744073709551616) (hs : n ≤ sn) (hsn : sn ≤ 140737488351232) (hm : n ≤ m) (hn0 : 0 < n) (hn : n ≤ 10000) (hA : A < 4294967296) (hlen : L.length ≤ 140737488351232) (w : World)
    (hQ : Iq w qb n 0 (fe Bt Bf) (.slice (some ⟨sg, 0, none⟩) sn sc) none) (hG : GU w rb m U0) (hU0 : ∀ x, n ≤ x → x < m → U0 x = 99) (hF : Fd w g Bt Bf L f) (hkb : w.heap[kb]? = some (.cells (rk n A C) 27 (0, 0))) (hsb : Boxed w sb 23 (.slice (some ⟨sg, 0, none⟩) sn sc)) (hS : SR w sg sn S)
    (r1 : rb ≠ g) (r2 : rb ≠ Bt) (r3 : rb ≠ Bf) (r4 : rb ≠ sb) (r5 : rb ≠ sg) (r6 : rb ≠ qb) (r7 : rb ≠ kb) (q1 : qb ≠ g) (q2 : qb ≠ Bt) (q3 : qb ≠ Bf) (q4 : qb ≠ sb) (q5 : qb ≠ sg) :
    Calls Try.prog 68 #[.pointer (some ⟨qb, 0, none⟩), .slice (some ⟨rb, 0, none⟩) n n, .pointer (some ⟨kb, 0, none⟩), .pointer (some ⟨sb, 0, none⟩)] w fun e w' =>
      ∃ E o, e = .returned (.int .i64 E) ∧ Iq w' qb n 0 (fe Bt Bf) (.slice (some ⟨sg, 0, none⟩) sn sc) o ∧ RW n m rb A C L f S E o w' ∧ Ch (fun k => k = rb ∨ k = qb) w w' := by
  have hGl := hG.lt
  have hQl := hQ.lt
  obtain ⟨w0, hw0⟩ : ∃ w0, ((w.alloc (.cells #[.pointer (some ⟨qb, 0, none⟩)] 69)).alloc (.cells #[.slice (some ⟨rb, 0, none⟩) n n] 32)) = w0 := ⟨_, rfl⟩
  have hB0 : Below w.heap.size w w0 := by rw [← hw0]; exact bA2 (b1 _ _ _) _
  have hzx0 : Boxed w0 w.heap.size 69 (.pointer (some ⟨qb, 0, none⟩)) := by rw [← hw0]; exact (Boxed.new w _ _).alloc _
  have hbx0 : Boxed w0 (w.heap.size + 1) 32 (.slice (some ⟨rb, 0, none⟩) n n) := by
    rw [← hw0]
    have h := Boxed.new (w.alloc (.cells #[.pointer (some ⟨qb, 0, none⟩)] 69)) 32 (.slice (some ⟨rb, 0, none⟩) n n)
    rw [World.size_alloc] at h
    exact h
  have hG0 := hG.on hB0
  have hcl := gclear_run n m rb U0 hm hn0 w0 hG0
  obtain ⟨w1, hw1⟩ : ∃ w1, w0.setCells rb 0 (List.replicate n (.int .u64 0)) = w1 := ⟨_, rfl⟩
  have hR1 : Rw w1 rb n m (tw S n A C []) := by
    rw [← hw1]
    refine ⟨_, hG0.zeros n 0, fun v hv => ?_, fun x h1 h2 => ?_⟩
    · rw [if_pos (by omega)]; rfl
    · rw [if_neg (by omega)]; exact hU0 x h1 h2
  have hC01 : Ch (fun k => k = rb) w0 w1 := by rw [← hw1]; exact Ch.zeros (X := fun k => k = rb) rfl n 0 (Ch.refl _ _)
  have hC1 : Ch (fun k => k = rb) w w1 := (Ch.of hB0).trans hC01
  have hQ1 : Iq w1 qb n 0 (fe Bt Bf) (.slice (some ⟨sg, 0, none⟩) sn sc) none := hQ.on hC1 (by omega)
  have hF1 := hF.on hC1 (by omega) (by omega) (by omega)
  have hsb1 : Boxed w1 sb 23 (.slice (some ⟨sg, 0, none⟩) sn sc) := (hC1.block _ hsb.lt (by omega)).trans hsb
  have hS1 := hS.on hC1 (by omega)
  have hkb1 : w1.heap[kb]? = some (.cells (rk n A C) 27 (0, 0)) := (hC1.block _ (lt_of_some hkb) (by omega)).trans hkb
  have hzx1 : Boxed w1 w.heap.size 69 (.pointer (some ⟨qb, 0, none⟩)) := (hC01.block _ hzx0.lt (by omega)).trans hzx0
  have hbx1 : Boxed w1 (w.heap.size + 1) 32 (.slice (some ⟨rb, 0, none⟩) n n) := (hC01.block _ hbx0.lt (by omega)).trans hbx0
  obtain ⟨zb, hzb⟩ : ∃ zb, zb = w.heap.size := ⟨_, rfl⟩
  obtain ⟨mb, hmb⟩ : ∃ mb, mb = w.heap.size + 1 := ⟨_, rfl⟩
  have z0 := hzx1.cell
  rw [← hmb] at hbx1
  rw [← hzb] at hzx1
  have hbl := hbx1.lt
  have hzl := hzx1.lt
  have hQl1 := hQ1.lt
  have hRl1 := hR1.lt
  have hsl1 := hsb1.lt
  have hSl1 := hS1.lt
  have HN := hide (near_any qb n g Bt Bf 69 A C (.slice (some ⟨sg, 0, none⟩) sn sc) #[.pointer (some ⟨sb, 0, none⟩), .pointer (some ⟨zb, 0, none⟩), .pointer (some ⟨mb, 0, none⟩)] L f (fun k => k = rb ∨ k = qb)
    (fun pre W => Rw W rb n m (tw S n A C pre) ∧ (∃ o, Lm (fun a b => b = 2 ∧ a < n ∧ sm S n A C pre a = true) o ∧ Iq W qb n 0 (fe Bt Bf) (.slice (some ⟨sg, 0, none⟩) sn sc) o) ∧ Boxed W mb 32 (.slice (some ⟨rb, 0, none⟩) n n) ∧ Boxed W zb 69 (.pointer (some ⟨qb, 0, none⟩)) ∧ Boxed W sb 23 (.slice (some ⟨sg, 0, none⟩) sn sc) ∧ SR W sg sn S) (by omega) hA hlen w1 enters69 hF1 (by omega) (by omega) (by omega) (fun k hk => by omega)
    (fun pre W h => by obtain ⟨o, _, b⟩ := h.2.1; exact ⟨o, b⟩)
    (fun pre W W' h hk => by
      obtain ⟨a, ⟨o, b, b'⟩, c, d, e, f⟩ := h
      exact ⟨a.of (hk rb hRl1), ⟨o, b, (hk qb hQl1).trans b'⟩, (hk mb hbl).trans c, (hk zb hzl).trans d, (hk sb hsl1).trans e, f.of (hk sg hSl1)⟩)
    (fun pre e W hbad h hnb => by
      obtain ⟨a, ⟨o, b, b'⟩, c⟩ := h
      refine ⟨a.ext (fun v hv => by rw [tw_app]; unfold twe; rw [hnb]), ⟨o, b.ext (fun v r => by rw [sm_app]; unfold sme; rw [hnb]; simp), b'⟩, c⟩)
    (fun pre e W v u hbad h hsz hnb => by
      obtain ⟨⟨U, a1, a2, a3⟩, ⟨o, b, b'⟩, c, d, e', f'⟩ := h
      obtain ⟨hx, hy, _⟩ := bad_ok hbad
      obtain ⟨hv, hu⟩ := nb_lt hnb hx hy
      obtain ⟨s0, s1⟩ := hsr u hu
      refine (see69 n m rb mb zb sb sg sn sc qb 0 _ _ o U S v u hv hu hs hsn hm W a1 c d e' f' b' s0 s1 (by omega) (by omega) (by omega) (by omega)).mono ?_
      rintro r W2 ⟨hv2, hg, hi, hC⟩
      refine ⟨hv2, ⟨⟨_, hg, fun t ht => ?_, fun x h1 h2 => by rw [up_ne _ _ _ _ (by omega)]; exact a3 x h1 h2⟩, ⟨_, ?_, hi⟩, (hC.block mb c.lt (by omega)).trans c, (hC.block zb d.lt (by omega)).trans d, (hC.block sb e'.lt (by omega)).trans e', f'.on hC (by omega)⟩, hC⟩
      · rw [tw_app]
        unfold twe
        rw [hnb]
        by_cases et : t = v
        · subst et; rw [up_eq, a2 t ht]; simp
        · rw [up_ne _ _ _ _ et, a2 t ht]; simp [et]
      · by_cases es : S v 0 = S u 0
        · rw [if_pos es]
          refine (b.nt v 2).ext (fun a r => ?_)
          rw [sm_app]
          unfold sme
          rw [hnb]
          simp only [es, BEq.rfl, Bool.and_true, Bool.or_eq_true, beq_iff_eq]
          constructor
          · rintro (⟨x, y, z⟩ | ⟨x, y⟩)
            · exact ⟨x, y, .inl z⟩
            · exact ⟨y, by omega, .inr x⟩
          · rintro ⟨x, y, z | z⟩
            · exact .inl ⟨x, y, z⟩
            · exact .inr ⟨z, x⟩
        · rw [if_neg es]
          refine b.ext (fun a r => ?_)
          rw [sm_app]
          unfold sme
          rw [hnb]
          have hes : (S v 0 == S u 0) = false := by simpa using es
          simp [hes])
    ⟨hR1, ⟨none, fun v r h => by simp [sm] at h, hQ1⟩, hbx1, hzx1, hsb1, hS1⟩)
  have HC1 : Hid (Ch (fun k => k = rb ∨ k = qb) w w1) := hC1.mono (fun k _ h => Or.inl h)
  have c0 := hbx0.cell
  obtain ⟨k0, k1, k2⟩ := k3 hkb1
  rw [hw1] at hcl
  rw [← hw0] at hcl c0
  have HMB : Hid (mb ≠ rb ∧ mb ≠ qb ∧ zb ≠ rb ∧ zb ≠ qb) := ⟨by omega, by omega, by omega, by omega⟩
  have HSR := hide hsr
  clear hQ hG hU0 hF hkb hsb hS hB0 hbx0 hzx0 hG0 hR1 hC01 hC1 hQ1 hF1 hsb1 hS1 hkb1 hbx1 hzx1 hw0 hw1 hsr
  go_enter Try.func68, Try.ntmps68
  go_wp2_with (fail)
  rw [← hmb, ← hzb]
  refine HN.out.mono ?_
  rintro e2 w2 ⟨E, rfl, hE, hC2, hJ⟩
  obtain ⟨Q, o2, hEQ, hR2, hL2, hQ2, hb2, hz2, hs2, hS2⟩ : ∃ Q o2, (E = 0 → Q = L) ∧ Rw w2 rb n m (tw S n A C Q) ∧ Lm (fun a b => b = 2 ∧ a < n ∧ sm S n A C Q a = true) o2 ∧ Iq w2 qb n 0 (fe Bt Bf) (.slice (some ⟨sg, 0, none⟩) sn sc) o2 ∧ Boxed w2 mb 32 (.slice (some ⟨rb, 0, none⟩) n n) ∧ Boxed w2 zb 69 (.pointer (some ⟨qb, 0, none⟩)) ∧ Boxed w2 sb 23 (.slice (some ⟨sg, 0, none⟩) sn sc) ∧ SR w2 sg sn S := by
    rcases hJ with ⟨h0, a, ⟨o, b, b'⟩, c⟩ | ⟨h0, pre, a, ⟨o, b, b'⟩, c⟩
    · exact ⟨L, o, fun _ => rfl, a, b, b', c⟩
    · exact ⟨pre, o, fun h => absurd h h0, a, b, b', c⟩
  have HX : Hid (∀ W W', (Rw W rb n m (tw S n A C Q) ∧ Boxed W mb 32 (.slice (some ⟨rb, 0, none⟩) n n) ∧ Boxed W zb 69 (.pointer (some ⟨qb, 0, none⟩)) ∧ Boxed W sb 23 (.slice (some ⟨sg, 0, none⟩) sn sc) ∧ SR W sg sn S) → Ch (fun k => k = qb) W W' → (Rw W' rb n m (tw S n A C Q) ∧ Boxed W' mb 32 (.slice (some ⟨rb, 0, none⟩) n n) ∧ Boxed W' zb 69 (.pointer (some ⟨qb, 0, none⟩)) ∧ Boxed W' sb 23 (.slice (some ⟨sg, 0, none⟩) sn sc) ∧ SR W' sg sn S)) := fun W W' h hC => by
    have := HMB.out
    obtain ⟨a, b, b', c, d⟩ := h
    exact ⟨a.of (hC.block rb a.lt r6), (hC.block mb b.lt this.2.1).trans b, (hC.block zb b'.lt this.2.2.2).trans b', (hC.block sb c.lt (fun e => q4 e.symm)).trans c, d.on hC (fun e => q5 e.symm)⟩
  have HR1 := hide (rule_any qb n 1 71 0 (fe Bt Bf) (.slice (some ⟨sg, 0, none⟩) sn sc) o2 #[.pointer (some ⟨sb, 0, none⟩)] (fun v => decide (64 ≤ S v 0)) _ (fun k => False) (fun W => Rw W rb n m (tw S n A C Q) ∧ Boxed W mb 32 (.slice (some ⟨rb, 0, none⟩) n n) ∧ Boxed W zb 69 (.pointer (some ⟨qb, 0, none⟩)) ∧ Boxed W sb 23 (.slice (some ⟨sg, 0, none⟩) sn sc) ∧ SR W sg sn S) (by omega) w2 enters71 hQ2 ⟨hR2, hb2, hz2, hs2, hS2⟩ (fun h => h) HX.out hL2
    (fun v W hv h hI => by
      refine (rule71 sb sg sn sc S v (by omega) W h.2.2.2.1 h.2.2.2.2 hsn).mono ?_
      rintro e3 w3 ⟨rfl, rfl⟩
      exact ⟨rfl, h, Ch.refl _ _⟩))
  have HC2 : Hid (Ch (fun k => k = rb ∨ k = qb) w w2) := HC1.out.trans hC2
  have HE := hide hE
  have HEQ := hide hEQ
  have y0 := hz2.cell
  rw [hzb] at y0
  clear hE hC2 hJ hEQ hR2 hQ2 hb2 hz2 hs2 hS2 HN HC1 k0 k1 k2 hL2 z0 c0
  go_wp2_with (fail)
  refine HR1.out.mono ?_
  rintro e3 w3 ⟨⟨v3, rfl⟩, o3, hL3, hI3, hJ3, hC3⟩
  have HR2 := hide (rule_any qb n 3 72 0 (fe Bt Bf) (.slice (some ⟨sg, 0, none⟩) sn sc) o3 #[.pointer (some ⟨sb, 0, none⟩), .pointer (some ⟨mb, 0, none⟩)] (fun v => bits .and .u64 (tw S n A C Q v) (bw (S v 0)) != bw (S v 0)) _ (fun k => False) (fun W => Rw W rb n m (tw S n A C Q) ∧ Boxed W mb 32 (.slice (some ⟨rb, 0, none⟩) n n) ∧ Boxed W zb 69 (.pointer (some ⟨qb, 0, none⟩)) ∧ Boxed W sb 23 (.slice (some ⟨sg, 0, none⟩) sn sc) ∧ SR W sg sn S) (by omega) w3 enters72 hI3 hJ3 (fun h => h) HX.out hL3
    (fun v W hv h hI => by
      obtain ⟨⟨U, a1, a2, a3⟩, b, c, d, e⟩ := h
      obtain ⟨s0, s1⟩ := HSR.out v hv
      have hr := rule72 n m rb mb sb sg sn sc U S v hv hs hm W a1 b d e hsn s0 s1
      rw [a2 v hv] at hr
      refine hr.mono ?_
      rintro e3 w3 ⟨rfl, rfl⟩
      exact ⟨rfl, ⟨⟨U, a1, a2, a3⟩, b, c, d, e⟩, Ch.refl _ _⟩))
  have HC3 : Hid (Ch (fun k => k = rb ∨ k = qb) w w3) := HC2.out.trans (hC3.mono (fun k _ h => Or.inr (h.resolve_left (fun x => x))))
  have y3 := hJ3.2.2.1.cell
  clear hL3 hI3 hJ3 hC3 HR1 HC2 y0
  rw [hzb] at y3
  go_wp2_with (fail)
  rw [← hmb]
  refine HR2.out.mono ?_
  rintro e5 w5 ⟨⟨v5, rfl⟩, o5, hL5, hI5, hJ5, hC5⟩
  have HEnd : Hid (Iq w5 qb n 0 (fe Bt Bf) (.slice (some ⟨sg, 0, none⟩) sn sc) o5 ∧ RW n m rb A C L f S E o5 w5 ∧ Ch (fun k => k = rb ∨ k = qb) w w5) := ⟨hI5, ⟨HE.out, fun h0 => by rw [HEQ.out h0] at hL5; exact hL5, _, hJ5.1⟩, HC3.out.trans (hC5.mono (fun k _ h => Or.inr (h.resolve_left (fun x => x))))⟩
  clear hL5 hI5 hJ5 hC5 HR2 HC3 HE HEQ
  go_wp2
  all_goals go_ret
  all_goals exact ⟨E, o5, rfl, HEnd.out⟩
end Au
end Go.Proofs.Ytcepfmeoeepjdaa
