import Derived.Test.YtcepfmeoeepjdaaAwD
namespace Go.Proofs.Ytcepfmeoeepjdaa
namespace Au
open Go.RowKit
set_option linter.unusedVariables false
set_option maxRecDepth 8000
/-- Is a neighbour that comes ahead in? -/
def ahe (S : Nat → Nat → Int) (n A C : Nat) (t : Nat) (e : T3) : Bool := match nb n A C e with | some p => t == p.1 && S p.2 0 == 1 | none => false
def ah (S : Nat → Nat → Int) (n A C : Nat) (L : List T3) (t : Nat) : Bool := L.any (ahe S n A C t)
theorem ah_app (S : Nat → Nat → Int) (n A C : Nat) (L : List T3) (e : T3) (t : Nat) : ah S n A C (L ++ [e]) t = (ah S n A C L t || ahe S n A C t e) := by simp [ah]
theorem nb_lt {n A C : Nat} {e : T3} {v u : Nat} (h : nb n A C e = some (v, u)) (h1 : e.1 < n) (h2 : e.2.1 < n) : v < n ∧ u < n := by
  unfold nb at h
  split at h
  · simp at h; omega
  · split at h
    · simp at h; omega
    · cases h
theorem enters62 (A : Array Value) (W : World) : (callFunc 62 A).run Try.prog W = .ok (.enter 62 A) W := enters_of Try.func62 (by kernel_rfl) rfl A W
theorem enters63 (A : Array Value) (W : World) : (callFunc 63 A).run Try.prog W = .ok (.enter 63 A) W := enters_of Try.func63 (by kernel_rfl) rfl A W
theorem enters64 (A : Array Value) (W : World) : (callFunc 64 A).run Try.prog W = .ok (.enter 64 A) W := enters_of Try.func64 (by kernel_rfl) rfl A W
theorem enters65 (A : Array Value) (W : World) : (callFunc 65 A).run Try.prog W = .ok (.enter 65 A) W := enters_of Try.func65 (by kernel_rfl) rfl A W
theorem enters60 (A : Array Value) (W : World) : (callFunc 60 A).run Try.prog W = .ok (.enter 60 A) W := enters_of Try.func60 (by kernel_rfl) rfl A W
/-- Which rules are broken where. -/
def PI (S : Nat → Nat → Int) (n : Nat) (H : Nat → Bool) (v r : Nat) : Prop := (((False ∨ (r = 1 ∧ v < n ∧ decide (1 < S v 0) = true)) ∨ (r = 2 ∧ v < n ∧ (S v 0 == 1 && H v) = true)) ∨ (r = 3 ∧ v < n ∧ (S v 0 == 0 && !H v) = true))
def RI (n m rb A C : Nat) (L : List T3) (f : Int) (S : Nat → Nat → Int) (E : Int) (o : Vd) (W : World) : Prop := E = fa n 0 L f ∧ (E = 0 → Lm (PI S n (ah S n A C L)) o) ∧ ∃ H, Ri W rb n m H
set_option maxHeartbeats 4000000 in
theorem look60 (n m rb kb sb sg sn sc qb Bt Bf g A C : Nat) (L : List T3) (f : Int) (S : Nat → Nat → Int) (U0 : Nat → Int) (hs : n ≤ sn) (hsn : sn ≤ 140737488351232) (hm : n ≤ m) (hn0 : 0 < n) (hn : n ≤ 10000) (hA : A < 4294967296) (hlen : L.length ≤ 140737488351232) (w : World)
    (hQ : Iq w qb n 0 (fe Bt Bf) (.slice (some ⟨sg, 0, none⟩) sn sc) none) (hG : GU w rb m U0) (hU0 : ∀ x, n ≤ x → x < m → U0 x = 99) (hF : Fd w g Bt Bf L f) (hkb : w.heap[kb]? = some (.cells (rk n A C) 27 (0, 0))) (hsb : Boxed w sb 23 (.slice (some ⟨sg, 0, none⟩) sn sc)) (hS : SR w sg sn S)
    (r1 : rb ≠ g) (r2 : rb ≠ Bt) (r3 : rb ≠ Bf) (r4 : rb ≠ sb) (r5 : rb ≠ sg) (r6 : rb ≠ qb) (r7 : rb ≠ kb) (q4 : qb ≠ sb) (q5 : qb ≠ sg) :
    Calls Try.prog 60 #[.pointer (some ⟨qb, 0, none⟩), .slice (some ⟨rb, 0, none⟩) n n, .pointer (some ⟨kb, 0, none⟩), .pointer (some ⟨sb, 0, none⟩)] w fun e w' =>
      ∃ E o, e = .returned (.int .i64 E) ∧ Iq w' qb n 0 (fe Bt Bf) (.slice (some ⟨sg, 0, none⟩) sn sc) o ∧ RI n m rb A C L f S E o w' ∧ Ch (fun k => k = rb ∨ k = qb) w w' := by
  have hGl := hG.lt
  have hQl := hQ.lt
  obtain ⟨w0, hw0⟩ : ∃ w0, (w.alloc (.cells #[.slice (some ⟨rb, 0, none⟩) n n] 32)) = w0 := ⟨_, rfl⟩
  have hB0 : Below w.heap.size w w0 := by rw [← hw0]; exact b1 _ _ _
  have hbx0 : Boxed w0 w.heap.size 32 (.slice (some ⟨rb, 0, none⟩) n n) := by rw [← hw0]; exact Boxed.new w _ _
  have hG0 := hG.on hB0
  have hcl := gclear_run n m rb U0 hm hn0 w0 hG0
  obtain ⟨w1, hw1⟩ : ∃ w1, w0.setCells rb 0 (List.replicate n (.int .u64 0)) = w1 := ⟨_, rfl⟩
  have hR1 : Ri w1 rb n m (ah S n A C []) := by
    rw [← hw1]
    refine ⟨_, hG0.zeros n 0, fun v hv => ?_, fun x h1 h2 => ?_⟩
    · rw [if_pos (by omega)]; rfl
    · rw [if_neg (by omega)]; exact hU0 x h1 h2
  have hC01 : Ch (fun k => k = rb) w0 w1 := by rw [← hw1]; exact Ch.zeros (X := fun k => k = rb) rfl n 0 (Ch.refl _ _)
  have hC1 : Ch (fun k => k = rb) w w1 := (Ch.of hB0).trans hC01
  have hQ1 : Iq w1 qb n 0 (fe Bt Bf) (.slice (some ⟨sg, 0, none⟩) sn sc) none := hQ.on hC1 (by omega)
  have hF1 := hF.on hC1 (by omega) (by omega) (by omega)
  have hsb1 : Boxed w1 sb 23 (.slice (some ⟨sg, 0, none⟩) sn sc) := (hC1.block _ hsb.lt (by omega)).trans hsb
  have hS1 := hS.on hC1 (by omega)
  have hkb1 : w1.heap[kb]? = some (.cells (rk n A C) 27 (0, 0)) := (hC1.block _ (lt_of_some hkb) (by omega)).trans hkb
  have hbx1 : Boxed w1 w.heap.size 32 (.slice (some ⟨rb, 0, none⟩) n n) := (hC01.block _ hbx0.lt (by omega)).trans hbx0
  obtain ⟨mb, hmb⟩ : ∃ mb, mb = w.heap.size := ⟨_, rfl⟩
  rw [← hmb] at hbx1
  have hbl := hbx1.lt
  have hQl1 := hQ1.lt
  have hRl1 := hR1.lt
  have hsl1 := hsb1.lt
  have hSl1 := hS1.lt
  have HN := hide (near_any qb n g Bt Bf 62 A C (.slice (some ⟨sg, 0, none⟩) sn sc) #[.pointer (some ⟨sb, 0, none⟩), .pointer (some ⟨mb, 0, none⟩)] L f (fun k => k = rb)
    (fun pre W => Ri W rb n m (ah S n A C pre) ∧ Iq W qb n 0 (fe Bt Bf) (.slice (some ⟨sg, 0, none⟩) sn sc) none ∧ Boxed W mb 32 (.slice (some ⟨rb, 0, none⟩) n n) ∧ Boxed W sb 23 (.slice (some ⟨sg, 0, none⟩) sn sc) ∧ SR W sg sn S) (by omega) hA hlen w1 enters62 hF1 (by omega) (by omega) (by omega) (fun k hk => by omega)
    (fun pre W h => ⟨none, h.2.1⟩)
    (fun pre W W' h hk => ⟨h.1.of (hk rb hRl1), (hk qb hQl1).trans h.2.1, (hk mb hbl).trans h.2.2.1, (hk sb hsl1).trans h.2.2.2.1, h.2.2.2.2.of (hk sg hSl1)⟩)
    (fun pre e W hbad h hnb => ⟨h.1.ext (fun v hv => by rw [ah_app]; unfold ahe; rw [hnb]; simp), h.2⟩)
    (fun pre e W v u hbad h hsz hnb => by
      obtain ⟨a, b, c, d, e'⟩ := h
      obtain ⟨hx, hy, _⟩ := bad_ok hbad
      obtain ⟨hv, hu⟩ := nb_lt hnb hx hy
      refine (see62 n m rb mb sb sg sn sc (ah S n A C pre) S v u hv hu hs hm hn W a c d e').mono ?_
      rintro r W2 ⟨hv2, hri, hC⟩
      refine ⟨hv2, ⟨hri.ext (fun t ht => by rw [ah_app]; unfold ahe; rw [hnb]; simp [Bool.or_comm]), b.on hC (by omega), (hC.block mb c.lt (by omega)).trans c, (hC.block sb d.lt (by omega)).trans d, e'.on hC (by omega)⟩, hC⟩)
    ⟨hR1, hQ1, hbx1, hsb1, hS1⟩)
  have HC1 : Hid (Ch (fun k => k = rb ∨ k = qb) w w1) := hC1.mono (fun k _ h => Or.inl h)
  have c0 := hbx0.cell
  obtain ⟨k0, k1, k2⟩ := k3 hkb1
  rw [hw1] at hcl
  rw [← hw0] at hcl c0
  have HMB : Hid (mb ≠ rb ∧ mb ≠ qb) := ⟨by omega, by omega⟩
  clear hQ hG hU0 hF hkb hsb hS hB0 hbx0 hG0 hR1 hC01 hC1 hQ1 hF1 hsb1 hS1 hkb1 hbx1 hw0 hw1
  go_enter Try.func60, Try.ntmps60
  go_wp2_with (fail)
  rw [← hmb]
  refine HN.out.mono ?_
  rintro e2 w2 ⟨E, rfl, hE, hC2, hJ⟩
  obtain ⟨H, hEH, hR2, hQ2, hb2, hs2, hS2⟩ : ∃ H, (E = 0 → H = ah S n A C L) ∧ Ri w2 rb n m H ∧ Iq w2 qb n 0 (fe Bt Bf) (.slice (some ⟨sg, 0, none⟩) sn sc) none ∧ Boxed w2 mb 32 (.slice (some ⟨rb, 0, none⟩) n n) ∧ Boxed w2 sb 23 (.slice (some ⟨sg, 0, none⟩) sn sc) ∧ SR w2 sg sn S := by
    rcases hJ with ⟨h0, a⟩ | ⟨h0, pre, a⟩
    · exact ⟨_, fun _ => rfl, a⟩
    · exact ⟨_, fun h => absurd h h0, a⟩
  have HX : Hid (∀ W W', (Ri W rb n m H ∧ Boxed W mb 32 (.slice (some ⟨rb, 0, none⟩) n n) ∧ Boxed W sb 23 (.slice (some ⟨sg, 0, none⟩) sn sc) ∧ SR W sg sn S) → Ch (fun k => k = qb) W W' → (Ri W' rb n m H ∧ Boxed W' mb 32 (.slice (some ⟨rb, 0, none⟩) n n) ∧ Boxed W' sb 23 (.slice (some ⟨sg, 0, none⟩) sn sc) ∧ SR W' sg sn S)) := fun W W' h hC => by
    have := HMB.out
    obtain ⟨a, b, c, d⟩ := h
    exact ⟨a.of (hC.block rb a.lt r6), (hC.block mb b.lt this.2).trans b, (hC.block sb c.lt (fun e => q4 e.symm)).trans c, d.on hC (fun e => q5 e.symm)⟩
  have HR1 := hide (rule_any qb n 1 63 0 (fe Bt Bf) (.slice (some ⟨sg, 0, none⟩) sn sc) none #[.pointer (some ⟨sb, 0, none⟩)] (fun v => decide (1 < S v 0)) (fun _ _ => False) (fun k => False) (fun W => Ri W rb n m H ∧ Boxed W mb 32 (.slice (some ⟨rb, 0, none⟩) n n) ∧ Boxed W sb 23 (.slice (some ⟨sg, 0, none⟩) sn sc) ∧ SR W sg sn S) (by omega) w2 enters63 hQ2 ⟨hR2, hb2, hs2, hS2⟩ (fun h => h) HX.out (fun _ _ h => h)
    (fun v W hv h hI => by
      refine (rule63 sb sg sn sc S v (by omega) W h.2.2.1 h.2.2.2 hsn).mono ?_
      rintro e3 w3 ⟨rfl, rfl⟩
      exact ⟨rfl, h, Ch.refl _ _⟩))
  have HC2 : Hid (Ch (fun k => k = rb ∨ k = qb) w w2) := HC1.out.trans (hC2.mono (fun k _ h => Or.inl h))
  have HE := hide hE
  have HEH := hide hEH
  clear hE hC2 hJ hEH hR2 hQ2 hb2 hs2 hS2 HN HC1 k0 k1 k2
  go_wp2_with (fail)
  refine HR1.out.mono ?_
  rintro e3 w3 ⟨⟨v3, rfl⟩, o3, hL3, hI3, hJ3, hC3⟩
  have HR2 := hide (rule_any qb n 2 64 0 (fe Bt Bf) (.slice (some ⟨sg, 0, none⟩) sn sc) o3 #[.pointer (some ⟨sb, 0, none⟩), .pointer (some ⟨mb, 0, none⟩)] (fun v => S v 0 == 1 && H v) _ (fun k => False) (fun W => Ri W rb n m H ∧ Boxed W mb 32 (.slice (some ⟨rb, 0, none⟩) n n) ∧ Boxed W sb 23 (.slice (some ⟨sg, 0, none⟩) sn sc) ∧ SR W sg sn S) (by omega) w3 enters64 hI3 hJ3 (fun h => h) HX.out hL3
    (fun v W hv h hI => by
      refine (rule64 n m rb mb sb sg sn sc H S v hv hs hm W h.1 h.2.1 h.2.2.1 h.2.2.2 hsn).mono ?_
      rintro e3 w3 ⟨rfl, rfl⟩
      exact ⟨rfl, h, Ch.refl _ _⟩))
  have HC3 : Hid (Ch (fun k => k = rb ∨ k = qb) w w3) := HC2.out.trans (hC3.mono (fun k _ h => Or.inr (h.resolve_left (fun x => x))))
  clear hL3 hI3 hJ3 hC3 HR1 HC2
  go_wp2_with (fail)
  rw [← hmb]
  refine HR2.out.mono ?_
  rintro e4 w4 ⟨⟨v4, rfl⟩, o4, hL4, hI4, hJ4, hC4⟩
  have HR3 := hide (rule_any qb n 3 65 0 (fe Bt Bf) (.slice (some ⟨sg, 0, none⟩) sn sc) o4 #[.pointer (some ⟨sb, 0, none⟩), .pointer (some ⟨mb, 0, none⟩)] (fun v => S v 0 == 0 && !H v) _ (fun k => False) (fun W => Ri W rb n m H ∧ Boxed W mb 32 (.slice (some ⟨rb, 0, none⟩) n n) ∧ Boxed W sb 23 (.slice (some ⟨sg, 0, none⟩) sn sc) ∧ SR W sg sn S) (by omega) w4 enters65 hI4 hJ4 (fun h => h) HX.out hL4
    (fun v W hv h hI => by
      refine (rule65 n m rb mb sb sg sn sc H S v hv hs hm W h.1 h.2.1 h.2.2.1 h.2.2.2 hsn).mono ?_
      rintro e3 w3 ⟨rfl, rfl⟩
      exact ⟨rfl, h, Ch.refl _ _⟩))
  have HC4 : Hid (Ch (fun k => k = rb ∨ k = qb) w w4) := HC3.out.trans (hC4.mono (fun k _ h => Or.inr (h.resolve_left (fun x => x))))
  clear hL4 hI4 hJ4 hC4 HR2 HC3
  go_wp2_with (fail)
  rw [← hmb]
  refine HR3.out.mono ?_
  rintro e5 w5 ⟨⟨v5, rfl⟩, o5, hL5, hI5, hJ5, hC5⟩
  have HEnd : Hid (Iq w5 qb n 0 (fe Bt Bf) (.slice (some ⟨sg, 0, none⟩) sn sc) o5 ∧ RI n m rb A C L f S E o5 w5 ∧ Ch (fun k => k = rb ∨ k = qb) w w5) := ⟨hI5, ⟨HE.out, fun h0 => by rw [← HEH.out h0]; exact hL5, H, hJ5.1⟩, HC4.out.trans (hC5.mono (fun k _ h => Or.inr (h.resolve_left (fun x => x))))⟩
  clear hL5 hI5 hJ5 hC5 HR3 HC4 HE HEH
  go_wp2
  all_goals go_ret
  all_goals exact ⟨E, o5, rfl, HEnd.out⟩
end Au
end Go.Proofs.Ytcepfmeoeepjdaa
