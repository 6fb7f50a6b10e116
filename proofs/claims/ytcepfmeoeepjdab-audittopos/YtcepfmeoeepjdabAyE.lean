import Derived.Test.YtcepfmeoeepjdabAyD
namespace Go.Proofs.Ytcepfmeoeepjdab
namespace Au
open Go.RowKit
set_option linter.unusedVariables false
set_option maxRecDepth 8000
theorem wp_cutG {P : Program} {c : Code} {Q : Exit → Act → World → Prop} {a : Act} {w : World} (T : Nat → Nat → World → Prop) (A1 : Nat → Nat → Act)
    (h : c.wp P (fun e a' w' => match e with | .normal => ∃ x y, a' = A1 x y ∧ T x y w' | _ => False) a w) (hq : ∀ x y w', T x y w' → Q .normal (A1 x y) w') : c.wp P Q a w := by
  refine Code.wp_mono ?_ h
  intro e a' w' hh
  cases e with
  | normal => obtain ⟨x, y, rfl, ht⟩ := hh; exact hq x y w' ht
  | _ => exact hh.elim
abbrev S55 (nb n : Nat) (w : World) : Prop := w.cell? ⟨nb, 0, none⟩ = some (.int .u32 (n : Int))
/-- Two boxes of slices. -/
def Bx2 (w1 : World) (rb n : Nat) (mb lb : Nat) (w' : World) : Prop := Boxed w' mb 32 (.slice (some ⟨rb, 0, none⟩) n (2 * n)) ∧ Boxed w' lb 32 (.slice (some ⟨rb, n, none⟩) n n) ∧ Below w1.heap.size w1 w'
theorem Bx2.a (w : World) (rb n : Nat) : Bx2 w rb n w.heap.size (w.heap.size + 1) ((w.alloc (.cells #[.slice (some ⟨rb, 0, none⟩) n (2 * n)] 32)).alloc (.cells #[.slice (some ⟨rb, n, none⟩) n n] 32)).drew := by
  refine ⟨keep _ (at0 _ _), ?_, belowD (bA2 (b1 _ _ _) _)⟩
  have h := Boxed.new (w.alloc (.cells #[.slice (some ⟨rb, 0, none⟩) n (2 * n)] 32)) 32 (.slice (some ⟨rb, n, none⟩) n n)
  rw [World.size_alloc] at h
  exact h
theorem Bx2.b (w : World) (rb n : Nat) : Bx2 w rb n (w.heap.size + 1) w.heap.size ((w.alloc (.cells #[.slice (some ⟨rb, n, none⟩) n n] 32)).alloc (.cells #[.slice (some ⟨rb, 0, none⟩) n (2 * n)] 32)).drew := by
  refine ⟨?_, keep _ (at0 _ _), belowD (bA2 (b1 _ _ _) _)⟩
  have h := Boxed.new (w.alloc (.cells #[.slice (some ⟨rb, n, none⟩) n n] 32)) 32 (.slice (some ⟨rb, 0, none⟩) n (2 * n))
  rw [World.size_alloc] at h
  exact h
def RL2 (n m rb : Nat) (L : List T3) (f : Int) (S : Nat → Nat → Int) (fr : Nat → Int) (Q : List Nat) (E : Int) (o : Vd) (W : World) : Prop := E = fa n 0 L f ∧ (E = 0 → Lm (PS S n fr Q L) o) ∧ ∃ D C, Pr W rb n m D C
set_option maxHeartbeats 8000000 in
theorem look56 (n m rb qb nb sb fb2 ub pb sg sn sc uc Bt Bf g K : Nat) (ua : Option Addr) (bx : Array Value) (Q : List Nat) (L : List T3) (f : Int) (S : Nat → Nat → Int) (fr : Nat → Int) (D C : Nat → Int) (hs : n ≤ sn) (hsr : ∀ v, v < n → 0 ≤ S v 0 ∧ S v 0 < 18446744073709551616) (hm : 2 * n ≤ m) (hn0 : 0 < n) (hn : n ≤ 5000) (hlen : L.length ≤ 140737488351232) (hql : Q.length ≤ 140737488351232) (w : World)
    (HE : ∀ A W, (callFunc K A).run Try.prog W = .ok (.enter K A) W)
    (hfr : ∀ u W, u < n → Boxed W pb 23 (.slice (some ⟨sg, 0, none⟩) sn sc) → SR W sg sn S → Calls Try.prog K (#[.int .u32 (u : Int)] ++ bx) W fun r W' => r = .returned (.int .u64 (fr u)) ∧ W' = W)
    (hQ : Iq w qb n 0 (fe Bt Bf) (.slice (some ⟨sg, 0, none⟩) sn sc) none) (hP : Pr w rb n m D C) (hF : Fd w g Bt Bf L f) (hnb : Boxed w nb 22 (.int .u32 (n : Int))) (hsb : Boxed w sb 23 (.slice (some ⟨sg, 0, none⟩) sn sc)) (hfb : Boxed w fb2 86 (.func (.func K) #[] bx)) (hub : Boxed w ub 25 (.slice ua Q.length uc)) (hpb : Boxed w pb 23 (.slice (some ⟨sg, 0, none⟩) sn sc)) (hS : SR w sg sn S) (hua : Row1 w ua Q) (hux : ∀ x, ua = some x → x.block ≠ rb ∧ x.block ≠ qb)
    (r1 : rb ≠ g) (r2 : rb ≠ Bt) (r3 : rb ≠ Bf) (r6 : rb ≠ qb) (q1 : qb ≠ g) (q2 : qb ≠ Bt) (q3 : qb ≠ Bf) :
    Calls Try.prog 56 #[.pointer (some ⟨qb, 0, none⟩), .slice (some ⟨rb, 0, none⟩) (2 * n) (2 * n), .pointer (some ⟨nb, 0, none⟩), .pointer (some ⟨sb, 0, none⟩), .pointer (some ⟨fb2, 0, none⟩), .pointer (some ⟨ub, 0, none⟩)] w fun e w' =>
      ∃ E o, e = .returned (.int .i64 E) ∧ Iq w' qb n 0 (fe Bt Bf) (.slice (some ⟨sg, 0, none⟩) sn sc) o ∧ RL2 n m rb L f S fr Q E o w' ∧ Ch (fun k => k = rb ∨ k = qb) w w' := by
  obtain ⟨w1, hw1⟩ : ∃ w1, w.alloc (.cells #[.pointer (some ⟨qb, 0, none⟩)] 63) = w1 := ⟨_, rfl⟩
  have hB1 : Below w.heap.size w w1 := by rw [← hw1]; exact b1 _ _ _
  have hzb : Boxed w1 w.heap.size 63 (.pointer (some ⟨qb, 0, none⟩)) := by rw [← hw1]; exact Boxed.new _ _ _
  have HKg : Hid (∀ W, Below w1.heap.size w1 W → S55 nb n W) := fun W hW => (show Boxed W nb 22 (.int .u32 (n : Int)) from (hW.block _ (Nat.lt_of_lt_of_le hnb.lt hB1.size)).trans ((hB1.block _ hnb.lt).trans hnb)).cell
  obtain ⟨zb, hzbe⟩ : ∃ zb, zb = w.heap.size := ⟨_, rfl⟩
  have h2n : 2 * n - n = n := by omega
  have hle : n ≤ 2 * n := by omega
  have hne2 : ¬ 2 * n = n := by omega
  have hI0 : (0 : Int) ≤ (n : Int) := by omega
  have hI1 : (n : Int) ≤ ((2 * n : Nat) : Int) := by omega
  have hI2 : (n : Int) ≤ 2 * (n : Int) := by omega
  have hI3 : ¬ (n : Int) < 0 := by omega
  have HW1 := hide hw1
  have Hzbe := hide hzbe
  have HBa := hide (Bx2.a w1 rb n)
  have HBb := hide (Bx2.b w1 rb n)
  rw [← hzbe] at hzb
  clear hw1 hzbe
  go_enter Try.func56, Try.ntmps56
  go_wp2_with (fail)
  rw [HW1.out, ← Hzbe.out]
  apply wp_cutG (Bx2 w1 rb n) (fun mb lb => { tmps := #[.pointer (some ⟨qb, 0, none⟩), .slice (some ⟨rb, 0, none⟩) (2 * n) (2 * n), .pointer (some ⟨nb, 0, none⟩), .pointer (some ⟨sb, 0, none⟩), .pointer (some ⟨fb2, 0, none⟩), .pointer (some ⟨ub, 0, none⟩), .pointer (some ⟨zb, 0, none⟩), undef, .int .i64 0, .pointer (some ⟨mb, 0, none⟩), .pointer (some ⟨lb, 0, none⟩), undef, undef, .slice (some ⟨rb, 0, none⟩) (2 * n) (2 * n), .int .u32 (n : Int), .slice (some ⟨rb, 0, none⟩) n (2 * n), .slice (some ⟨rb, 0, none⟩) (2 * n) (2 * n), .int .u32 (n : Int), .slice (some ⟨rb, n, none⟩) n n, undef, undef, undef, undef, undef, undef, undef, undef, undef, undef, undef, undef, undef, undef, undef, undef, undef], defers := [] })
  case h =>
    go_region_held3 (S55 nb n) ((refine HKg.out _ ?_; repeat (first | with_reducible exact HBa.out.2.2 | with_reducible exact HBb.out.2.2 | with_reducible exact Below.refl _ _ | with_reducible refine belowD ?_ | with_reducible refine bA2 ?_ _))) ((fail))
    · exact ⟨_, _, rfl, HBa.out⟩
    · exact ⟨_, _, rfl, HBb.out⟩
  case hq =>
    rintro mb lb w2 ⟨hmb, hlb, hB2⟩
    dsimp only
    have hBw : Below w.heap.size w w2 := hB1.trans (hB2.mono hB1.size)
    have hP2 : Pr w2 rb n m D C := hP.of (hBw.block _ hP.lt)
    have hQ2 : Iq w2 qb n 0 (fe Bt Bf) (.slice (some ⟨sg, 0, none⟩) sn sc) none := (hBw.block _ hQ.lt).trans hQ
    have hV2 : Ev w2 n rb qb sb nb zb mb lb fb2 pb sg sn sc K bx S := ⟨(hBw.block _ hsb.lt).trans hsb, (hBw.block _ hnb.lt).trans hnb, (hB2.block _ hzb.lt).trans hzb, hmb, hlb, (hBw.block _ hfb.lt).trans hfb, (hBw.block _ hpb.lt).trans hpb, hS.of (hBw.block _ hS.lt)⟩
    have hub2 : Boxed w2 ub 25 (.slice ua Q.length uc) := (hBw.block _ hub.lt).trans hub
    have hneR := fun k hk => hV2.ner hP2 k hk
    have hneQ := fun k hk => hV2.neq hQ2 k hk
    have hubR : ub ≠ rb := fun e => by
      obtain ⟨U, ⟨Q', q, _⟩, _⟩ := hP2
      have h9 := hub2; unfold Boxed at h9; rw [e, q] at h9; simp at h9
    have hubQ : ub ≠ qb := fun e => by
      have h8 := hQ2; unfold Iq at h8
      have h9 := hub2; unfold Boxed at h9; rw [e, h8] at h9; simp at h9
    have hcl := clear_run n m rb D C hm hn0 w2 hP2
    obtain ⟨w3, hw3⟩ : ∃ w3, w2.setCells rb 0 (List.replicate n (.int .u64 0)) = w3 := ⟨_, rfl⟩
    rw [hw3] at hcl
    have hP3 : Pr w3 rb n m (w01 (mt S n [])) C := by
      rw [← hw3]
      exact (hP2.zeros n 0 (by omega)).ext (fun v hv => by rw [if_pos (by omega)]; rfl) (fun _ _ => rfl)
    have hC3 : Ch (fun k => k = rb) w2 w3 := by rw [← hw3]; exact Ch.zeros (X := fun k => k = rb) rfl n 0 (Ch.refl _ _)
    have HFi := hide (fillc_any n m rb (w01 (mt S n [])) C 18446744073709551615 hm hn w3 hP3)
    have cm := hmb.cell
    have cl3 : w3.cell? ⟨lb, 0, none⟩ = some (.slice (some ⟨rb, n, none⟩) n n) := (hC3.cell (p := ⟨lb, 0, none⟩) hlb.lt (hneR lb (by simp))).trans hlb.cell
    have hF2 := hF.on (X := fun _ => False) (Ch.of hBw) (fun h => h) (fun h => h) (fun h => h)
    have HAll : Hid (∀ w4, Ch (fun k => k = rb) w3 w4 → Iq w4 qb n 0 (fe Bt Bf) (.slice (some ⟨sg, 0, none⟩) sn sc) none ∧ Ev w4 n rb qb sb nb zb mb lb fb2 pb sg sn sc K bx S ∧ Fd w4 g Bt Bf L f ∧ Boxed w4 ub 25 (.slice ua Q.length uc) ∧ Row1 w4 ua Q ∧ Ch (fun k => k = rb ∨ k = qb) w w4) := fun w4 hc => by
      have hcc := hC3.trans hc
      exact ⟨hQ2.on hcc (fun e => r6 e.symm), hV2.of (fun k hk => hcc.block k (hV2.lt k hk) (hneR k hk)), hF2.on hcc (fun e => r1 e.symm) (fun e => r2 e.symm) (fun e => r3 e.symm), (hcc.block _ hub2.lt hubR).trans hub2, (hua.on hBw (Nat.le_refl _)).ch hcc (fun x hx e => (hux x hx).1 e), (Ch.of hBw).trans (hcc.mono (fun k _ h => Or.inl h))⟩
    have HNe := hide (And.intro hneR (And.intro hneQ (And.intro hubR hubQ)))
    have HFr := hide hfr
    have HEK := hide HE
    have HSR := hide hsr
    have Hux := hide hux
    clear hP hQ hF hnb hsb hfb hub hpb hS hua hB1 hzb HKg hBw hP2 hQ2 hV2 hub2 hneR hneQ hubR hubQ hP3 hC3 hF2 hmb hlb hB2 hw3 HBa HBb HE hfr hsr hux
    go_wp2_with (fail)
    refine HFi.out.mono ?_
    rintro e4 w4 ⟨⟨v4, rfl⟩, hP4, hC4⟩
    obtain ⟨hQ4, hV4, hF4, hub4, hua4, hCw4⟩ := HAll.out w4 hC4
    have cz := hV4.bz.cell
    have l1 := hP4.lt
    have l2 := hQ4.lt
    have HO := hide (over_any qb n g Bt Bf 58 0 (.slice (some ⟨sg, 0, none⟩) sn sc) #[.pointer (some ⟨sb, 0, none⟩), .pointer (some ⟨nb, 0, none⟩), .pointer (some ⟨zb, 0, none⟩), .pointer (some ⟨mb, 0, none⟩), .pointer (some ⟨lb, 0, none⟩), .pointer (some ⟨fb2, 0, none⟩)] L f (fun k => k = rb ∨ k = qb)
      (fun pre W => Pr W rb n m (w01 (mt S n pre)) (lst S n fr pre) ∧ (∃ o, Lm (fun a b => b = 2 ∧ a < n ∧ ov S n pre a = true) o ∧ Iq W qb n 0 (fe Bt Bf) (.slice (some ⟨sg, 0, none⟩) sn sc) o) ∧ Ev W n rb qb sb nb zb mb lb fb2 pb sg sn sc K bx S) (by decide) hlen w4 enters58 hF4 (by omega) (by omega) (by omega) (fun k hk => by omega)
      (fun pre W h => by obtain ⟨_, ⟨o, _, b⟩, _⟩ := h; exact ⟨o, b⟩)
      (fun pre W W' h hk => by
        obtain ⟨a, ⟨o, b, b'⟩, c⟩ := h
        exact ⟨a.of (hk rb l1), ⟨o, b, (hk qb l2).trans b'⟩, c.of (fun k h9 => hk k (hV4.lt k h9))⟩)
      (fun pre e W hp hbad h hsz => by
        obtain ⟨a, ⟨o, b, b'⟩, c⟩ := h
        obtain ⟨hx, hy, _⟩ := bad_ok hbad
        refine (see58 n m rb qb sb nb zb mb lb fb2 pb sg sn sc K bx S fr 0 _ _ o (mt S n pre) (lst S n fr pre) e hx hy hs HSR.out hm hn W HEK.out HFr.out a b' c r6).mono ?_
        rintro r W2 ⟨hv2, p1, p2, p3⟩
        refine ⟨hv2, ⟨p1.ext (fun v _ => by unfold w01; rw [mt_app]) (fun v _ => by rw [lst_app]), ⟨_, ?_, p2⟩, c.ch a b' p3⟩, p3⟩
        by_cases ho : ovE S n e.2.1 e = true
        · rw [if_pos ho]
          refine (b.nt e.2.1 2).ext (fun u r => ?_)
          rw [ov_app]
          constructor
          · rintro (⟨x1, x2, x3⟩ | ⟨x1, x2⟩)
            · exact ⟨x1, x2, by rw [x3]; rfl⟩
            · subst x1; exact ⟨x2, hy, by rw [ho]; simp⟩
          · rintro ⟨x1, x2, x3⟩
            simp only [Bool.or_eq_true] at x3
            rcases x3 with x3 | x3
            · exact .inl ⟨x1, x2, x3⟩
            · refine .inr ⟨?_, x1⟩
              unfold ovE at x3
              simp only [Bool.and_eq_true, beq_iff_eq] at x3
              exact x3.1.1.symm
        · have ho' : ovE S n e.2.1 e = false := by simpa using ho
          rw [if_neg ho]
          refine b.ext (fun u r => ?_)
          rw [ov_app]
          by_cases eu : u = e.2.1
          · subst eu; rw [ho']; simp
          · have h9 : ovE S n u e = false := by
              have h8 : (e.2.1 == u) = false := by simpa using fun q => eu q.symm
              unfold ovE; rw [h8]; rfl
            rw [h9]; simp)
      ⟨hP4.ext (fun _ _ => rfl) (fun _ _ => rfl), ⟨none, fun v r h => by simp [ov] at h, hQ4⟩, hV4⟩)
    have HW4 : Hid (Boxed w4 ub 25 (.slice ua Q.length uc) ∧ Row1 w4 ua Q ∧ Ch (fun k => k = rb ∨ k = qb) w w4) := ⟨hub4, hua4, hCw4⟩
    clear hP4 hC4 hQ4 hV4 hF4 hub4 hua4 hCw4 HFi HAll l1 l2 cm cl3 hcl
    go_wp2_with (fail)
    refine HO.out.mono ?_
    rintro e5 w5 ⟨E, rfl, hE, hC5, hJ⟩
    obtain ⟨pre, o5, hEp, hP5, hL5, hQ5, hV5⟩ : ∃ pre o5, (E = 0 → pre = L) ∧ Pr w5 rb n m (w01 (mt S n pre)) (lst S n fr pre) ∧ Lm (fun a b => b = 2 ∧ a < n ∧ ov S n pre a = true) o5 ∧ Iq w5 qb n 0 (fe Bt Bf) (.slice (some ⟨sg, 0, none⟩) sn sc) o5 ∧ Ev w5 n rb qb sb nb zb mb lb fb2 pb sg sn sc K bx S := by
      rcases hJ with ⟨h0, a, ⟨o, b, b'⟩, c⟩ | ⟨h0, pre, a, ⟨o, b, b'⟩, c⟩
      · exact ⟨L, o, fun _ => rfl, a, b, b', c⟩
      · exact ⟨pre, o, fun h => absurd h h0, a, b, b', c⟩
    obtain ⟨w6, hw6⟩ : ∃ w6, w5.alloc (.cells #[.func (.func 59) #[] #[.pointer (some ⟨sb, 0, none⟩), .pointer (some ⟨nb, 0, none⟩)]] 71) = w6 := ⟨_, rfl⟩
    have hB6 : Below w5.heap.size w5 w6 := by rw [← hw6]; exact b1 _ _ _
    have hhb : Boxed w6 w5.heap.size 71 (.func (.func 59) #[] #[.pointer (some ⟨sb, 0, none⟩), .pointer (some ⟨nb, 0, none⟩)]) := by rw [← hw6]; exact Boxed.new _ _ _
    obtain ⟨hb, hhbe⟩ : ∃ hb, hb = w5.heap.size := ⟨_, rfl⟩
    rw [← hhbe] at hhb
    have hQ6 : Iq w6 qb n 0 (fe Bt Bf) (.slice (some ⟨sg, 0, none⟩) sn sc) o5 := (hB6.block _ hQ5.lt).trans hQ5
    have hV6 : Ev w6 n rb qb sb nb zb mb lb fb2 pb sg sn sc K bx S := hV5.of (fun k hk => hB6.block k (hV5.lt k hk))
    have hub5 : Boxed w5 ub 25 (.slice ua Q.length uc) := (hC5.block _ HW4.out.1.lt (by have := HNe.out.2.2; omega)).trans HW4.out.1
    have hub6 : Boxed w6 ub 25 (.slice ua Q.length uc) := (hB6.block _ hub5.lt).trans hub5
    have hua6 : Row1 w6 ua Q := (HW4.out.2.1.ch hC5 (fun x hx e => e.elim (Hux.out x hx).1 (Hux.out x hx).2)).on hB6 (Nat.le_refl _)
    have hbQ : hb ≠ qb := by have := hQ5.lt; omega
    have hJ6 : Pr w6 rb n m (w01 (mt S n pre)) (lst S n fr pre) ∧ Ev w6 n rb qb sb nb zb mb lb fb2 pb sg sn sc K bx S ∧ Boxed w6 hb 71 (.func (.func 59) #[] #[.pointer (some ⟨sb, 0, none⟩), .pointer (some ⟨nb, 0, none⟩)]) ∧ Boxed w6 ub 25 (.slice ua Q.length uc) ∧ Row1 w6 ua Q := ⟨hP5.of (hB6.block _ hP5.lt), hV6, hhb, hub6, hua6⟩
    have HX : Hid (∀ (X : Nat → Prop) W W', (Pr W rb n m (w01 (mt S n pre)) (lst S n fr pre) ∧ Ev W n rb qb sb nb zb mb lb fb2 pb sg sn sc K bx S ∧ Boxed W hb 71 (.func (.func 59) #[] #[.pointer (some ⟨sb, 0, none⟩), .pointer (some ⟨nb, 0, none⟩)]) ∧ Boxed W ub 25 (.slice ua Q.length uc) ∧ Row1 W ua Q) → Ch X W W' → (∀ k, X k → k = qb) → (Pr W' rb n m (w01 (mt S n pre)) (lst S n fr pre) ∧ Ev W' n rb qb sb nb zb mb lb fb2 pb sg sn sc K bx S ∧ Boxed W' hb 71 (.func (.func 59) #[] #[.pointer (some ⟨sb, 0, none⟩), .pointer (some ⟨nb, 0, none⟩)]) ∧ Boxed W' ub 25 (.slice ua Q.length uc) ∧ Row1 W' ua Q)) := fun X W W' h hc hX => by
      obtain ⟨a, b, c, d, e⟩ := h
      exact ⟨a.of (hc.block _ a.lt (fun q => r6 (hX _ q))), b.of (fun k hk => hc.block k (b.lt k hk) (fun q => HNe.out.2.1 k hk (hX _ q))), (hc.block _ c.lt (fun q => hbQ (hX _ q))).trans c, (hc.block _ d.lt (fun q => HNe.out.2.2.2 (hX _ q))).trans d, e.ch hc (fun x hx q => (Hux.out x hx).2 (hX _ q))⟩
    have HR1 := hide (rule_any qb n 1 60 0 (fe Bt Bf) (.slice (some ⟨sg, 0, none⟩) sn sc) o5 #[.pointer (some ⟨nb, 0, none⟩), .pointer (some ⟨sb, 0, none⟩), .pointer (some ⟨ub, 0, none⟩)] (unf S n Q) _ (fun k => False) (fun W => Pr W rb n m (w01 (mt S n pre)) (lst S n fr pre) ∧ Ev W n rb qb sb nb zb mb lb fb2 pb sg sn sc K bx S ∧ Boxed W hb 71 (.func (.func 59) #[] #[.pointer (some ⟨sb, 0, none⟩), .pointer (some ⟨nb, 0, none⟩)]) ∧ Boxed W ub 25 (.slice ua Q.length uc) ∧ Row1 W ua Q) (by omega) w6 enters60 hQ6 hJ6 (fun h => h) (fun W W' h hc => HX.out _ W W' h hc (fun k hk => hk)) hL5
      (fun v W hv h hI => by
        refine (rule60 n nb sb ub sg sn sc v uc ua Q S hv hs hn hql W h.2.1.bs h.2.1.bn h.2.2.2.1 h.2.2.2.2 h.2.1.bS).mono ?_
        rintro e3 w3 ⟨rfl, hb3⟩
        exact ⟨rfl, HX.out (fun _ => False) W w3 h (Ch.of hb3) (fun k hk => hk.elim), Ch.of hb3⟩))
    have HC6 : Hid (Ch (fun k => k = rb ∨ k = qb) w w6) := (HW4.out.2.2.trans hC5).trans (Ch.of hB6)
    have HE := hide hE
    have HEp := hide hEp
    have HW6 := hide hw6
    have Hhbe := hide hhbe
    have c6 := hV6.bz.cell
    clear hE hC5 hJ hEp hP5 hL5 hQ5 hV5 hB6 hhb hQ6 hV6 hub5 hub6 hua6 hJ6 HO HW4 cz hw6 hhbe
    rw [← HW6.out] at c6
    go_wp2_with (fail)
    rw [HW6.out, ← Hhbe.out]
    refine HR1.out.mono ?_
    rintro e7 w7 ⟨⟨v7, rfl⟩, o7, hL7, hI7, hJ7, hC7⟩
    have HR2 := hide (rule_any qb n 3 63 0 (fe Bt Bf) (.slice (some ⟨sg, 0, none⟩) sn sc) o7 #[.pointer (some ⟨hb, 0, none⟩), .pointer (some ⟨mb, 0, none⟩)] (fun v => bh S n v && !mt S n pre v) _ (fun k => False) (fun W => Pr W rb n m (w01 (mt S n pre)) (lst S n fr pre) ∧ Ev W n rb qb sb nb zb mb lb fb2 pb sg sn sc K bx S ∧ Boxed W hb 71 (.func (.func 59) #[] #[.pointer (some ⟨sb, 0, none⟩), .pointer (some ⟨nb, 0, none⟩)]) ∧ Boxed W ub 25 (.slice ua Q.length uc) ∧ Row1 W ua Q) (by omega) w7 enters63 hI7 hJ7 (fun h => h) (fun W W' h hc => HX.out _ W W' h hc (fun k hk => hk)) hL7
      (fun v W hv h hI => by
        refine (rule63 n m rb hb mb sb nb sg sn sc v S _ _ hv hs hm hn W h.2.1.bs h.2.1.bn h.2.2.1 h.2.1.bm h.2.1.bS h.1).mono ?_
        rintro e3 w3 ⟨rfl, rfl⟩
        exact ⟨rfl, HX.out (fun _ => False) W W.drew h (Ch.refl _ _).drew (fun k hk => hk.elim), (Ch.refl _ _).drew⟩))
    have HC7 : Hid (Ch (fun k => k = rb ∨ k = qb) w w7) := HC6.out.trans (hC7.mono (fun k _ h => Or.inr (h.resolve_left (fun x => x))))
    have c7 := hJ7.2.1.bz.cell
    clear hL7 hI7 hJ7 hC7 HR1 HC6 c6 HW6
    go_wp2_with (fail)
    refine HR2.out.mono ?_
    rintro e8 w8 ⟨⟨v8, rfl⟩, o8, hL8, hI8, hJ8, hC8⟩
    have HR3 := hide (rule_any qb n 4 64 0 (fe Bt Bf) (.slice (some ⟨sg, 0, none⟩) sn sc) o8 #[.pointer (some ⟨hb, 0, none⟩), .pointer (some ⟨mb, 0, none⟩), .pointer (some ⟨lb, 0, none⟩), .pointer (some ⟨sb, 0, none⟩)] (fun v => bh S n v && mt S n pre v && (lst S n fr pre v != S v 1)) _ (fun k => False) (fun W => Pr W rb n m (w01 (mt S n pre)) (lst S n fr pre) ∧ Ev W n rb qb sb nb zb mb lb fb2 pb sg sn sc K bx S ∧ Boxed W hb 71 (.func (.func 59) #[] #[.pointer (some ⟨sb, 0, none⟩), .pointer (some ⟨nb, 0, none⟩)]) ∧ Boxed W ub 25 (.slice ua Q.length uc) ∧ Row1 W ua Q) (by omega) w8 enters64 hI8 hJ8 (fun h => h) (fun W W' h hc => HX.out _ W W' h hc (fun k hk => hk)) hL8
      (fun v W hv h hI => by
        refine (rule64 n m rb hb mb lb sb nb sg sn sc v S _ _ hv hs hm hn W h.2.1.bs h.2.1.bn h.2.2.1 h.2.1.bm h.2.1.bl h.2.1.bS h.1).mono ?_
        rintro e3 w3 ⟨rfl, hb3⟩
        exact ⟨rfl, HX.out (fun _ => False) W w3 h (Ch.of hb3) (fun k hk => hk.elim), Ch.of hb3⟩))
    have HC8 : Hid (Ch (fun k => k = rb ∨ k = qb) w w8) := HC7.out.trans (hC8.mono (fun k _ h => Or.inr (h.resolve_left (fun x => x))))
    have c8 := hJ8.2.1.bz.cell
    clear hL8 hI8 hJ8 hC8 HR2 HC7 c7
    go_wp2_with (fail)
    refine HR3.out.mono ?_
    rintro e9 w9 ⟨⟨v9, rfl⟩, o9, hL9, hI9, hJ9, hC9⟩
    have HEnd : Hid (Iq w9 qb n 0 (fe Bt Bf) (.slice (some ⟨sg, 0, none⟩) sn sc) o9 ∧ RL2 n m rb L f S fr Q E o9 w9 ∧ Ch (fun k => k = rb ∨ k = qb) w w9) := ⟨hI9, ⟨HE.out, fun h0 => by rw [HEp.out h0] at hL9; exact hL9, _, _, hJ9.1⟩, HC8.out.trans (hC9.mono (fun k _ h => Or.inr (h.resolve_left (fun x => x))))⟩
    clear hL9 hI9 hJ9 hC9 HR3 HC8 HE HEp c8
    go_wp2
    all_goals go_ret
    all_goals exact ⟨E, o9, rfl, HEnd.out⟩
end Au
end Go.Proofs.Ytcepfmeoeepjdab
