import Derived.Test.YtcepfmeoeepjdaaDsE
import Derived.Test.YtcepfmeoeepjdaaAuX
namespace Go.Proofs.Ytcepfmeoeepjdaa
namespace Au
open Go.RowKit
set_option linter.unusedVariables false
set_option maxRecDepth 8000
/-- Is rule 2 of ways broken, and rule 4? -/
def b2 (S : Nat → Nat → Int) (s v : Nat) : Bool := (v == s && (!(S v 0 == 0) || !(S v 2 == 0))) || (S v 0 == 9223372036854775807 && !(S v 2 == 0))
def b4 (S : Nat → Nat → Int) (s : Nat) (M : Nat → Bool) (v : Nat) : Bool := !(v == s) && (!(S v 0 == 9223372036854775807) && !M v)
def w01' (M : Nat → Bool) (v : Nat) : Int := if M v = true then 1 else 0
/-- The room as truths, and 99 behind. -/
def Mw (W : World) (rb n m : Nat) (M : Nat → Bool) : Prop := ∃ U, GU W rb m U ∧ (∀ v, v < n → U v = w01' M v) ∧ ∀ x, n ≤ x → x < m → U x = 99
theorem Mw.of {W W' : World} {rb n m : Nat} {M : Nat → Bool} (h : Mw W rb n m M) (e : W'.heap[rb]? = W.heap[rb]?) : Mw W' rb n m M := by
  obtain ⟨U, a, b⟩ := h
  exact ⟨U, a.of e, b⟩
theorem Mw.lt {W : World} {rb n m : Nat} {M : Nat → Bool} (h : Mw W rb n m M) : rb < W.heap.size := by
  obtain ⟨U, a, b⟩ := h
  exact a.lt
theorem Mw.cell {W : World} {rb n m : Nat} {M : Nat → Bool} (h : Mw W rb n m M) (hm : n ≤ m) (v : Nat) (hv : v < n) : W.cell? ⟨rb, v, none⟩ = some (.int .u64 (w01' M v)) := by
  obtain ⟨U, a, b, c⟩ := h
  rw [a.cell v (by omega), b v hv]
theorem GU.zeros {rb m : Nat} (l : Nat) : ∀ {W : World} {U : Nat → Int} (o : Nat), GU W rb m U → GU (W.setCells rb o (List.replicate l (.int .u64 0))) rb m (fun v => if o ≤ v ∧ v < o + l then 0 else U v) := by
  induction l with
  | zero => intro W U o h; exact h.ext (fun v hv => by rw [if_neg (by omega)])
  | succ l ih =>
    intro W U o h
    rw [List.replicate_succ]
    exact (ih (o + 1) (h.set o 0).1).ext (fun v hv => by
      by_cases e : v = o
      · subst e; rw [if_neg (by omega), if_pos (by omega), up_eq]
      · by_cases e2 : o + 1 ≤ v ∧ v < o + 1 + l
        · rw [if_pos e2, if_pos (by omega)]
        · rw [if_neg e2, if_neg (by omega), up_ne _ _ _ _ e])
theorem clear_gu (n m rb : Nat) (U : Nat → Int) (hm : n ≤ m) (hn : 0 < n) (w : World) (h : GU w rb m U) (ty : TypeId) : (Builtin.clear_ #[32] ty #[.slice (some ⟨rb, 0, none⟩) n n]).run Try.prog w = .ok (.tuple #[]) (w.setCells rb 0 (List.replicate n (.int .u64 0))) :=
  Lib.run_clear_slice w 32 28 ty (.int .u64 0) Try.underlying32 (fun w => Try.zeroValue28 w) rfl rfl rb 0 n n hn (fun j hj => by rw [Nat.zero_add, h.cell j (by omega)]; rfl) (fun j hj => h.fz _)
def o3 (k : Int) (S : Nat → Nat → Int) (L : List T3) (v : Nat) : Bool := L.any (s3E k S v)
def h4 (k : Int) (S : Nat → Nat → Int) (L : List T3) (v : Nat) : Bool := L.any (s4E k S v)
theorem o3_app (k : Int) (S : Nat → Nat → Int) (L : List T3) (e : T3) (v : Nat) : o3 k S (L ++ [e]) v = (o3 k S L v || s3E k S v e) := by simp [o3]
theorem h4_app (k : Int) (S : Nat → Nat → Int) (L : List T3) (e : T3) (v : Nat) : h4 k S (L ++ [e]) v = (h4 k S L v || s4E k S v e) := by simp [h4]
theorem s3_ne {k : Int} {S : Nat → Nat → Int} {v : Nat} {e : T3} (h : v ≠ e.2.1) : s3E k S v e = false := by
  unfold s3E
  rw [show (e.2.1 == v) = false by simpa using fun q => h q.symm]; rfl
theorem s4_ne {k : Int} {S : Nat → Nat → Int} {v : Nat} {e : T3} (h : v ≠ e.2.1) : s4E k S v e = false := by
  unfold s4E
  rw [show (e.2.1 == v) = false by simpa using fun q => h q.symm]; rfl
/-- What all rules of ways ask. -/
def PW (k : Int) (S : Nat → Nat → Int) (s n : Nat) (L : List T3) (a b : Nat) : Prop := (b = 3 ∧ a < n ∧ o3 k S L a = true) ∨ (b = 2 ∧ a < n ∧ b2 S s a = true) ∨ (b = 4 ∧ a < n ∧ b4 S s (h4 k S L) a = true)
set_option maxHeartbeats 4000000 in
theorem rule105 (n rb qb db s sg sn sc v : Nat) (kd : Int) (ed : Value) (o : Vd) (S : Nat → Nat → Int) (hv : v < n) (hs : n ≤ sn) (hn : n ≤ 5000) (hs0 : s < n) (w : World) (hI : Iq w qb n kd ed (.slice (some ⟨sg, 0, none⟩) sn sc) o) (hd : D3 w db qb s rb n) (hS : SR w sg sn S) :
    Calls Try.prog 105 #[.int .u32 (v : Int), .pointer (some ⟨db, 0, none⟩)] w fun e w' => e = .returned (.bool (b2 S s v)) ∧ Below w.heap.size w w' := by
  obtain ⟨d0, d1, d2⟩ := hd.c
  have q3 := hI.c.2.2.2.1
  have k8 := hS.k8 v (by omega)
  have l1 := hd.lt
  obtain ⟨u, hu⟩ : ∃ u, S v = u := ⟨_, rfl⟩
  have hb : b2 S s v = ((v == s && (!(u 0 == 0) || !(u 2 == 0))) || (u 0 == 9223372036854775807 && !(u 2 == 0))) := by unfold b2; rw [hu]
  rw [hu] at k8
  obtain ⟨c0, c1, c2, c3, c4, c5, c6, c7⟩ := k8
  have HB : Hid (∀ C, Below w.heap.size w (w.alloc (.cells C 63))) := fun C => b1 _ _ _
  have hvs : v < sn := by omega
  clear hu hI hd hS
  obtain ⟨β, hβ⟩ : ∃ β, b2 S s v = β := ⟨_, rfl⟩
  rw [hβ]
  rw [hβ] at hb
  have HBe := hide hb
  clear hb hβ
  have main : ∀ a1 a2 a3 a4 : Bool, ((v : Int) == (s : Int)) = a1 → (u 0 == 0) = a2 → (u 0 == 9223372036854775807) = a3 → (u 2 == 0) = a4 → Calls Try.prog 105 #[.int .u32 (v : Int), .pointer (some ⟨db, 0, none⟩)] w fun e w' => e = .returned (.bool ((a1 && (!a2 || !a4)) || (a3 && !a4))) ∧ Below w.heap.size w w' := by
    intro a1 a2 a3 a4 h1 h2 h3 h4
    have h2' : (u 0 != 0) = !a2 := by rw [← h2]; rfl
    have h4' : (u 2 != 0) = !a4 := by rw [← h4]; rfl
    clear HBe
    cases a1 <;> cases a2 <;> cases a3 <;> cases a4
    all_goals simp only [Bool.not_true, Bool.not_false] at h2' h4'
    all_goals go_enter Try.func105, Try.ntmps105
    all_goals go_wp2
    all_goals go_ret
    all_goals exact ⟨rfl, HB.out _⟩
  have h1 : ((v : Int) == (s : Int)) = (v == s) := by
    by_cases e : v = s
    · subst e; rw [beq_self_eq_true, beq_self_eq_true]
    · have e1 : ((v : Int) == (s : Int)) = false := by simp; omega
      rw [e1, show (v == s) = false by simpa using e]
  have := main _ _ _ _ h1 rfl rfl rfl
  rw [HBe.out]
  exact this
set_option maxHeartbeats 4000000 in
theorem rule106 (n m rb qb db s sg sn sc v : Nat) (kd : Int) (ed : Value) (o : Vd) (S : Nat → Nat → Int) (M : Nat → Bool) (hv : v < n) (hs : n ≤ sn) (hm : n ≤ m) (hn : n ≤ 5000) (hs0 : s < n) (w : World) (hI : Iq w qb n kd ed (.slice (some ⟨sg, 0, none⟩) sn sc) o) (hd : D3 w db qb s rb n) (hS : SR w sg sn S) (hM : Mw w rb n m M) :
    Calls Try.prog 106 #[.int .u32 (v : Int), .pointer (some ⟨db, 0, none⟩)] w fun e w' => e = .returned (.bool (b4 S s M v)) ∧ w' = w := by
  obtain ⟨d0, d1, d2⟩ := hd.c
  have q3 := hI.c.2.2.2.1
  have c0 := hS.c v (by omega) 0 (by decide)
  rw [Nat.add_zero] at c0
  obtain ⟨u, hu⟩ : ∃ u, S v 0 = u := ⟨_, rfl⟩
  have cm := hM.cell hm v hv
  obtain ⟨q, hq⟩ : ∃ q, w01' M v = q := ⟨_, rfl⟩
  have hqm : (q == 0) = !M v := by rw [← hq]; unfold w01'; cases M v <;> rfl
  rw [hq] at cm
  rw [hu] at c0
  have hb : b4 S s M v = (!(v == s) && (!(u == 9223372036854775807) && (q == 0))) := by unfold b4; rw [hu, hqm]
  have hvs : v < sn := by omega
  rw [hb]
  clear hu hI hd hS hM hq hqm hb
  have main : ∀ a1 a2 a3 : Bool, ((v : Int) != (s : Int)) = a1 → (u != 9223372036854775807) = a2 → (q == 0) = a3 → Calls Try.prog 106 #[.int .u32 (v : Int), .pointer (some ⟨db, 0, none⟩)] w fun e w' => e = .returned (.bool (a1 && (a2 && a3))) ∧ w' = w := by
    intro a1 a2 a3 h1 h2 h3
    cases a1 <;> cases a2 <;> cases a3
    all_goals go_enter Try.func106, Try.ntmps106
    all_goals go_wp2
    all_goals go_ret
    all_goals exact ⟨rfl, rfl⟩
  have h1 : ((v : Int) != (s : Int)) = !(v == s) := by
    by_cases e : v = s
    · subst e; simp
    · have e1 : ((v : Int) != (s : Int)) = true := by simp; omega
      rw [e1, show (v == s) = false by simpa using e]; rfl
  exact main _ _ _ h1 rfl rfl
theorem enters102 (A : Array Value) (W : World) : (callFunc 102 A).run Try.prog W = .ok (.enter 102 A) W := enters_of Try.func102 (by kernel_rfl) rfl A W
theorem enters105 (A : Array Value) (W : World) : (callFunc 105 A).run Try.prog W = .ok (.enter 105 A) W := enters_of Try.func105 (by kernel_rfl) rfl A W
theorem enters106 (A : Array Value) (W : World) : (callFunc 106 A).run Try.prog W = .ok (.enter 106 A) W := enters_of Try.func106 (by kernel_rfl) rfl A W
/-- What a look at ways ends with. -/
def WY (n m rb s : Nat) (kd : Int) (L : List T3) (f : Int) (S : Nat → Nat → Int) (P : Nat → Nat → Prop) (E : Int) (o : Vd) (W : World) : Prop := E = fa n kd L f ∧ (E = 0 → Lm (fun a b => P a b ∨ PW kd S s n L a b) o) ∧ ∃ M, Mw W rb n m M
set_option maxHeartbeats 8000000 in
theorem ways_any (n m rb qb s sg sn sc Bt Bf g : Nat) (kd : Int) (L : List T3) (f : Int) (o : Vd) (P : Nat → Nat → Prop) (S : Nat → Nat → Int) (U0 : Nat → Int) (hk : kd ≠ 3) (hs0 : s < n) (hs : n ≤ sn) (hsr : ∀ v, v < n → ∀ i, i < 8 → 0 ≤ S v i ∧ S v i < 18446744073709551616) (hm : n ≤ m) (hn : n ≤ 5000) (hlen : L.length ≤ 140737488351232) (w : World)
    (hQ : Iq w qb n kd (fe Bt Bf) (.slice (some ⟨sg, 0, none⟩) sn sc) o) (hL : Lm P o) (hG : GU w rb m U0) (hU0 : ∀ x, n ≤ x → x < m → U0 x = 99) (hF : Fd w g Bt Bf L f) (hS : SR w sg sn S) (r1 : rb ≠ g) (r2 : rb ≠ Bt) (r3 : rb ≠ Bf) (r6 : rb ≠ qb) (q1 : qb ≠ g) (q2 : qb ≠ Bt) (q3 : qb ≠ Bf) (r5 : sg ≠ rb) (q5 : sg ≠ qb) :
    Calls Try.prog 77 #[d3v qb s rb n] w fun e w' => ∃ E o', e = .returned (.int .i64 E) ∧ Iq w' qb n kd (fe Bt Bf) (.slice (some ⟨sg, 0, none⟩) sn sc) o' ∧ WY n m rb s kd L f S P E o' w' ∧ Ch (fun k => k = rb ∨ k = qb) w w' := by
  have hGl := hG.lt
  have hQl := hQ.lt
  obtain ⟨w2, hw2⟩ : ∃ w2, w.alloc (.cells #[.pointer (some ⟨qb, 0, none⟩), .int .u32 (s : Int), .slice (some ⟨rb, 0, none⟩) n n] 103) = w2 := ⟨_, rfl⟩
  have hB : Below w.heap.size w w2 := by rw [← hw2]; exact b1 _ _ _
  have hd : D3 w2 w.heap.size qb s rb n := by rw [← hw2]; exact at0 _ _
  obtain ⟨db, hdb⟩ : ∃ db, db = w.heap.size := ⟨_, rfl⟩
  rw [← hdb] at hd
  have hG2 : GU w2 rb m U0 := hG.on hB
  have hcl := clear_gu n m rb U0 hm (by omega) w2 hG2
  obtain ⟨w3, hw3⟩ : ∃ w3, w2.setCells rb 0 (List.replicate n (.int .u64 0)) = w3 := ⟨_, rfl⟩
  rw [hw3] at hcl
  have hC3 : Ch (fun k => k = rb) w2 w3 := by rw [← hw3]; exact Ch.zeros (X := fun k => k = rb) rfl n 0 (Ch.refl _ _)
  have hP3 : Mw w3 rb n m (h4 kd S []) := by
    rw [← hw3]
    exact ⟨_, hG2.zeros n 0, fun v hv => by rw [if_pos (by omega)]; rfl, fun x h1 h2 => by rw [if_neg (by omega)]; exact hU0 x h1 h2⟩
  have hdl := hd.lt
  have hs2 := hB.size
  have hQ2 : Iq w2 qb n kd (fe Bt Bf) (.slice (some ⟨sg, 0, none⟩) sn sc) o := (hB.block _ hQl).trans hQ
  have hS2 : SR w2 sg sn S := hS.of (hB.block _ hS.lt)
  have hd3 : D3 w3 db qb s rb n := hd.of (hC3.block _ hdl (by omega))
  have hS3 : SR w3 sg sn S := hS2.of (hC3.block _ hS2.lt r5)
  have hQ3 : Iq w3 qb n kd (fe Bt Bf) (.slice (some ⟨sg, 0, none⟩) sn sc) o := (hC3.block _ hQ2.lt (fun e => r6 e.symm)).trans hQ2
  have hF3 := (hF.on (X := fun _ => False) (Ch.of hB) (fun h => h) (fun h => h) (fun h => h)).on hC3 (fun e => r1 e.symm) (fun e => r2 e.symm) (fun e => r3 e.symm)
  have hCw : Ch (fun k => k = rb ∨ k = qb) w w3 := (Ch.of hB).trans (hC3.mono (fun k _ h => Or.inl h))
  have l3 := hP3.lt
  have l4 := hQ3.lt
  have l5 := hd3.lt
  have l6 := hS3.lt
  have HO := hide (over_any qb n g Bt Bf 102 kd (.slice (some ⟨sg, 0, none⟩) sn sc) #[.pointer (some ⟨db, 0, none⟩)] L f (fun k => k = rb ∨ k = qb)
    (fun pre W => Mw W rb n m (h4 kd S pre) ∧ (∃ o, Lm (fun a b => P a b ∨ (b = 3 ∧ a < n ∧ o3 kd S pre a = true)) o ∧ Iq W qb n kd (fe Bt Bf) (.slice (some ⟨sg, 0, none⟩) sn sc) o) ∧ D3 W db qb s rb n ∧ SR W sg sn S) hk hlen w3 enters102 hF3 (by omega) (by omega) (by omega) (fun k hk => by omega)
    (fun pre W h => by obtain ⟨_, ⟨o, _, b⟩, _⟩ := h; exact ⟨o, b⟩)
    (fun pre W W' h hk => by
      obtain ⟨a, ⟨o, b, b'⟩, c, d⟩ := h
      exact ⟨a.of (hk rb l3), ⟨o, b, (hk qb l4).trans b'⟩, c.of (hk db l5), d.of (hk sg l6)⟩)
    (fun pre e W hp hbad h hsz => by
      obtain ⟨⟨U, a, a1, a2⟩, ⟨o, b, b'⟩, c, d⟩ := h
      obtain ⟨hx, hy, _⟩ := bad_ok hbad
      refine (see102 n m rb qb db s sg sn sc e.1 e.2.1 e.2.2 kd _ o S U hx hy hs hsr hm hn W a b' c d (by omega) (by omega) r5 q5 r6).mono ?_
      rintro r W2 ⟨hv2, p1, p2, p3⟩
      refine ⟨hv2, ⟨⟨_, p1, fun v hv => ?_, fun x h1 h2 => ?_⟩, ⟨_, ?_, p2⟩, c.of (p3.block _ c.lt (by omega)), d.of (p3.block _ d.lt (by omega))⟩, p3⟩
      · unfold w01'
        rw [h4_app]
        by_cases ev : v = e.2.1
        · subst ev
          cases h9 : s4E kd S e.2.1 e with
          | true => rw [if_pos rfl, up_eq]; simp
          | false => rw [if_neg (by simp), a1 _ hv]; unfold w01'; simp
        · rw [s4_ne ev, Bool.or_false]
          have : (if s4E kd S e.2.1 (e.1, e.2.1, e.2.2) = true then up U e.2.1 1 else U) v = U v := by
            split
            · exact up_ne _ _ _ _ ev
            · rfl
          rw [this, a1 _ hv]; rfl
      · have : (if s4E kd S e.2.1 (e.1, e.2.1, e.2.2) = true then up U e.2.1 1 else U) x = U x := by
          split
          · exact up_ne _ _ _ _ (by omega)
          · rfl
        rw [this]; exact a2 x h1 h2
      · cases h9 : s3E kd S e.2.1 (e.1, e.2.1, e.2.2) with
        | true =>
          rw [if_pos rfl]
          refine (b.nt e.2.1 3).ext (fun u r => ?_)
          rw [o3_app]
          constructor
          · rintro ((x1 | ⟨x1, x2, x3⟩) | ⟨x1, x2⟩)
            · exact .inl x1
            · exact .inr ⟨x1, x2, by rw [x3]; rfl⟩
            · subst x1; exact .inr ⟨x2, hy, by rw [show s3E kd S e.2.1 e = true from h9]; simp⟩
          · rintro (x1 | ⟨x1, x2, x3⟩)
            · exact .inl (.inl x1)
            · by_cases eu : u = e.2.1
              · exact .inr ⟨eu, x1⟩
              · rw [s3_ne eu, Bool.or_false] at x3
                exact .inl (.inr ⟨x1, x2, x3⟩)
        | false =>
          rw [if_neg (by simp)]
          refine b.ext (fun u r => ?_)
          rw [o3_app]
          by_cases eu : u = e.2.1
          · subst eu; rw [show s3E kd S e.2.1 e = false from h9, Bool.or_false]
          · rw [s3_ne eu, Bool.or_false])
    ⟨hP3, ⟨o, hL.ext (fun a b => ⟨Or.inl, fun h => by rcases h with h | ⟨_, _, h⟩; exact h; simp [o3] at h⟩), hQ3⟩, hd3, hS3⟩)
  obtain ⟨z0, z1, z2⟩ := hd3.c
  obtain ⟨y0, y1, y2⟩ := hd.c
  have HCw := hide hCw
  have HQl := hide hQl
  have HGl := hide hGl
  have Hdb := hide hdb
  have HW2 := hide hw2
  rw [← hw2] at y2 hcl
  rw [hdb] at y2 z0
  clear hQ hL hG hU0 hF hS hB hd hG2 hC3 hP3 hQ2 hS2 hd3 hS3 hQ3 hF3 hCw l3 l4 l5 l6 hw2 hw3 hGl hQl hdl hs2 hdb y0 y1 z1 z2
  go_enter Try.func77, Try.ntmps77
  go_wp2_with (fail)
  rw [← Hdb.out]
  clear HW2 y2 hcl z0
  refine HO.out.mono ?_
  rintro e5 w5 ⟨E, rfl, hE, hC5, hJ⟩
  obtain ⟨pre, o5, hEp, hP5, hL5, hQ5, hd5, hS5⟩ : ∃ pre o5, (E = 0 → pre = L) ∧ Mw w5 rb n m (h4 kd S pre) ∧ Lm (fun a b => P a b ∨ (b = 3 ∧ a < n ∧ o3 kd S pre a = true)) o5 ∧ Iq w5 qb n kd (fe Bt Bf) (.slice (some ⟨sg, 0, none⟩) sn sc) o5 ∧ D3 w5 db qb s rb n ∧ SR w5 sg sn S := by
    rcases hJ with ⟨h0, a, ⟨o, b, b'⟩, c, d⟩ | ⟨h0, pre, a, ⟨o, b, b'⟩, c, d⟩
    · exact ⟨L, o, fun _ => rfl, a, b, b', c, d⟩
    · exact ⟨pre, o, fun h => absurd h h0, a, b, b', c, d⟩
  have hrd : rb ≠ db := by have := HGl.out; have := Hdb.out; omega
  have hqd : qb ≠ db := by have := HQl.out; have := Hdb.out; omega
  have HR1 := hide (rule_any qb n 2 105 kd (fe Bt Bf) (.slice (some ⟨sg, 0, none⟩) sn sc) o5 #[.pointer (some ⟨db, 0, none⟩)] (b2 S s) _ (fun k => False) (fun W => Mw W rb n m (h4 kd S pre) ∧ D3 W db qb s rb n ∧ SR W sg sn S) (by omega) w5 enters105 hQ5 ⟨hP5, hd5, hS5⟩ (fun h => h)
    (fun W W' h hc => ⟨h.1.of (hc.block _ h.1.lt (by omega)), h.2.1.of (hc.block _ h.2.1.lt (by omega)), h.2.2.of (hc.block _ h.2.2.lt (by omega))⟩) hL5
    (fun v W hv h hI => by
      refine (rule105 n rb qb db s sg sn sc v kd _ _ S hv hs hn hs0 W hI h.2.1 h.2.2).mono ?_
      rintro e W' ⟨rfl, hb⟩
      exact ⟨rfl, ⟨h.1.of (hb.block _ h.1.lt), h.2.1.of (hb.block _ h.2.1.lt), h.2.2.of (hb.block _ h.2.2.lt)⟩, Ch.of hb⟩))
  have HE := hide hE
  have HEp := hide hEp
  have HC5 := hide (HCw.out.trans hC5)
  obtain ⟨z0, z1, z2⟩ := hd5.c
  clear hE hEp hC5 hJ hP5 hL5 hQ5 hd5 hS5 HO HCw z1 z2
  go_wp2_with (fail)
  refine HR1.out.mono ?_
  rintro e6 w6 ⟨⟨v6, rfl⟩, o6, hL6, hQ6, hJ6, hC6⟩
  have HR2 := hide (rule_any qb n 4 106 kd (fe Bt Bf) (.slice (some ⟨sg, 0, none⟩) sn sc) o6 #[.pointer (some ⟨db, 0, none⟩)] (b4 S s (h4 kd S pre)) _ (fun k => False) (fun W => Mw W rb n m (h4 kd S pre) ∧ D3 W db qb s rb n ∧ SR W sg sn S) (by omega) w6 enters106 hQ6 hJ6 (fun h => h)
    (fun W W' h hc => ⟨h.1.of (hc.block _ h.1.lt (by omega)), h.2.1.of (hc.block _ h.2.1.lt (by omega)), h.2.2.of (hc.block _ h.2.2.lt (by omega))⟩) hL6
    (fun v W hv h hI => by
      refine (rule106 n m rb qb db s sg sn sc v kd _ _ S (h4 kd S pre) hv hs hm hn hs0 W hI h.2.1 h.2.2 h.1).mono ?_
      rintro e W' ⟨rfl, rfl⟩
      exact ⟨rfl, h, Ch.refl _ W'⟩))
  have HC6 : Hid (Ch (fun k => k = rb ∨ k = qb) w w6) := HC5.out.trans (hC6.mono (fun k _ h => h.elim (fun h => absurd h (fun h => h)) Or.inr))
  obtain ⟨y0, y1, y2⟩ := hJ6.2.1.c
  clear hL6 hQ6 hJ6 hC6 HR1 HC5 z0 y1 y2
  go_wp2_with (fail)
  refine HR2.out.mono ?_
  rintro e7 w7 ⟨⟨v7, rfl⟩, o7, hL7, hQ7, hJ7, hC7⟩
  have HEnd : Hid (Iq w7 qb n kd (fe Bt Bf) (.slice (some ⟨sg, 0, none⟩) sn sc) o7 ∧ WY n m rb s kd L f S P E o7 w7 ∧ Ch (fun k => k = rb ∨ k = qb) w w7) := by
    refine ⟨hQ7, ⟨HE.out, fun h0 => ?_, _, hJ7.1⟩, HC6.out.trans (hC7.mono (fun k _ h => h.elim (fun h => absurd h (fun h => h)) Or.inr))⟩
    obtain rfl := HEp.out h0
    refine hL7.ext (fun a b => ?_)
    unfold PW
    constructor
    · rintro (((h | h) | h) | h)
      · exact .inl h
      · exact .inr (.inl h)
      · exact .inr (.inr (.inl h))
      · exact .inr (.inr (.inr h))
    · rintro (h | h | h | h)
      · exact .inl (.inl (.inl h))
      · exact .inl (.inl (.inr h))
      · exact .inl (.inr h)
      · exact .inr h
  clear hL7 hQ7 hJ7 hC7 HR2 HC6 y0 HE HEp
  go_wp2
  all_goals go_ret
  all_goals exact ⟨E, o7, rfl, HEnd.out⟩
end Au
end Go.Proofs.Ytcepfmeoeepjdaa
