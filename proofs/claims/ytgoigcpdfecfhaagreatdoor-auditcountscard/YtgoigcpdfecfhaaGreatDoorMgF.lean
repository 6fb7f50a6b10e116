import Derived.Test.YtgoigcpdfecfhaaGreatDoorMgE
namespace Go.Proofs.YtgoigcpdfecfhaaGreatDoor
namespace Au
open Go.RowKit
set_option linter.unusedVariables false
set_option maxRecDepth 8000
theorem i64w (n : Nat) (h : n < 9000000000000000000) : IntKind.i64.wrap (n : Int) = n := by simp only [IntKind.wrap, IntKind.signed, IntKind.bits]; simp; omega
theorem ct_room (c : Cs) : min (max c.room 0) 5000 = (rm c : Int) := by
  have := (rm_b c).2
  unfold ct at this
  omega
theorem wp_cut {P : Program} {c : Code} {Q : Exit → Act → World → Prop} {a : Act} {w : World} (T : World → Prop) (A1 : Act)
    (h : c.wp P (fun e a' w' => match e with | .normal => a' = A1 ∧ T w' | _ => False) a w) (hq : ∀ w', T w' → Q .normal A1 w') : c.wp P Q a w := by
  refine Code.wp_mono ?_ h
  intro e a' w' hh
  cases e with
  | normal => obtain ⟨rfl, ht⟩ := hh; exact hq w' ht
  | _ => exact hh.elim
set_option maxHeartbeats 4000000 in
theorem asked_any (c : Cs) (made kd : Int) (n p : Nat) (L : List T3) (hL : c.en = L.length) (hp : p ≤ 2) (hn : n < 4294967296) (hs : c.sn ≤ 140737488351232) (hl : L.length ≤ 140737488351232) (hk : kd = 0 ∨ kd = 1 ∨ kd = 2 ∨ made ≠ 0) (w : World) (hE : Row3 .u32 w c.ea L) :
    Calls Tryz.prog 11 #[.agg (cb c), .int .i64 made, .int .u32 (n : Int), .int .i64 ((p * n : Nat) : Int), .int .i64 kd] w fun e w' => e = .returned (.int .i64 (dk made n c.sn (rm c) p kd L (ct 0 200 c.bh))) ∧ Below w.heap.size w w' := by
  obtain ⟨w0, hw0⟩ : ∃ w0, (w.alloc (.cells (cb c) 30)) = w0 := ⟨_, rfl⟩
  have hB0 : Below w.heap.size w w0 := by rw [← hw0]; exact b1 _ _ _
  have hc0 : Cb w0 w.heap.size c := by rw [← hw0]; exact at0 _ _
  have HS : Hid (K14 w.heap.size c w0.drew) := hc0.k
  have HK : Hid (∀ o, K14 w.heap.size c (w0.alloc o).drew) := fun o => (show Cb (w0.alloc o) w.heap.size c from keep o hc0).k
  have HBh := hide (behind_any c)
  have HNm := hide num_any
  have hB1 : ∀ o, Below w.heap.size w (w0.alloc o).drew := fun o => belowD (bA hB0 hB0.size o)
  have HB1 := hide hB1
  have HA : Hid (∀ o f, Calls Tryz.prog 42 #[.int .i64 made, .int .u32 (n : Int), .int .i64 (c.sn : Int), .int .i64 (rm c : Int), .int .i64 ((p * n : Nat) : Int), .int .i64 kd, .slice c.ea c.en c.ec, .int .i64 f] (w0.alloc o).drew fun e w' => e = .returned (.int .i64 (dk made n c.sn (rm c) p kd L f)) ∧ w' = (w0.alloc o).drew) := fun o f => by
    rw [hL]
    exact ask_any n c.sn (rm c) p c.ec made kd f c.ea L hp hn hs (rm_b c).1 hl hk _ (hE.on (hB1 o) (Nat.le_refl _))
  obtain ⟨pn, hpn⟩ : ∃ pn : Int, ((p * n : Nat) : Int) = pn := ⟨_, rfl⟩
  rw [hpn] at HA ⊢
  have HW0 := hide hw0
  have hsn := hide hs
  have hr2 := (rm_b c).2
  obtain ⟨m, hm⟩ : ∃ m, rm c = m := ⟨_, rfl⟩
  rw [hm] at hr2 HA ⊢
  have hd : c.room < 0 ∧ m = 0 ∨ 5000 < c.room ∧ m = 5000 ∨ (0 ≤ c.room ∧ c.room ≤ 5000 ∧ c.room = m) := by unfold ct at hr2; split at hr2 <;> (try split at hr2) <;> omega
  obtain ⟨D, hD⟩ : ∃ D, dk made n c.sn m p kd L (ct 0 200 c.bh) = D := ⟨_, rfl⟩
  have HA : Hid (∀ o (x : Int), x = (m : Int) → Calls Tryz.prog 42 #[.int .i64 made, .int .u32 (n : Int), .int .i64 (c.sn : Int), .int .i64 x, .int .i64 pn, .int .i64 kd, .slice c.ea c.en c.ec, .int .i64 (ct 0 200 c.bh)] (w0.alloc o).drew fun e w' => e = .returned (.int .i64 D) ∧ w' = (w0.alloc o).drew) := fun o x hx => by rw [← hD, hx]; exact HA.out o _
  rw [hD]
  clear hw0 hB0 hc0 hB1 hE hL hpn hr2 hm hD hk hp hs
  rcases hd with hd | hd | hd
  · obtain ⟨h1, h3⟩ := hd
    go_enter Tryz.func11, Tryz.ntmps11
    go_wp2_with (fail)
    rw [HW0.out]
    apply wp_cut (fun w' => w' = (w0.alloc (.cells (cb c) 30)).drew)
    case h =>
      go_region_held3 (K14 w.heap.size c) ((first | with_reducible exact HS.out | with_reducible exact HK.out _)) ((first | (go_at_call 10; refine (HBh.out _).mono ?_; rintro e1 w1 ⟨rfl, rfl⟩) | (go_at_call 28; refine (HNm.out _ _).mono ?_; rintro e1 w1 ⟨rfl, rfl⟩) | (go_at_call 42; refine (HA.out _ _ (by omega)).mono ?_; rintro e1 w1 ⟨rfl, rfl⟩)))
      all_goals exact ⟨rfl, rfl⟩
    case hq =>
      rintro w1 rfl
      go_wp2
      all_goals go_ret
      all_goals exact ⟨rfl, HB1.out _⟩
  · obtain ⟨h1, h3⟩ := hd
    have h2 : ¬ c.room < 0 := by omega
    go_enter Tryz.func11, Tryz.ntmps11
    go_wp2_with (fail)
    rw [HW0.out]
    apply wp_cut (fun w' => w' = (w0.alloc (.cells (cb c) 30)).drew)
    case h =>
      go_region_held3 (K14 w.heap.size c) ((first | with_reducible exact HS.out | with_reducible exact HK.out _)) ((first | (go_at_call 10; refine (HBh.out _).mono ?_; rintro e1 w1 ⟨rfl, rfl⟩) | (go_at_call 28; refine (HNm.out _ _).mono ?_; rintro e1 w1 ⟨rfl, rfl⟩) | (go_at_call 42; refine (HA.out _ _ (by omega)).mono ?_; rintro e1 w1 ⟨rfl, rfl⟩)))
      all_goals exact ⟨rfl, rfl⟩
    case hq =>
      rintro w1 rfl
      go_wp2
      all_goals go_ret
      all_goals exact ⟨rfl, HB1.out _⟩
  · obtain ⟨h1, h2, h3⟩ := hd
    have h4 : ¬ c.room < 0 := by omega
    have h5 : ¬ 5000 < c.room := by omega
    have H3 := hide h3
    clear h3
    go_enter Tryz.func11, Tryz.ntmps11
    go_wp2_with (fail)
    rw [HW0.out]
    apply wp_cut (fun w' => w' = (w0.alloc (.cells (cb c) 30)).drew)
    case h =>
      go_region_held3 (K14 w.heap.size c) ((first | with_reducible exact HS.out | with_reducible exact HK.out _)) ((first | (go_at_call 10; refine (HBh.out _).mono ?_; rintro e1 w1 ⟨rfl, rfl⟩) | (go_at_call 28; refine (HNm.out _ _).mono ?_; rintro e1 w1 ⟨rfl, rfl⟩) | (go_at_call 42; refine (HA.out _ _ (by have := H3.out; omega)).mono ?_; rintro e1 w1 ⟨rfl, rfl⟩)))
      all_goals exact ⟨rfl, rfl⟩
    case hq =>
      rintro w1 rfl
      go_wp2
      all_goals go_ret
      all_goals exact ⟨rfl, HB1.out _⟩
end Au
end Go.Proofs.YtgoigcpdfecfhaaGreatDoor
namespace Go.Proofs.YtgoigcpdfecfhaaGreatDoor
namespace Au
open Go.RowKit
set_option linter.unusedVariables false
set_option maxRecDepth 8000
theorem SR.mono {w : World} {b n m : Nat} {S T : Nat → Nat → Int} (h : SR w b n S) (hm : m ≤ n) (e : ∀ v, v < m → S v = T v) : SR w b m T := by
  obtain ⟨C, a, b⟩ := h
  exact ⟨C, a, fun v hv i hi => by rw [← e v hv]; exact b v (by omega) i hi⟩
theorem mk_self (n : Nat) (S : Nat → Nat → Int) (v : Nat) (hv : v < n) : mk n n S v = S v := by unfold mk; rw [if_pos hv, if_pos hv]
theorem AL.one {n : Nat} {L : List T3} {S : Nat → Nat → Int} {o o' : Vd} (h : AL n L S o) (h' : AL n L S o') : o = o' := by
  obtain ⟨U, ro, a, b⟩ := h
  obtain ⟨U', ro', a', b'⟩ := h'
  refine b.one (b'.ext (fun v r => ?_))
  constructor
  · rintro ⟨p, q, x⟩; exact ⟨p, q, by rw [a.one a' v q]; exact x⟩
  · rintro ⟨p, q, x⟩; exact ⟨p, q, by rw [← a.one a' v q]; exact x⟩
/-- What is told does not hang on the call. -/
theorem one_of {P : Vd → Prop} (D : Int) (h1 : ∀ o o', P o → P o' → o = o') : ∃ o, ∀ E o', E = D → (E = 0 → P o') → vx E o' = vx D o ∧ (E = 0 → P o) := by
  by_cases h : ∃ o, P o
  · obtain ⟨o, ho⟩ := h
    refine ⟨o, fun E o' hE hp => ⟨?_, fun _ => ho⟩⟩
    subst hE
    by_cases h0 : E = 0
    · rw [h1 _ _ (hp h0) ho]
    · unfold vx; rw [if_neg h0, if_neg h0]
  · refine ⟨none, fun E o' hE hp => ⟨?_, fun h0 => absurd ⟨_, hp h0⟩ h⟩⟩
    subst hE
    by_cases h0 : E = 0
    · exact absurd ⟨_, hp h0⟩ h
    · unfold vx; rw [if_neg h0, if_neg h0]
theorem fa_good {n : Nat} {kd : Int} {L : List T3} {f : Int} (hf : 0 ≤ f) (h : fa n kd L f = 0) : ∀ e ∈ L, e.1 < n ∧ e.2.1 < n := by
  induction L with
  | nil => intro e he; cases he
  | cons x L ih =>
    unfold fa at h
    by_cases hb : bad n kd x = 0
    · rw [if_pos hb] at h
      intro e he
      rcases List.mem_cons.1 he with k | k
      · rw [k]; obtain ⟨a, b, _⟩ := bad_ok hb; exact ⟨a, b⟩
      · exact ih h e k
    · rw [if_neg hb] at h; exact absurd h hb
end Au
end Go.Proofs.YtgoigcpdfecfhaaGreatDoor
namespace Go.Proofs.YtgoigcpdfecfhaaGreatDoor
namespace Au
open Go.RowKit
set_option linter.unusedVariables false
set_option maxRecDepth 8000
theorem bA2 {w w' : World} (h : Below w.heap.size w w') (o : Obj) : Below w.heap.size w (w'.alloc o) := bA h h.size o
theorem Fd.al {w : World} {g Bt Bf : Nat} {L : List T3} {f : Int} (h : Fd w g Bt Bf L f) (o : Obj) : Fd (w.alloc o) g Bt Bf L f := h.of (Below.heap_alloc _ _ _ h.lt.1) (Below.heap_alloc _ _ _ h.lt.2.1) (Below.heap_alloc _ _ _ h.lt.2.2)
theorem z35 {vb : Nat} {w4 : World} (hz : w4.heap[vb]? = some (.cells #[.bool false, .int .u32 0, .int .i64 0] 35 (0, 0))) : w4.cell? ⟨vb, 0, none⟩ = some (.bool false) ∧ w4.cell? ⟨vb, 1, none⟩ = some (.int .u32 0) ∧ w4.cell? ⟨vb, 2, none⟩ = some (.int .i64 0) ∧ w4.frozen? ⟨vb, 0, none⟩ = false ∧ w4.frozen? ⟨vb, 1, none⟩ = false ∧ w4.frozen? ⟨vb, 2, none⟩ = false :=
  ⟨(cell_of_row _ _ _ _ _ _ hz).trans rfl, (cell_of_row _ _ _ _ _ _ hz).trans rfl, (cell_of_row _ _ _ _ _ _ hz).trans rfl, frozen_of_row _ _ _ _ _ hz, frozen_of_row _ _ _ _ _ hz, frozen_of_row _ _ _ _ _ hz⟩
abbrev Zc (w : World) (vb : Nat) : Prop := w.heap[vb]? = some (.cells #[.bool false, .int .u32 0, .int .i64 0] 35 (0, 0))
theorem z_a (w : World) (o : Obj) : Zc ((w.alloc (.cells #[.bool false, .int .u32 0, .int .i64 0] 35)).alloc o).drew w.heap.size := keep _ (at0 _ _)
theorem z_b (w : World) (o : Obj) : Zc ((w.alloc o).alloc (.cells #[.bool false, .int .u32 0, .int .i64 0] 35)).drew (w.heap.size + 1) := by
  have := at0 (w.alloc o) (.cells #[.bool false, .int .u32 0, .int .i64 0] 35)
  rw [World.size_alloc] at this
  exact this
theorem z_c (w : World) : Zc (w.alloc (.cells #[.bool false, .int .u32 0, .int .i64 0] 35)) w.heap.size := at0 _ _
theorem Zc.b {w w' : World} {vb : Nat} (h : Zc w vb) (hb : Below w.heap.size w w') : Zc w' vb := (hb.block _ (lt_of_some h)).trans h
theorem Zc.c {w w' : World} {vb rb : Nat} (h : Zc w vb) (hb : Ch (fun k => k = rb) w w') (hr : vb ≠ rb) : Zc w' vb := (hb.block _ (lt_of_some h) hr).trans h
theorem nevb {w : World} {vb b : Nat} {c : Cs} (h : Zc w vb) (hc : Cb w b c) : b ≠ vb := fun e => by
  subst e
  have h1 : w.heap[b]? = some (.cells (cb c) 30 (0, 0)) := hc
  rw [h] at h1
  simp at h1
theorem K14s {w : World} {b : Nat} {c : Cs} (h : Cb w b c) (vb : Nat) (hv : b ≠ vb) (x y z : Value) : K14 b c (((w.setCell ⟨vb, 0, none⟩ x).setCell ⟨vb, 1, none⟩ y).setCell ⟨vb, 2, none⟩ z) := (show Cb _ b c from (Below.heap_setCell _ _ _ _ hv).trans ((Below.heap_setCell _ _ _ _ hv).trans ((Below.heap_setCell _ _ _ _ hv).trans h))).k
theorem wp_cutF {P : Program} {c : Code} {Q : Exit → Act → World → Prop} {a : Act} {w : World} (T : Nat → World → Prop) (A1 : Nat → Value → Act)
    (h : c.wp P (fun e a' w' => match e with | .normal => ∃ vb fv, a' = A1 vb fv ∧ T vb w' | _ => False) a w) (hq : ∀ vb fv w', T vb w' → Q .normal (A1 vb fv) w') : c.wp P Q a w := by
  refine Code.wp_mono ?_ h
  intro e a' w' hh
  cases e with
  | normal => obtain ⟨vb, fv, rfl, ht⟩ := hh; exact hq vb fv w' ht
  | _ => exact hh.elim
theorem c35 {w : World} {vb : Nat} {p q r : Value} (h : w.heap[vb]? = some (.cells #[p, q, r] 35 (0, 0))) : w.cell? ⟨vb, 0, none⟩ = some p ∧ w.cell? ⟨vb, 1, none⟩ = some q ∧ w.cell? ⟨vb, 2, none⟩ = some r :=
  ⟨(cell_of_row _ _ _ _ _ _ h).trans rfl, (cell_of_row _ _ _ _ _ _ h).trans rfl, (cell_of_row _ _ _ _ _ _ h).trans rfl⟩
/-- What stands behind an audit's call. -/
def T5 (w : World) (c : Cs) (sg rb need : Nat) (S : Nat → Nat → Int) (P : Prop) (b : Bool) (x y : Int) (vb : Nat) (w' : World) : Prop := w'.heap[vb]? = some (.cells #[.bool b, .int .u32 x, .int .i64 y] 35 (0, 0)) ∧ P ∧ Sp w' rb need (rm c) ∧ Cb w' w.heap.size c ∧ SR w' sg (c.sn + 2) (mk c.sn c.sn S) ∧ Below w.heap.size w w'
theorem T5.new {w w4 : World} {c : Cs} {sg rb need : Nat} {S : Nat → Nat → Int} {P : Prop} {b : Bool} {x y : Int} (hP : P) (h1 : Sp w4 rb need (rm c)) (h2 : Cb w4 w.heap.size c) (h3 : SR w4 sg (c.sn + 2) (mk c.sn c.sn S)) (h4 : Below w.heap.size w w4) : T5 w c sg rb need S P b x y w4.heap.size (w4.alloc (.cells #[.bool b, .int .u32 x, .int .i64 y] 35)) :=
  ⟨at0 _ _, hP, h1.of (Below.heap_alloc _ _ _ h1.lt), keep _ h2, h3.of (Below.heap_alloc _ _ _ h3.lt), bA2 h4 _⟩
theorem T5.old {w w4 : World} {c : Cs} {sg rb need vb : Nat} {S : Nat → Nat → Int} {P : Prop} {b : Bool} {x y : Int} (hz : Zc w4 vb) (hv : w.heap.size ≤ vb) (hP : P) (h1 : Sp w4 rb need (rm c)) (h2 : Cb w4 w.heap.size c) (h3 : SR w4 sg (c.sn + 2) (mk c.sn c.sn S)) (h4 : Below w.heap.size w w4) : T5 w c sg rb need S P b x y vb (((w4.setCell ⟨vb, 0, none⟩ (.bool b)).setCell ⟨vb, 1, none⟩ (.int .u32 x)).setCell ⟨vb, 2, none⟩ (.int .i64 y)) := by
  rw [sets3 hz rfl]
  have n1 : rb ≠ vb := fun e => by
    subst e
    obtain ⟨U, ⟨C, g, _⟩, _⟩ := h1
    rw [hz] at g; simp at g
  have n2 : sg ≠ vb := fun e => by
    subst e
    obtain ⟨C, g, _⟩ := h3
    rw [hz] at g; simp at g
  have n3 := nevb hz h2
  exact ⟨setRow_heap _ _ _ _ _ _ hz, hP, h1.of (setRow_other _ _ _ _ n1), (setRow_other _ _ _ _ n3).trans h2, h3.of (setRow_other _ _ _ _ n2), below_setRow h4 hv _⟩
theorem ret_t {x : Bool} (h : x = true) : Ending.returned (.bool x) = .returned (.bool true) := by rw [h]
end Au
end Go.Proofs.YtgoigcpdfecfhaaGreatDoor
