import Derived.Test.YtcepfmeoeepjdaaAuE
namespace Go.Proofs.Ytcepfmeoeepjdaa
namespace Au
open Go.RowKit
set_option linter.unusedVariables false
set_option maxRecDepth 8000
set_option maxHeartbeats 4000000 in
theorem rule_any (qb n r K : Nat) (kd : Int) (ed sl : Value) (o : Vd) (bx : Array Value) (β : Nat → Bool) (P : Nat → Nat → Prop) (X : Nat → Prop) (J : World → Prop) (hn : n < 4294967296) (w : World)
    (HE : ∀ A W, (callFunc K A).run Try.prog W = .ok (.enter K A) W)
    (h : Iq w qb n kd ed sl o) (hJ0 : J w) (hXq : ¬ X qb) (hJq : ∀ W W', J W → Ch (fun k => k = qb) W W' → J W') (hP : Lm P o)
    (hb : ∀ v W, v < n → J W → Iq W qb n kd ed sl o → Calls Try.prog K (#[.int .u32 (v : Int)] ++ bx) W fun e W' => e = .returned (.bool (β v)) ∧ J W' ∧ Ch X W W') :
    Calls Try.prog 45 #[.pointer (some ⟨qb, 0, none⟩), .int .i64 (r : Int), .func (.func K) #[] bx] w fun e w' => (∃ x, e = .returned x) ∧ ∃ o', Lm (fun a b => P a b ∨ (b = r ∧ a < n ∧ β a = true)) o' ∧ Iq w' qb n kd ed sl o' ∧ J w' ∧ Ch (fun k => X k ∨ k = qb) w w' := by
  obtain ⟨c0, _⟩ := h.c
  have HH := hide h
  have HP := hide hP
  have HJ := hide hJq
  have HB := hide hb
  have HJ0 := hide hJ0
  clear h hP hJq hb hJ0
  go_enter Try.func45, Try.ntmps45
  go_wp2_with (fail)
  go_loopw [11] (fun t wr => ∃ v : Nat, v ≤ n ∧ t = .int .u32 v ∧ Hid (Iq wr qb n kd ed sl o) ∧ Hid (J wr) ∧ Hid (Ch (fun k => X k ∨ k = qb) w wr) ∧ Hid (∀ u, u < v → β u = false)) (fun t _ => n - (intOf t).toNat)
  case atStart => exact ⟨0, Nat.zero_le _, rfl, HH, HJ0, Ch.refl _ _, fun u hu => by omega⟩
  case round =>
    clear HH HJ0
    obtain ⟨v, hv, rfl, HI, HJw, HC, HF⟩ := hrel
    by_cases cc : v < n
    · have hcc : (v : Int) < (n : Int) := by omega
      have HBv := hide (HB.out v wr cc HJw.out HI.out)
      have hcv : IntKind.u32.wrap (v : Int) = v := by simp only [IntKind.wrap, IntKind.signed, IntKind.bits]; simp; omega
      go_wp2_with (fail)
      refine HBv.out.mono ?_
      rintro e1 w1 ⟨rfl, hJ1, hC1⟩
      have HI1 := hide (HI.out.on hC1 hXq)
      have HJ1 := hide hJ1
      have HC1 : Hid (Ch (fun k => X k ∨ k = qb) w w1) := HC.out.trans (hC1.mono (fun k _ hx => Or.inl hx))
      clear hJ1 hC1 HBv
      cases hβ : β v with
      | true =>
        have HN := hide (note_any qb v r n kd ed sl o w1 HI1.out)
        have HL := hide (HP.out.rule (r := r) cc hβ HF.out)
        clear hβ
        go_wp2_with (fail)
        refine HN.out.mono ?_
        rintro e2 w2 ⟨⟨x2, rfl⟩, hI2, hC2⟩
        have HEn : Hid (∃ o', Lm (fun a b => P a b ∨ (b = r ∧ a < n ∧ β a = true)) o' ∧ Iq w2 qb n kd ed sl o' ∧ J w2 ∧ Ch (fun k => X k ∨ k = qb) w w2) := ⟨_, HL.out, hI2, HJ.out _ _ HJ1.out hC2, HC1.out.trans (hC2.mono (fun k _ hx => Or.inr hx))⟩
        clear hI2 hC2 HN HL
        go_wp2
        all_goals (refine bodyPost_ret (results_none rfl _ _ _) rfl ?_)
        all_goals exact ⟨⟨_, rfl⟩, HEn.out⟩
      | false =>
        have HF1 : Hid (∀ u, u < v + 1 → β u = false) := fun u hu => by
          by_cases e : u = v
          · rw [e]; exact hβ
          · exact HF.out u (by omega)
        clear hβ HF
        go_wp2
        all_goals exact ⟨⟨v + 1, cc, by go_num, HI1, HJ1, HC1, HF1⟩, by simp [intOf]; omega⟩
    · have hvn : n = v := by omega
      subst hvn
      have HEn : Hid (∃ o', Lm (fun a b => P a b ∨ (b = r ∧ a < n ∧ β a = true)) o' ∧ Iq wr qb n kd ed sl o' ∧ J wr ∧ Ch (fun k => X k ∨ k = qb) w wr) := ⟨o, HP.out.none_rule HF.out, HI.out, HJw.out, HC.out⟩
      clear HF HI HJw HC
      go_wp2
      go_end0
      exact ⟨⟨_, rfl⟩, HEn.out⟩
abbrev z3 : Array Value := #[.bool false, .int .u32 0, .int .i64 0]
/-- What a verdict and an error are told as. -/
def vx (E : Int) (o : Vd) : Array Value := if E = 0 then #[.bool (vR o), .int .u32 (vV o), .int .i64 (vK o)] else z3
abbrev fe (Bt Bf : Nat) : Value := .func (.func 49) #[] #[.pointer (some ⟨Bt, 0, none⟩), .pointer (some ⟨Bf, 0, none⟩)]
theorem fe_ne (fv : Array Value) (W : World) : Sem.run Try.prog (binOp BinOp.eql 40 (Value.func (Fn.func 49) #[] fv) Value.nilFunc) W = .ok (.bool false) W := rfl
/-- What is asked ahead of the edges. -/
def ak (made : Int) (n sn rl p : Nat) : Int := if made ≠ 0 then made else if sn ≠ n then 180 else if rl < p * n then 94 else 0
theorem sets3 {w : World} {g : Nat} {old : Array Value} {t : TypeId} {fr : Nat × Nat} (hg : w.heap[g]? = some (.cells old t fr)) (hs : old.size = 3) (v0 v1 v2 : Value) :
    (((w.setCell ⟨g, 0, none⟩ v0).setCell ⟨g, 1, none⟩ v1).setCell ⟨g, 2, none⟩ v2) = w.setRow g #[v0, v1, v2] := by
  match old, hs with
  | ⟨[u0, u1, u2]⟩, _ =>
    rw [setCell_eq_setRow w g 0 #[u0, u1, u2] t fr v0 hg]
    rw [show (#[u0, u1, u2] : Array Value).setIfInBounds 0 v0 = #[v0, u1, u2] from rfl]
    have q0 := setRow_heap w g _ #[v0, u1, u2] t fr hg
    rw [setCell_eq_setRow _ g 1 #[v0, u1, u2] t fr v1 q0]
    rw [show (#[v0, u1, u2] : Array Value).setIfInBounds 1 v1 = #[v0, v1, u2] from rfl]
    rw [setRow_setRow]
    have q1 := setRow_heap w g _ #[v0, v1, u2] t fr hg
    rw [setCell_eq_setRow _ g 2 #[v0, v1, u2] t fr v2 q1]
    rw [show (#[v0, v1, u2] : Array Value).setIfInBounds 2 v2 = #[v0, v1, v2] from rfl]
    rw [setRow_setRow]
theorem size35 : (Try.prog.info? 35).map (·.size) = some 3 := by kernel_rfl
theorem res38 (T : Array Value) (b : Nat) (a c d : Value) (W : World) (h10 : T[10]? = some (.pointer (some ⟨b, 0, none⟩))) {E : Int} (h11 : T[11]? = some (.int .i64 E)) (h : W.heap[b]? = some (.cells #[a, c, d] 35 (0, 0))) :
    (results Try.f38 T).run Try.prog W = .ok (.tuple #[.agg #[a, c, d], .int .i64 E]) W := by
  have h0 : W.cell? ⟨b, 0, none⟩ = some a := (cell_of_row _ _ _ _ _ _ h).trans rfl
  have h1 : W.cell? ⟨b, 1, none⟩ = some c := (cell_of_row _ _ _ _ _ _ h).trans rfl
  have h2 : W.cell? ⟨b, 2, none⟩ = some d := (cell_of_row _ _ _ _ _ _ h).trans rfl
  simp [results, Try.f38, go_sem, h10, h11, h0, h1, h2]
set_option maxHeartbeats 4000000 in
theorem judge_bad (n p rl sn sc K rb Bt Bf : Nat) (made kd : Int) (sa : Option Addr) (bx : Array Value) (hp : p ≤ 2) (hn : n < 4294967296) (hs : sn ≤ 140737488351232) (hr : rl ≤ 5000) (hm : ak made n sn rl p ≠ 0) (w : World) :
    Calls Try.prog 38 #[.agg #[.int .u32 (n : Int), .int .i64 kd, fe Bt Bf, .slice sa sn sc, .bool false, .int .u32 0, .int .i64 0], .int .i64 made, .slice (some ⟨rb, 0, none⟩) rl rl, .int .i64 (p : Int), .func (.func K) #[] bx] w fun e w' =>
      e = .returned (.tuple #[.agg z3, .int .i64 (ak made n sn rl p)]) ∧ Below w.heap.size w w' := by
  have hfe := fe_ne #[.pointer (some ⟨Bt, 0, none⟩), .pointer (some ⟨Bf, 0, none⟩)]
  have HB : Hid (∀ C C', Below w.heap.size w ((w.alloc (.cells C 66)).alloc (.cells C' 35))) := fun C C' => bA (b1 _ _ _) (by simp) _
  have hw1 : IntKind.u64.wrap (p : Int) = p := wu _ (by omega) (by omega)
  have hw2 : IntKind.u64.wrap (n : Int) = n := wu _ (by omega) (by omega)
  have hpn : p * n ≤ 2 * n := Nat.mul_le_mul_right n hp
  obtain ⟨m, hpm⟩ : ∃ m, p * n = m := ⟨_, rfl⟩
  rw [hpm] at hpn
  have hw3 : IntKind.u64.wrap ((p : Int) * (n : Int)) = m := by rw [← Int.natCast_mul, hpm]; exact wu _ (by omega) (by omega)
  have hw4 : IntKind.u64.wrap (sn : Int) = sn := wu _ (by omega) (by omega)
  have hw5 : IntKind.u64.wrap (rl : Int) = rl := wu _ (by omega) (by omega)
  unfold ak at hm ⊢
  rw [hpm] at hm ⊢
  by_cases h1 : made = 0
  · rw [if_neg (by simpa using h1)] at hm ⊢
    have hm1 : (made != 0) = false := by simpa using h1
    by_cases h2 : sn = n
    · rw [if_neg (by simpa using h2)] at hm ⊢
      have hm2 : ((sn : Int) != (n : Int)) = false := by simp; omega
      by_cases h3 : rl < m
      · rw [if_pos h3]
        have hm3 : (rl : Int) < (m : Int) := by omega
        clear hm h1 h2 h3 hpm hpn
        go_enter Try.func38, Try.ntmps38
        go_wp2
        all_goals (refine bodyPost_ret (v := .tuple #[.agg z3, .int .i64 94]) ?_ rfl ?_)
        all_goals first | (simp [results, Try.f38, go_sem]; done) | exact ⟨rfl, HB.out _ _⟩
      · rw [if_neg h3] at hm; exact absurd rfl hm
    · rw [if_pos h2]
      have hm2 : ((sn : Int) != (n : Int)) = true := by simp; omega
      clear hm h1 h2 hpm hpn
      go_enter Try.func38, Try.ntmps38
      go_wp2
      all_goals (refine bodyPost_ret (v := .tuple #[.agg z3, .int .i64 180]) ?_ rfl ?_)
      all_goals first | (simp [results, Try.f38, go_sem]; done) | exact ⟨rfl, HB.out _ _⟩
  · rw [if_pos h1]
    have hm1 : (made != 0) = true := by simpa using h1
    clear hm h1 hpm hpn
    go_enter Try.func38, Try.ntmps38
    go_wp2
    all_goals (refine bodyPost_ret (v := .tuple #[.agg z3, .int .i64 made]) ?_ rfl ?_)
    all_goals first | (simp [results, Try.f38, go_sem]; done) | exact ⟨rfl, HB.out _ _⟩
set_option maxHeartbeats 4000000 in
theorem judge_ok (n p rl sn sc K rb Bt Bf : Nat) (made kd : Int) (sa : Option Addr) (bx : Array Value) (Y : Nat → Prop) (R : Int → Vd → World → Prop) (hp : p ≤ 2) (hn : n < 4294967296) (hs : sn ≤ 140737488351232) (hr : rl ≤ 5000) (hm : ak made n sn rl p = 0) (w : World)
    (HE : ∀ A W, (callFunc K A).run Try.prog W = .ok (.enter K A) W)
    (hY : ¬ Y (w.heap.size + 1))
    (hR : ∀ E o W W', R E o W → (∀ k, k < w.heap.size → W'.heap[k]? = W.heap[k]?) → R E o W')
    (hl : Calls Try.prog K (#[.pointer (some ⟨w.heap.size, 0, none⟩), .slice (some ⟨rb, 0, none⟩) (p * n) (p * n)] ++ bx) ((w.alloc (.cells (qc n kd (fe Bt Bf) (.slice sa sn sc) none) 66)).alloc (.cells z3 35)) fun e w' =>
      ∃ E o, e = .returned (.int .i64 E) ∧ Iq w' w.heap.size n kd (fe Bt Bf) (.slice sa sn sc) o ∧ R E o w' ∧ Ch Y ((w.alloc (.cells (qc n kd (fe Bt Bf) (.slice sa sn sc) none) 66)).alloc (.cells z3 35)) w') :
    Calls Try.prog 38 #[.agg #[.int .u32 (n : Int), .int .i64 kd, fe Bt Bf, .slice sa sn sc, .bool false, .int .u32 0, .int .i64 0], .int .i64 made, .slice (some ⟨rb, 0, none⟩) rl rl, .int .i64 (p : Int), .func (.func K) #[] bx] w fun e w' =>
      ∃ E o, e = .returned (.tuple #[.agg (vx E o), .int .i64 E]) ∧ R E o w' ∧ Ch Y w w' := by
  have hfe := fe_ne #[.pointer (some ⟨Bt, 0, none⟩), .pointer (some ⟨Bf, 0, none⟩)]
  have hw1 : IntKind.u64.wrap (p : Int) = p := wu _ (by omega) (by omega)
  have hw2 : IntKind.u64.wrap (n : Int) = n := wu _ (by omega) (by omega)
  have hpn : p * n ≤ 2 * n := Nat.mul_le_mul_right n hp
  obtain ⟨m, hpm⟩ : ∃ m, p * n = m := ⟨_, rfl⟩
  rw [hpm] at hpn hl
  have hw3 : IntKind.u64.wrap ((p : Int) * (n : Int)) = m := by rw [← Int.natCast_mul, hpm]; exact wu _ (by omega) (by omega)
  have hw4 : IntKind.u64.wrap (sn : Int) = sn := wu _ (by omega) (by omega)
  have hw5 : IntKind.u64.wrap (rl : Int) = rl := wu _ (by omega) (by omega)
  unfold ak at hm
  rw [hpm] at hm
  by_cases h1 : made = 0
  · rw [if_neg (by simpa using h1)] at hm
    by_cases h2 : sn = n
    · rw [if_neg (by simpa using h2)] at hm
      by_cases h3 : rl < m
      · rw [if_pos h3] at hm; omega
      · have hm1 : (made != 0) = false := by simpa using h1
        have hm2 : ((sn : Int) != (n : Int)) = false := by simp; omega
        have hm3 : ¬ (rl : Int) < (m : Int) := by omega
        have hm4 : (m : Int) ≤ (rl : Int) := by omega
        have hc0 : ((w.alloc (.cells (qc n kd (fe Bt Bf) (.slice sa sn sc) none) 66)).alloc (.cells z3 35)).heap[w.heap.size + 1]? = some (.cells z3 35) := by
          have := at0 (w.alloc (.cells (qc n kd (fe Bt Bf) (.slice sa sn sc) none) 66)) (.cells z3 35)
          simpa using this
        have HC0 := hide hc0
        have HL := hide hl
        have HB0 : Hid (Below w.heap.size w ((w.alloc (.cells (qc n kd (fe Bt Bf) (.slice sa sn sc) none) 66)).alloc (.cells z3 35))) := bA (b1 _ _ _) (by simp) _
        have HR := hide hR
        clear hm h1 h2 h3 hpm hpn hl hc0 hR
        go_enter Try.func38, Try.ntmps38
        go_wp2_with (fail)
        refine HL.out.mono ?_
        rintro e1 w1 ⟨E, o, rfl, hI, hRR, hC⟩
        obtain ⟨_, _, _, _, d4, d5, d6⟩ := hI.c
        have hs1 := hC.size
        simp only [World.size_alloc] at hs1
        have hz : w1.heap[w.heap.size + 1]? = some (.cells z3 35 (0, 0)) := (hC.block _ (by simp) hY).trans HC0.out
        have HFin : Hid (∀ a b c, R E o (((w1.setCell ⟨w.heap.size + 1, 0, none⟩ a).setCell ⟨w.heap.size + 1, 1, none⟩ b).setCell ⟨w.heap.size + 1, 2, none⟩ c) ∧ Ch Y w (((w1.setCell ⟨w.heap.size + 1, 0, none⟩ a).setCell ⟨w.heap.size + 1, 1, none⟩ b).setCell ⟨w.heap.size + 1, 2, none⟩ c) ∧ (((w1.setCell ⟨w.heap.size + 1, 0, none⟩ a).setCell ⟨w.heap.size + 1, 1, none⟩ b).setCell ⟨w.heap.size + 1, 2, none⟩ c).heap[w.heap.size + 1]? = some (.cells #[a, b, c] 35 (0, 0))) := fun a b c => by
          rw [sets3 hz rfl]
          refine ⟨HR.out _ _ _ _ hRR (fun k hk => setRow_other _ _ _ _ (by omega)), ((Ch.of HB0.out).trans hC).row _ (Or.inr (by omega)), setRow_heap _ _ _ _ _ _ hz⟩
        have f0 : w1.frozen? ⟨w.heap.size + 1, 0, none⟩ = false := frozen_of_row _ _ _ _ _ hz
        have f1 : w1.frozen? ⟨w.heap.size + 1, 1, none⟩ = false := frozen_of_row _ _ _ _ _ hz
        have f2 : w1.frozen? ⟨w.heap.size + 1, 2, none⟩ = false := frozen_of_row _ _ _ _ _ hz
        have g0 : w1.cell? ⟨w.heap.size + 1, 0, none⟩ = some (.bool false) := (cell_of_row _ _ _ _ _ _ hz).trans rfl
        have g1 : w1.cell? ⟨w.heap.size + 1, 1, none⟩ = some (.int .u32 0) := (cell_of_row _ _ _ _ _ _ hz).trans rfl
        have g2 : w1.cell? ⟨w.heap.size + 1, 2, none⟩ = some (.int .i64 0) := (cell_of_row _ _ _ _ _ _ hz).trans rfl
        clear hI hRR hC hz HL HC0 HB0 HR
        by_cases hE : E = 0
        · have hE1 : (E != 0) = false := by simpa using hE
          go_wp2
          all_goals (refine bodyPost_ret (v := .tuple #[.agg #[.bool (vR o), .int .u32 (vV o), .int .i64 (vK o)], .int .i64 0]) ?_ rfl ?_)
          all_goals first | exact res38 _ _ _ _ _ _ rfl rfl (HFin.out _ _ _).2.2 | exact ⟨E, o, by rw [hE]; rfl, (HFin.out _ _ _).1, (HFin.out _ _ _).2.1⟩
        · have hE1 : (E != 0) = true := by simpa using hE
          go_wp2
          all_goals (refine bodyPost_ret (v := .tuple #[.agg z3, .int .i64 E]) ?_ rfl ?_)
          all_goals first | exact res38 _ _ _ _ _ _ rfl rfl (HFin.out _ _ _).2.2 | exact ⟨E, o, by unfold vx; rw [if_neg hE], (HFin.out _ _ _).1, (HFin.out _ _ _).2.1⟩
    · rw [if_pos h2] at hm; omega
  · rw [if_pos h1] at hm; exact absurd hm h1
end Au
end Go.Proofs.Ytcepfmeoeepjdaa
