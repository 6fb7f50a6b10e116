import Derived.Test.YtcepfmeoeepjdaaAxA
import Derived.Laws.IdiomCopy
namespace Go.Proofs.Ytcepfmeoeepjdaa
namespace Au
open Go.RowKit
set_option linter.unusedVariables false
set_option maxRecDepth 8000
/-- The classes as they lie. -/
def Kb (w : World) (b qb rb n : Nat) : Prop := w.heap[b]? = some (.cells (pv qb rb n) 109 (0, 0))
theorem Kb.k {w : World} {b qb rb n : Nat} (h : Kb w b qb rb n) : K3p b qb rb n w := ⟨(cell_of_row _ _ _ _ _ _ h).trans rfl, (cell_of_row _ _ _ _ _ _ h).trans rfl, (cell_of_row _ _ _ _ _ _ h).trans rfl⟩
theorem Kb.lt {w : World} {b qb rb n : Nat} (h : Kb w b qb rb n) : b < w.heap.size := lt_of_some h
set_option maxHeartbeats 4000000 in
theorem isLabel_any (qb rb n sg sn sc v : Nat) (kd : Int) (ed : Value) (o : Vd) (S : Nat → Nat → Int) (hv : v < sn) (hn : v < 4294967296) (w : World) (hQ : Iq w qb n kd ed (.slice (some ⟨sg, 0, none⟩) sn sc) o) (hS : SR w sg sn S) :
    Calls Try.prog 107 #[.agg (pv qb rb n), .int .u32 (v : Int)] w fun e w' => e = .returned (.int .u64 (w01 (lab S) v)) ∧ w' = w.alloc (.cells (pv qb rb n) 109) := by
  have hB := b1 w 109 (pv qb rb n)
  have c3 := (hQ.on (X := fun _ => False) (Ch.of hB) (fun h => h)).c.2.2.2.1
  have s0 := (hS.on (X := fun _ => False) (Ch.of hB) (fun h => h)).c v hv 0 (by decide)
  rw [Nat.add_zero] at s0
  have hcv : IntKind.u64.wrap (v : Int) = v := wu _ (by omega) (by omega)
  clear hQ hS hB
  cases hl : lab S v with
  | true =>
    rw [w01_t hl]
    have hb : (S v 0 == (v : Int)) = true := hl
    clear hl
    go_enter Try.func107, Try.ntmps107
    go_wp2
    all_goals go_ret
    all_goals exact ⟨rfl, rfl⟩
  | false =>
    rw [w01_f hl]
    have hb : (S v 0 == (v : Int)) = false := hl
    clear hl
    go_enter Try.func107, Try.ntmps107
    go_wp2
    all_goals go_ret
    all_goals exact ⟨rfl, rfl⟩
abbrev S109 (rb p q : Nat) (x y : Int) (w : World) : Prop := w.cell? ⟨rb, p, none⟩ = some (.int .u64 x) ∧ w.cell? ⟨rb, q, none⟩ = some (.int .u64 y)
set_option maxHeartbeats 4000000 in
theorem spread_any (rb o n cp m u v : Nat) (U : Nat → Int) (hu : u < n) (hv : v < n) (ho : o + n ≤ m) (hn : n ≤ 5000) (w : World) (h : GU w rb m U) :
    Calls Try.prog 109 #[.slice (some ⟨rb, o, none⟩) n cp, .int .u32 (u : Int), .int .u32 (v : Int)] w fun e w' => e = .returned (.bool (decide (U (o + v) < U (o + u)))) ∧ GU w' rb m (if U (o + v) < U (o + u) then up U (o + v) 1 else U) ∧ Ch (fun k => k = rb) w w' := by
  have HS : Hid (S109 rb (o + u) (o + v) (U (o + u)) (U (o + v)) w.drew) := ⟨h.cell (o + u) (by omega), h.cell (o + v) (by omega)⟩
  have hun : (u : Int) < (n : Int) := by omega
  have hvn : (v : Int) < (n : Int) := by omega
  by_cases hc : U (o + v) < U (o + u)
  · have HE : Hid (GU (w.setCell ⟨rb, o + v, none⟩ (.int .u64 1)) rb m (up U (o + v) 1) ∧ Ch (fun k => k = rb) w (w.setCell ⟨rb, o + v, none⟩ (.int .u64 1))) := ⟨(h.set (o + v) 1).1, (Ch.refl _ _).set _ _ (Or.inl rfl)⟩
    have hd : decide (U (o + v) < U (o + u)) = true := by simpa using hc
    have c1 : w.drew.cell? ⟨rb, o + v, none⟩ = some (.int .u64 (U (o + v))) := h.cell (o + v) (by omega)
    have f1 : w.drew.frozen? ⟨rb, o + v, none⟩ = false := h.fz (o + v)
    rw [if_pos hc, hd]
    clear h
    go_enter Try.func109, Try.ntmps109
    go_wp2_with (fail)
    go_region_held3 (S109 rb (o + u) (o + v) (U (o + u)) (U (o + v))) ((with_reducible exact HS.out)) ((fail))
    clear HS
    go_wp2
    all_goals go_ret
    all_goals exact ⟨rfl, HE.out.1.of rfl, ⟨HE.out.2.os, HE.out.2.tape, HE.out.2.output, HE.out.2.size, HE.out.2.block⟩⟩
  · have hd : decide (U (o + v) < U (o + u)) = false := by simpa using hc
    have HE := hide h
    rw [if_neg hc, hd]
    clear h
    go_enter Try.func109, Try.ntmps109
    go_wp2_with (fail)
    go_region_held3 (S109 rb (o + u) (o + v) (U (o + u)) (U (o + v))) ((with_reducible exact HS.out)) ((fail))
    clear HS
    go_wp2
    all_goals go_ret
    all_goals exact ⟨rfl, HE.out.of rfl, (Ch.refl _ _).drew⟩
theorem w01_lt (H : Nat → Bool) (u v : Nat) : (w01 H v < w01 H u) ↔ (H u && !H v) = true := by
  unfold w01
  cases h1 : H u <;> cases h2 : H v <;> simp
/-- A mark is carried along in the first half. -/
theorem spreadD (qb rb n m : Nat) (S : Nat → Nat → Int) (bk : Bool) (e : T3) (H : Nat → Bool) (C : Nat → Int) (he : S (en bk e).1 0 = S (en bk e).2 0) (hu : (en bk e).1 < n) (hv : (en bk e).2 < n) (hm : 2 * n ≤ m) (hn : n ≤ 5000) (w : World) (h : Pr w rb n m (w01 H) C) :
    Calls Try.prog 109 #[.slice (some ⟨rb, 0, none⟩) n (2 * n), .int .u32 ((en bk e).1 : Int), .int .u32 ((en bk e).2 : Int)] w fun r w' => r = .returned (.bool (nw S bk e H)) ∧ Pr w' rb n m (w01 (sp S bk e H)) C ∧ Ch (fun k => k = rb) w w' := by
  obtain ⟨U, a, b, c, d⟩ := h
  have hs := spread_any rb 0 n (2 * n) m (en bk e).1 (en bk e).2 U hu hv (by omega) hn w a
  simp only [Nat.zero_add] at hs
  refine hs.mono ?_
  rintro r w' ⟨rfl, h1, h2⟩
  rw [b _ hu, b _ hv] at h1 ⊢
  have hnw : nw S bk e H = (H (en bk e).1 && !H (en bk e).2) := by unfold nw; rw [he]; simp
  have hdec : decide (w01 H (en bk e).2 < w01 H (en bk e).1) = nw S bk e H := by
    rw [hnw]
    cases hq : (H (en bk e).1 && !H (en bk e).2) with
    | true => simpa using (w01_lt H _ _).2 hq
    | false =>
      simp only [decide_eq_false_iff_not]
      intro hh
      have := (w01_lt H _ _).1 hh
      rw [hq] at this; cases this
  refine ⟨by rw [hdec], ?_, h2⟩
  cases hq : nw S bk e H with
  | false =>
    rw [sp_old hq]
    rw [hq] at hdec
    rw [if_neg (of_decide_eq_false hdec)] at h1
    exact ⟨U, h1, b, c, d⟩
  | true =>
    rw [hq] at hdec
    rw [if_pos (of_decide_eq_true hdec)] at h1
    refine ⟨_, h1, fun t ht => ?_, fun t ht => ?_, fun j h1 h2 => ?_⟩
    · unfold w01
      rw [sp_new hq]
      by_cases et : t = (en bk e).2
      · subst et; rw [up_eq]; simp
      · rw [up_ne _ _ _ _ et, b t ht]; unfold w01; simp [et]
    · rw [up_ne _ _ _ _ (by omega)]; exact c t ht
    · rw [up_ne _ _ _ _ (by omega)]; exact d j h1 h2
theorem spreadC (qb rb n m : Nat) (S : Nat → Nat → Int) (bk : Bool) (e : T3) (H : Nat → Bool) (D : Nat → Int) (he : S (en bk e).1 0 = S (en bk e).2 0) (hu : (en bk e).1 < n) (hv : (en bk e).2 < n) (hm : 2 * n ≤ m) (hn : n ≤ 5000) (w : World) (h : Pr w rb n m D (w01 H)) :
    Calls Try.prog 109 #[.slice (some ⟨rb, n, none⟩) n n, .int .u32 ((en bk e).1 : Int), .int .u32 ((en bk e).2 : Int)] w fun r w' => r = .returned (.bool (nw S bk e H)) ∧ Pr w' rb n m D (w01 (sp S bk e H)) ∧ Ch (fun k => k = rb) w w' := by
  obtain ⟨U, a, b, c, d⟩ := h
  refine (spread_any rb n n n m (en bk e).1 (en bk e).2 U hu hv (by omega) hn w a).mono ?_
  rintro r w' ⟨rfl, h1, h2⟩
  rw [c _ hu, c _ hv] at h1 ⊢
  have hnw : nw S bk e H = (H (en bk e).1 && !H (en bk e).2) := by unfold nw; rw [he]; simp
  have hdec : decide (w01 H (en bk e).2 < w01 H (en bk e).1) = nw S bk e H := by
    rw [hnw]
    cases hq : (H (en bk e).1 && !H (en bk e).2) with
    | true => simpa using (w01_lt H _ _).2 hq
    | false =>
      simp only [decide_eq_false_iff_not]
      intro hh
      have := (w01_lt H _ _).1 hh
      rw [hq] at this; cases this
  refine ⟨by rw [hdec], ?_, h2⟩
  cases hq : nw S bk e H with
  | false =>
    rw [sp_old hq]
    rw [hq] at hdec
    rw [if_neg (of_decide_eq_false hdec)] at h1
    exact ⟨U, h1, b, c, d⟩
  | true =>
    rw [hq] at hdec
    rw [if_pos (of_decide_eq_true hdec)] at h1
    refine ⟨_, h1, fun t ht => ?_, fun t ht => ?_, fun j h1 h2 => ?_⟩
    · rw [up_ne _ _ _ _ (by omega)]; exact b t ht
    · unfold w01
      rw [sp_new hq]
      by_cases et : t = (en bk e).2
      · subst et; rw [up_eq]; simp
      · rw [up_ne _ _ _ _ (by omega), c t ht]; unfold w01; simp [et]
    · rw [up_ne _ _ _ _ (by omega)]; exact d j h1 h2
/-- The first half is copied into the second. -/
theorem Pr.copies {rb n m : Nat} {D : Nat → Int} (l : Nat) : ∀ {W : World} {C : Nat → Int} (o : Nat), Pr W rb n m D C → o + l ≤ n → Pr (W.setCells rb (n + o) ((List.range' o l).map (fun j => .int .u64 (D j)))) rb n m D (fun v => if o ≤ v ∧ v < o + l then D v else C v) := by
  induction l with
  | zero => intro W C o h _; exact h.ext (fun _ _ => rfl) (fun v hv => by rw [if_neg (by omega)])
  | succ l ih =>
    intro W C o h ho
    rw [List.range'_succ, List.map_cons]
    show Pr ((W.setCell ⟨rb, n + o, none⟩ _).setCells rb (n + o + 1) _) _ _ _ _ _
    rw [show n + o + 1 = n + (o + 1) by omega]
    exact (ih (o + 1) (h.setC o (by omega) (D o)) (by omega)).ext (fun _ _ => rfl) (fun v hv => by
      by_cases e : v = o
      · subst e; rw [if_neg (by omega), if_pos (by omega), up_eq]
      · by_cases e2 : o + 1 ≤ v ∧ v < o + 1 + l
        · rw [if_pos e2, if_pos (by omega)]
        · rw [if_neg e2, if_neg (by omega), up_ne _ _ _ _ e])
theorem Ch.cells {X : Nat → Prop} {w : World} {rb : Nat} (hx : X rb) (cs : List Value) : ∀ {W : World} (o : Nat), Ch X w W → Ch X w (W.setCells rb o cs) := by
  induction cs with
  | nil => intro W o h; exact h
  | cons c cs ih => intro W o h; exact ih (o + 1) (h.set _ _ (Or.inl hx))
theorem copy_run (n m rb : Nat) (D C : Nat → Int) (hm : 2 * n ≤ m) (w : World) (h : Pr w rb n m D C) (ty : TypeId) : (Builtin.copy_ #[32, 32] ty #[.slice (some ⟨rb, n, none⟩) n n, .slice (some ⟨rb, 0, none⟩) n (2 * n)]).run Try.prog w = .ok (goInt n) (w.setCells rb n ((List.range' 0 n).map (fun j => .int .u64 (D j)))) := by
  have hi : (Try.prog.info? 28).map (·.size) = some 1 := by
    have h := infoW
    cases hh : Try.prog.info? 28 with
    | none => rw [hh] at h; cases h
    | some i => rw [hh] at h; simp at h; simp [h.2.1]
  have hl : ((List.range' 0 n).map (fun j => Value.int .u64 (D j))).length = n := by simp
  have hr := run_copy_cells (P := Try.prog) w 32 32 ty 28 rb n n n ⟨rb, 0, none⟩ n (2 * n) ((List.range' 0 n).map (fun j => .int .u64 (D j))) Try.underlying32 hi (by rw [hl]; exact (Nat.min_self n).symm)
    (fun j v hj => by
      have hjn : j < n := by have := (List.getElem?_eq_some_iff.1 hj).1; rw [hl] at this; exact this
      rw [add0, h.d hm j hjn]
      simp only [List.getElem?_map, List.getElem?_range' hjn] at hj
      simpa using hj)
    (fun j hj => by rw [hl] at hj; rw [h.c hm j hj]; rfl) (fun j hj => h.fz _) (fun v hv => by simp only [List.mem_map] at hv; obtain ⟨j, _, rfl⟩ := hv; rfl)
  rw [hl] at hr
  exact hr
theorem Pr.copied {W : World} {rb n m : Nat} {D C : Nat → Int} (h : Pr W rb n m D C) : Pr (W.setCells rb n ((List.range' 0 n).map (fun j => .int .u64 (D j)))) rb n m D D := (h.copies n 0 (by omega)).ext (fun _ _ => rfl) (fun v hv => if_pos (by omega))
end Au
end Go.Proofs.Ytcepfmeoeepjdaa
