import Derived.Test.YtgoigcpdfecfhaaGreatDoorCxF
namespace Go.Proofs.YtgoigcpdfecfhaaGreatDoor
namespace Au
open Go.RowKit
set_option linter.unusedVariables false
set_option maxRecDepth 8000
/-- Two lists of words side by side, in this order or in that; the marks behind them. -/
def Rg (W : World) (rb n m p q : Nat) (P G : Nat → Int) : Prop := ((p = 0 ∧ q = n) ∨ (p = n ∧ q = 0)) ∧ ∃ U, GU W rb m U ∧ (∀ v, v < n → U (p + v) = P v) ∧ (∀ v, v < n → U (q + v) = G v) ∧ ∀ x, 2 * n ≤ x → x < m → U x = 99
theorem Rg.lt {W : World} {rb n m p q : Nat} {P G : Nat → Int} (h : Rg W rb n m p q P G) : rb < W.heap.size := by
  obtain ⟨_, U, a, _⟩ := h
  exact a.lt
theorem Rg.of {W W' : World} {rb n m p q : Nat} {P G : Nat → Int} (h : Rg W rb n m p q P G) (e : W'.heap[rb]? = W.heap[rb]?) : Rg W' rb n m p q P G := by
  obtain ⟨o, U, a, b⟩ := h
  exact ⟨o, U, a.of e, b⟩
theorem Rg.p {W : World} {rb n m p q : Nat} {P G : Nat → Int} (h : Rg W rb n m p q P G) (hm : 2 * n ≤ m) (v : Nat) (hv : v < n) : W.cell? ⟨rb, p + v, none⟩ = some (.int .u64 (P v)) := by
  obtain ⟨o, U, a, b, c, d⟩ := h
  rw [a.cell _ (by omega), b v hv]
theorem Rg.q {W : World} {rb n m p q : Nat} {P G : Nat → Int} (h : Rg W rb n m p q P G) (hm : 2 * n ≤ m) (v : Nat) (hv : v < n) : W.cell? ⟨rb, q + v, none⟩ = some (.int .u64 (G v)) := by
  obtain ⟨o, U, a, b, c, d⟩ := h
  rw [a.cell _ (by omega), c v hv]
theorem Rg.fz {W : World} {rb n m p q : Nat} {P G : Nat → Int} (h : Rg W rb n m p q P G) (j : Nat) : W.frozen? ⟨rb, j, none⟩ = false := by
  obtain ⟨o, U, a, b⟩ := h
  exact a.fz j
theorem Rg.ext {W : World} {rb n m p q : Nat} {P G P' G' : Nat → Int} (h : Rg W rb n m p q P G) (e : ∀ v, v < n → P v = P' v) (e' : ∀ v, v < n → G v = G' v) : Rg W rb n m p q P' G' := by
  obtain ⟨o, U, a, b, c, d⟩ := h
  exact ⟨o, U, a, fun v hv => (b v hv).trans (e v hv), fun v hv => (c v hv).trans (e' v hv), d⟩
theorem Rg.setq {W : World} {rb n m p q : Nat} {P G : Nat → Int} (h : Rg W rb n m p q P G) (j : Nat) (hj : j < n) (x : Int) : Rg (W.setCell ⟨rb, q + j, none⟩ (.int .u64 x)) rb n m p q P (up G j x) := by
  obtain ⟨o, U, a, b, c, d⟩ := h
  refine ⟨o, up U (q + j) x, (a.set _ x).1, fun v hv => ?_, fun v hv => ?_, fun v h1 h2 => ?_⟩
  · rw [up_ne _ _ _ _ (by omega)]; exact b v hv
  · by_cases e : v = j
    · subst e; rw [up_eq, up_eq]
    · rw [up_ne _ _ _ _ (by omega), up_ne _ _ _ _ e]; exact c v hv
  · rw [up_ne _ _ _ _ (by omega)]; exact d v h1 h2
theorem Rg.swap {W : World} {rb n m p q : Nat} {P G : Nat → Int} (h : Rg W rb n m p q P G) : Rg W rb n m q p G P := by
  obtain ⟨o, U, a, b, c, d⟩ := h
  exact ⟨by omega, U, a, c, b, d⟩
theorem Rg.setp {W : World} {rb n m p q : Nat} {P G : Nat → Int} (h : Rg W rb n m p q P G) (j : Nat) (hj : j < n) (x : Int) : Rg (W.setCell ⟨rb, p + j, none⟩ (.int .u64 x)) rb n m p q (up P j x) G := (h.swap.setq j hj x).swap
theorem Rg.sp {W : World} {rb n m p q : Nat} {P G : Nat → Int} (h : Rg W rb n m p q P G) : Sp W rb (2 * n) m := by
  obtain ⟨o, U, a, b, c, d⟩ := h
  exact ⟨U, a, d⟩
theorem Rg.copies {rb n m p q : Nat} {P : Nat → Int} (l : Nat) : ∀ {W : World} {G : Nat → Int} (o : Nat), Rg W rb n m p q P G → o + l = n → Rg (W.setCells rb (q + o) ((List.range' o l).map (fun j => .int .u64 (P j)))) rb n m p q P (fun v => if v < o then G v else P v) := by
  induction l with
  | zero => intro W G o h ho; exact h.ext (fun _ _ => rfl) (fun v hv => by rw [if_pos (by omega)])
  | succ l ih =>
    intro W G o h ho
    rw [List.range'_succ, List.map_cons]
    have h2 := ih (o + 1) (h.setq o (by omega) (P o)) (by omega)
    refine (show Rg (((W.setCell ⟨rb, q + o, none⟩ (.int .u64 (P o))).setCells rb (q + o + 1) _)) rb n m p q P _ from by rw [Nat.add_assoc]; exact h2).ext (fun _ _ => rfl) (fun v hv => ?_)
    by_cases e : v = o
    · subst e; rw [if_pos (by omega), if_neg (by omega), up_eq]
    · by_cases e2 : v < o
      · rw [if_pos (by omega), if_pos e2, up_ne _ _ _ _ e]
      · rw [if_neg (by omega), if_neg e2]
theorem Ch.cells {X : Nat → Prop} {w : World} {rb : Nat} (hx : X rb) (cs : List Value) : ∀ {W : World} (o : Nat), Ch X w W → Ch X w (W.setCells rb o cs) := by
  induction cs with
  | nil => intro W o h; exact h
  | cons c cs ih => intro W o h; exact ih (o + 1) (h.set _ _ (Or.inl hx))
theorem copy_r (n m rb p q c1 c2 : Nat) (P G : Nat → Int) (hm : 2 * n ≤ m) (w : World) (h : Rg w rb n m p q P G) (ty : TypeId) : (Builtin.copy_ #[32, 32] ty #[.slice (some ⟨rb, q, none⟩) n c1, .slice (some ⟨rb, p, none⟩) n c2]).run Tryz.prog w = .ok (goInt n) (w.setCells rb q ((List.range' 0 n).map (fun j => .int .u64 (P j)))) := by
  have hi : (Tryz.prog.info? 28).map (·.size) = some 1 := by
    have h := infoW
    cases hh : Tryz.prog.info? 28 with
    | none => rw [hh] at h; cases h
    | some i => rw [hh] at h; simp at h; simp [h.2.1]
  have hl : ((List.range' 0 n).map (fun j => Value.int .u64 (P j))).length = n := by simp
  have hr := run_copy_cells (P := Tryz.prog) w 32 32 ty 28 rb q n c1 ⟨rb, p, none⟩ n c2 ((List.range' 0 n).map (fun j => .int .u64 (P j))) Tryz.underlying32 hi (by rw [hl]; exact (Nat.min_self n).symm)
    (fun j v hj => by
      have hjn : j < n := by have := (List.getElem?_eq_some_iff.1 hj).1; rw [hl] at this; exact this
      have e : (⟨rb, p, none⟩ : Addr).add j = ⟨rb, p + j, none⟩ := by unfold Addr.add; split <;> simp_all
      rw [e, h.p hm j hjn]
      simp only [List.getElem?_map, List.getElem?_range' hjn] at hj
      simpa using hj)
    (fun j hj => by rw [hl] at hj; rw [h.q hm j hj]; rfl) (fun j hj => h.fz _) (fun v hv => by simp only [List.mem_map] at hv; obtain ⟨j, _, rfl⟩ := hv; rfl)
  rw [hl] at hr
  exact hr
theorem Rg.copied {W : World} {rb n m p q : Nat} {P G : Nat → Int} (h : Rg W rb n m p q P G) : Rg (W.setCells rb q ((List.range' 0 n).map (fun j => .int .u64 (P j)))) rb n m p q P P := (h.copies n 0 (by omega)).ext (fun _ _ => rfl) (fun v hv => if_neg (by omega))
abbrev S49 (nb pb eb rb p q n c1 c2 x y : Nat) (px : Int) (w : World) : Prop := w.cell? ⟨nb, 0, none⟩ = some (.slice (some ⟨rb, q, none⟩) n c1) ∧ w.cell? ⟨pb, 0, none⟩ = some (.slice (some ⟨rb, p, none⟩) n c2) ∧ w.cell? ⟨eb, 0, none⟩ = some (.int .u32 x) ∧ w.cell? ⟨eb, 1, none⟩ = some (.int .u32 y) ∧ w.cell? ⟨rb, p + x, none⟩ = some (.int .u64 px)
theorem S49.mk {nb pb eb rb p q n m c1 c2 x y z : Nat} {P G : Nat → Int} {w : World} (hm : 2 * n ≤ m) (hx : x < n) (hy : y < n) (h : Rg w rb n m p q P G) (hn : Boxed w nb 32 (.slice (some ⟨rb, q, none⟩) n c1)) (hp : Boxed w pb 32 (.slice (some ⟨rb, p, none⟩) n c2)) (he : w.heap[eb]? = some (.cells #[.int .u32 x, .int .u32 y, .int .u32 z] 78 (0, 0))) : S49 nb pb eb rb p q n c1 c2 x y (P x) w := by
  obtain ⟨a, b, _⟩ : w.cell? ⟨eb, 0, none⟩ = some (.int .u32 x) ∧ w.cell? ⟨eb, 1, none⟩ = some (.int .u32 y) ∧ True := ⟨(cell_of_row _ _ _ _ _ _ he).trans rfl, (cell_of_row _ _ _ _ _ _ he).trans rfl, trivial⟩
  exact ⟨hn.cell, hp.cell, a, b, h.p hm x hx⟩
end Au
end Go.Proofs.YtgoigcpdfecfhaaGreatDoor
