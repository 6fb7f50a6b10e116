import Derived.Test.YtcepfmeoeepjdabAyA
import Derived.Lib.SliceRun
namespace Go.Proofs.Ytcepfmeoeepjdab
namespace Au
open Go.RowKit
set_option linter.unusedVariables false
set_option maxRecDepth 8000
/-- The two halves of the room. -/
def Pr (W : World) (rb n m : Nat) (D C : Nat → Int) : Prop := ∃ U, GU W rb m U ∧ (∀ v, v < n → U v = D v) ∧ (∀ v, v < n → U (n + v) = C v) ∧ (∀ j, 2 * n ≤ j → j < m → U j = 99)
theorem Pr.of {W W' : World} {rb n m : Nat} {D C : Nat → Int} (h : Pr W rb n m D C) (e : W'.heap[rb]? = W.heap[rb]?) : Pr W' rb n m D C := by
  obtain ⟨U, a, b⟩ := h
  exact ⟨U, a.of e, b⟩
theorem Pr.lt {W : World} {rb n m : Nat} {D C : Nat → Int} (h : Pr W rb n m D C) : rb < W.heap.size := by
  obtain ⟨U, a, b⟩ := h
  exact a.lt
theorem Pr.d {W : World} {rb n m : Nat} {D C : Nat → Int} (h : Pr W rb n m D C) (hm : 2 * n ≤ m) (v : Nat) (hv : v < n) : W.cell? ⟨rb, v, none⟩ = some (.int .u64 (D v)) := by
  obtain ⟨U, a, b, c, d⟩ := h
  rw [a.cell v (by omega), b v hv]
theorem Pr.c {W : World} {rb n m : Nat} {D C : Nat → Int} (h : Pr W rb n m D C) (hm : 2 * n ≤ m) (v : Nat) (hv : v < n) : W.cell? ⟨rb, n + v, none⟩ = some (.int .u64 (C v)) := by
  obtain ⟨U, a, b, c, d⟩ := h
  rw [a.cell (n + v) (by omega), c v hv]
theorem Pr.fz {W : World} {rb n m : Nat} {D C : Nat → Int} (h : Pr W rb n m D C) (j : Nat) : W.frozen? ⟨rb, j, none⟩ = false := by
  obtain ⟨U, a, b⟩ := h
  exact a.fz j
theorem Pr.ext {W : World} {rb n m : Nat} {D C D' C' : Nat → Int} (h : Pr W rb n m D C) (h1 : ∀ v, v < n → D v = D' v) (h2 : ∀ v, v < n → C v = C' v) : Pr W rb n m D' C' := by
  obtain ⟨U, a, b, c, d⟩ := h
  exact ⟨U, a, fun v hv => (b v hv).trans (h1 v hv), fun v hv => (c v hv).trans (h2 v hv), d⟩
theorem Pr.setD {W : World} {rb n m : Nat} {D C : Nat → Int} (h : Pr W rb n m D C) (v : Nat) (hv : v < n) (x : Int) : Pr (W.setCell ⟨rb, v, none⟩ (.int .u64 x)) rb n m (up D v x) C := by
  obtain ⟨U, a, b, c, d⟩ := h
  refine ⟨_, (a.set v x).1, fun u hu => ?_, fun u hu => ?_, fun j h1 h2 => ?_⟩
  · by_cases e : u = v
    · subst e; rw [up_eq, up_eq]
    · rw [up_ne _ _ _ _ e, up_ne _ _ _ _ e]; exact b u hu
  · rw [up_ne _ _ _ _ (by omega)]; exact c u hu
  · rw [up_ne _ _ _ _ (by omega)]; exact d j h1 h2
theorem Pr.setC {W : World} {rb n m : Nat} {D C : Nat → Int} (h : Pr W rb n m D C) (v : Nat) (hv : v < n) (x : Int) : Pr (W.setCell ⟨rb, n + v, none⟩ (.int .u64 x)) rb n m D (up C v x) := by
  obtain ⟨U, a, b, c, d⟩ := h
  refine ⟨_, (a.set (n + v) x).1, fun u hu => ?_, fun u hu => ?_, fun j h1 h2 => ?_⟩
  · rw [up_ne _ _ _ _ (by omega)]; exact b u hu
  · by_cases e : u = v
    · subst e; rw [up_eq, up_eq]
    · rw [up_ne _ _ _ _ (by omega), up_ne _ _ _ _ e]; exact c u hu
  · rw [up_ne _ _ _ _ (by omega)]; exact d j h1 h2
set_option maxHeartbeats 4000000 in
theorem fillc_any (n m rb : Nat) (D C : Nat → Int) (x : Int) (hm : 2 * n ≤ m) (hn : n ≤ 5000) (w : World) (h : Pr w rb n m D C) :
    Calls Try.prog 57 #[.slice (some ⟨rb, n, none⟩) n n, .int .u64 x] w fun e w' => (∃ v, e = .returned v) ∧ Pr w' rb n m D (fun _ => x) ∧ Ch (fun k => k = rb) w w' := by
  have HP := hide h
  clear h
  go_enter Try.func57, Try.ntmps57
  go_wp2_with (fail)
  go_loopw [7] (fun t wr => ∃ j : Nat, j ≤ n ∧ t = .int .i64 j ∧ Hid (Pr wr rb n m D (fun v => if v < j then x else C v)) ∧ Hid (Ch (fun k => k = rb) w wr)) (fun t _ => n - (intOf t).toNat)
  case atStart => exact ⟨0, Nat.zero_le _, rfl, HP.out.ext (fun _ _ => rfl) (fun v hv => by simp), Ch.refl _ _⟩
  case round =>
    clear HP
    obtain ⟨j, hj, rfl, HP, HC⟩ := hrel
    by_cases cc : j < n
    · have hcc : (j : Int) < (n : Int) := by omega
      have hf := HP.out.fz (n + j)
      have hc := HP.out.c hm j cc
      have HP1 : Hid (Pr (wr.setCell ⟨rb, n + j, none⟩ (.int .u64 x)) rb n m D (fun v => if v < j + 1 then x else C v)) := (HP.out.setC j cc x).ext (fun _ _ => rfl) (fun v hv => by
        by_cases e : v = j
        · subst e; rw [up_eq, if_pos (by omega)]
        · rw [up_ne _ _ _ _ e]
          by_cases e2 : v < j
          · rw [if_pos e2, if_pos (by omega)]
          · rw [if_neg e2, if_neg (by omega)])
      have HC1 : Hid (Ch (fun k => k = rb) w (wr.setCell ⟨rb, n + j, none⟩ (.int .u64 x))) := HC.out.set _ _ (Or.inl rfl)
      clear HP HC
      go_wp2
      all_goals exact ⟨⟨j + 1, cc, by go_num, HP1, HC1⟩, by simp [intOf]; omega⟩
    · have hjn : n = j := by omega
      subst hjn
      have HE : Hid (Pr wr rb n m D (fun _ => x)) := HP.out.ext (fun _ _ => rfl) (fun v hv => if_pos hv)
      go_wp2
      go_end0
      exact ⟨⟨_, rfl⟩, HE.out, HC.out⟩
theorem Pr.zeros {rb n m : Nat} {C : Nat → Int} (l : Nat) : ∀ {W : World} {D : Nat → Int} (o : Nat), Pr W rb n m D C → o + l ≤ n → Pr (W.setCells rb o (List.replicate l (.int .u64 0))) rb n m (fun v => if o ≤ v ∧ v < o + l then 0 else D v) C := by
  induction l with
  | zero => intro W D o h _; exact h.ext (fun v hv => by rw [if_neg (by omega)]) (fun _ _ => rfl)
  | succ l ih =>
    intro W D o h ho
    rw [List.replicate_succ]
    exact (ih (o + 1) (h.setD o (by omega) 0) (by omega)).ext (fun v hv => by
      by_cases e : v = o
      · subst e; rw [if_neg (by omega), if_pos (by omega), up_eq]
      · by_cases e2 : o + 1 ≤ v ∧ v < o + 1 + l
        · rw [if_pos e2, if_pos (by omega)]
        · rw [if_neg e2, if_neg (by omega), up_ne _ _ _ _ e]) (fun _ _ => rfl)
theorem Ch.zeros {X : Nat → Prop} {w : World} {rb : Nat} (hx : X rb) (l : Nat) : ∀ {W : World} (o : Nat), Ch X w W → Ch X w (W.setCells rb o (List.replicate l (.int .u64 0))) := by
  induction l with
  | zero => intro W o h; exact h
  | succ l ih => intro W o h; rw [List.replicate_succ]; exact ih (o + 1) (h.set _ _ (Or.inl hx))
theorem clear_run (n m rb : Nat) (D C : Nat → Int) (hm : 2 * n ≤ m) (hn : 0 < n) (w : World) (h : Pr w rb n m D C) (ty : TypeId) : (Builtin.clear_ #[32] ty #[.slice (some ⟨rb, 0, none⟩) n (2 * n)]).run Try.prog w = .ok (.tuple #[]) (w.setCells rb 0 (List.replicate n (.int .u64 0))) :=
  Lib.run_clear_slice w 32 28 ty (.int .u64 0) Try.underlying32 (fun w => Try.zeroValue28 w) rfl rfl rb 0 n (2 * n) hn (fun j hj => by rw [Nat.zero_add, h.d hm j hj]; rfl) (fun j hj => h.fz _)
/-- Truths as words. -/
def w01 (H : Nat → Bool) : Nat → Int := fun v => if H v = true then 1 else 0
theorem w01_t {H : Nat → Bool} {v : Nat} (h : H v = true) : w01 H v = 1 := if_pos h
theorem w01_f {H : Nat → Bool} {v : Nat} (h : H v = false) : w01 H v = 0 := if_neg (by rw [h]; simp)
end Au
end Go.Proofs.Ytcepfmeoeepjdab
