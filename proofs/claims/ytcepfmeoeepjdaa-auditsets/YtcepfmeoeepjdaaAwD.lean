import Derived.Test.YtcepfmeoeepjdaaAwC
namespace Go.Proofs.Ytcepfmeoeepjdaa
namespace Au
open Go.RowKit
set_option linter.unusedVariables false
set_option maxRecDepth 8000
theorem GU.zeros {rb m : Nat} (l : Nat) : ∀ {W : World} {U : Nat → Int} (o : Nat), GU W rb m U → GU (W.setCells rb o (List.replicate l (.int .u64 0))) rb m (fun v => if o ≤ v ∧ v < o + l then 0 else U v) := by
  induction l with
  | zero => intro W U o h; exact h.ext (fun v hv => by rw [if_neg (by omega)])
  | succ l ih =>
    intro W U o h
    rw [List.replicate_succ]
    exact (ih (o + 1) (h.set o 0).1).ext (fun v hv => by
      by_cases e : v = o
      · subst e; rw [if_neg (by omega), if_pos (by omega), up_eq]
      · by_cases e2 : o + 1 ≤ v ∧ v < o + 1 + l
        · rw [if_pos e2, if_pos (by omega)]
        · rw [if_neg e2, if_neg (by omega), up_ne _ _ _ _ e])
theorem gclear_run (n m rb : Nat) (U : Nat → Int) (hm : n ≤ m) (hn : 0 < n) (w : World) (h : GU w rb m U) (ty : TypeId) : (Builtin.clear_ #[32] ty #[.slice (some ⟨rb, 0, none⟩) n n]).run Try.prog w = .ok (.tuple #[]) (w.setCells rb 0 (List.replicate n (.int .u64 0))) :=
  Lib.run_clear_slice w 32 28 ty (.int .u64 0) Try.underlying32 (fun w => Try.zeroValue28 w) rfl rfl rb 0 n n hn (fun j hj => by rw [Nat.zero_add, h.cell j (by omega)]; rfl) (fun j hj => h.fz _)
/-- A room of noughts and ones. -/
def Ri (W : World) (rb n m : Nat) (H : Nat → Bool) : Prop := ∃ U, GU W rb m U ∧ (∀ v, v < n → U v = if H v = true then 1 else 0) ∧ ∀ x, n ≤ x → x < m → U x = 99
theorem Ri.of {W W' : World} {rb n m : Nat} {H : Nat → Bool} (h : Ri W rb n m H) (e : W'.heap[rb]? = W.heap[rb]?) : Ri W' rb n m H := by
  obtain ⟨U, a, b⟩ := h
  exact ⟨U, a.of e, b⟩
theorem Ri.lt {W : World} {rb n m : Nat} {H : Nat → Bool} (h : Ri W rb n m H) : rb < W.heap.size := by
  obtain ⟨U, a, b⟩ := h
  exact a.lt
theorem Ri.c {W : World} {rb n m : Nat} {H : Nat → Bool} (h : Ri W rb n m H) (hm : n ≤ m) (v : Nat) (hv : v < n) : W.cell? ⟨rb, v, none⟩ = some (.int .u64 (if H v = true then 1 else 0)) := by
  obtain ⟨U, a, b, c⟩ := h
  rw [a.cell v (by omega), b v hv]
theorem Ri.ext {W : World} {rb n m : Nat} {H H' : Nat → Bool} (h : Ri W rb n m H) (e : ∀ v, v < n → H v = H' v) : Ri W rb n m H' := by
  obtain ⟨U, a, b, c⟩ := h
  exact ⟨U, a, fun v hv => by rw [b v hv, e v hv], c⟩
theorem Ri.set {W : World} {rb n m : Nat} {H : Nat → Bool} (h : Ri W rb n m H) (v : Nat) (hv : v < n) : Ri (W.setCell ⟨rb, v, none⟩ (.int .u64 1)) rb n m (fun u => u == v || H u) := by
  obtain ⟨U, a, b, c⟩ := h
  refine ⟨_, (a.set v 1).1, fun u hu => ?_, fun x h1 h2 => ?_⟩
  · by_cases e : u = v
    · subst e; rw [up_eq]; simp
    · rw [up_ne _ _ _ _ e, b u hu]; simp [e]
  · rw [up_ne _ _ _ _ (by omega)]; exact c x h1 h2
abbrev S62 (sb mb rb sg u n sn sc : Nat) (s0 : Int) (w : World) : Prop := w.cell? ⟨sb, 0, none⟩ = some (.slice (some ⟨sg, 0, none⟩) sn sc) ∧ w.cell? ⟨mb, 0, none⟩ = some (.slice (some ⟨rb, 0, none⟩) n n) ∧ w.cell? ⟨sg, u * 8, none⟩ = some (.int .u64 s0)
set_option maxHeartbeats 4000000 in
theorem see62 (n m rb mb sb sg sn sc : Nat) (H : Nat → Bool) (S : Nat → Nat → Int) (v u : Nat) (hv : v < n) (hu : u < n) (hs : n ≤ sn) (hm : n ≤ m) (hn : n ≤ 10000) (w : World) (hR : Ri w rb n m H) (hb : Boxed w mb 32 (.slice (some ⟨rb, 0, none⟩) n n)) (hsb : Boxed w sb 23 (.slice (some ⟨sg, 0, none⟩) sn sc)) (hS : SR w sg sn S) :
    Calls Try.prog 62 #[.int .u32 (v : Int), .int .u32 (u : Int), .pointer (some ⟨sb, 0, none⟩), .pointer (some ⟨mb, 0, none⟩)] w fun e w' => (∃ x, e = .returned x) ∧ Ri w' rb n m (fun t => (t == v && S u 0 == 1) || H t) ∧ Ch (fun k => k = rb) w w' := by
  have c0 := hsb.cell
  have c1 := hb.cell
  have c2 := hS.c u (by omega) 0 (by omega)
  rw [Nat.add_zero] at c2
  have c3 := hR.c hm v hv
  have hfz : w.frozen? ⟨rb, v, none⟩ = false := by obtain ⟨U, a, _⟩ := hR; exact a.fz v
  have hu2 : u < sn := by omega
  by_cases h1 : S u 0 = 1
  · have hb1 : (S u 0 == 1) = true := by simpa using h1
    have HE : Hid (Ri (w.setCell ⟨rb, v, none⟩ (.int .u64 1)) rb n m (fun t => (t == v && S u 0 == 1) || H t)) := (hR.set v hv).ext (fun t ht => by simp [hb1])
    have HC : Hid (Ch (fun k => k = rb) w (w.setCell ⟨rb, v, none⟩ (.int .u64 1))) := (Ch.refl _ _).set _ _ (Or.inl rfl)
    clear hR hb hsb hS h1
    go_enter Try.func62, Try.ntmps62
    go_wp2
    go_end0
    exact ⟨⟨_, rfl⟩, HE.out, HC.out⟩
  · have hb1 : (S u 0 == 1) = false := by simpa using h1
    have HE : Hid (Ri w rb n m (fun t => (t == v && S u 0 == 1) || H t)) := hR.ext (fun t ht => by simp [hb1])
    clear hR hb hsb hS h1
    go_enter Try.func62, Try.ntmps62
    go_wp2
    go_end0
    exact ⟨⟨_, rfl⟩, HE.out, Ch.refl _ _⟩
theorem rule63 (sb sg sn sc : Nat) (S : Nat → Nat → Int) (v : Nat) (hv : v < sn) (w : World) (hsb : Boxed w sb 23 (.slice (some ⟨sg, 0, none⟩) sn sc)) (hS : SR w sg sn S) (hsn : sn ≤ 140737488351232) :
    Calls Try.prog 63 #[.int .u32 (v : Int), .pointer (some ⟨sb, 0, none⟩)] w fun e w' => e = .returned (.bool (decide (1 < S v 0))) ∧ w' = w := by
  have c0 := hsb.cell
  have c2 := hS.c v hv 0 (by omega)
  rw [Nat.add_zero] at c2
  clear hsb hS
  go_enter Try.func63, Try.ntmps63
  go_wp2
  all_goals go_ret
  all_goals exact ⟨rfl, rfl⟩
set_option maxHeartbeats 4000000 in
theorem rule64 (n m rb mb sb sg sn sc : Nat) (H : Nat → Bool) (S : Nat → Nat → Int) (v : Nat) (hv : v < n) (hs : n ≤ sn) (hm : n ≤ m) (w : World) (hR : Ri w rb n m H) (hb : Boxed w mb 32 (.slice (some ⟨rb, 0, none⟩) n n)) (hsb : Boxed w sb 23 (.slice (some ⟨sg, 0, none⟩) sn sc)) (hS : SR w sg sn S) (hsn : sn ≤ 140737488351232) :
    Calls Try.prog 64 #[.int .u32 (v : Int), .pointer (some ⟨sb, 0, none⟩), .pointer (some ⟨mb, 0, none⟩)] w fun e w' => e = .returned (.bool (S v 0 == 1 && H v)) ∧ w' = w := by
  have c0 := hsb.cell
  have c1 := hb.cell
  have c2 := hS.c v (by omega) 0 (by omega)
  rw [Nat.add_zero] at c2
  have c3 := hR.c hm v hv
  have hv2 : v < sn := by omega
  clear hR hb hsb hS
  cases hH : H v with
  | true =>
    rw [hH] at c3
    simp only [if_true] at c3
    cases h1 : (S v 0 == 1) with
    | true =>
      go_enter Try.func64, Try.ntmps64
      go_wp2
      all_goals go_ret
      all_goals exact ⟨rfl, rfl⟩
    | false =>
      go_enter Try.func64, Try.ntmps64
      go_wp2
      all_goals go_ret
      all_goals exact ⟨rfl, rfl⟩
  | false =>
    rw [hH] at c3
    simp only [Bool.false_eq_true, if_false] at c3
    cases h1 : (S v 0 == 1) with
    | true =>
      go_enter Try.func64, Try.ntmps64
      go_wp2
      all_goals go_ret
      all_goals exact ⟨rfl, rfl⟩
    | false =>
      go_enter Try.func64, Try.ntmps64
      go_wp2
      all_goals go_ret
      all_goals exact ⟨rfl, rfl⟩
set_option maxHeartbeats 4000000 in
theorem rule65 (n m rb mb sb sg sn sc : Nat) (H : Nat → Bool) (S : Nat → Nat → Int) (v : Nat) (hv : v < n) (hs : n ≤ sn) (hm : n ≤ m) (w : World) (hR : Ri w rb n m H) (hb : Boxed w mb 32 (.slice (some ⟨rb, 0, none⟩) n n)) (hsb : Boxed w sb 23 (.slice (some ⟨sg, 0, none⟩) sn sc)) (hS : SR w sg sn S) (hsn : sn ≤ 140737488351232) :
    Calls Try.prog 65 #[.int .u32 (v : Int), .pointer (some ⟨sb, 0, none⟩), .pointer (some ⟨mb, 0, none⟩)] w fun e w' => e = .returned (.bool (S v 0 == 0 && !H v)) ∧ w' = w := by
  have c0 := hsb.cell
  have c1 := hb.cell
  have c2 := hS.c v (by omega) 0 (by omega)
  rw [Nat.add_zero] at c2
  have c3 := hR.c hm v hv
  have hv2 : v < sn := by omega
  clear hR hb hsb hS
  cases hH : H v with
  | true =>
    rw [hH] at c3
    simp only [if_true] at c3
    cases h1 : (S v 0 == 0) with
    | true =>
      go_enter Try.func65, Try.ntmps65
      go_wp2
      all_goals go_ret
      all_goals exact ⟨rfl, rfl⟩
    | false =>
      go_enter Try.func65, Try.ntmps65
      go_wp2
      all_goals go_ret
      all_goals exact ⟨rfl, rfl⟩
  | false =>
    rw [hH] at c3
    simp only [Bool.false_eq_true, if_false] at c3
    cases h1 : (S v 0 == 0) with
    | true =>
      go_enter Try.func65, Try.ntmps65
      go_wp2
      all_goals go_ret
      all_goals exact ⟨rfl, rfl⟩
    | false =>
      go_enter Try.func65, Try.ntmps65
      go_wp2
      all_goals go_ret
      all_goals exact ⟨rfl, rfl⟩
end Au
end Go.Proofs.Ytcepfmeoeepjdaa
