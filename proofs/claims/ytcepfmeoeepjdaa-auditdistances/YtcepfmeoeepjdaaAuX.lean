import Derived.Test.YtcepfmeoeepjdaaAuW
namespace Go.Proofs.Ytcepfmeoeepjdaa
namespace Au
open Go.RowKit
set_option linter.unusedVariables false
set_option maxRecDepth 8000
theorem Pr.zeros {rb n m : Nat} {C : Nat → Int} (l : Nat) : ∀ {W : World} {D : Nat → Int} (o : Nat), Pr W rb n m D C → o + l ≤ n → Pr (W.setCells rb o (List.replicate l (.int .u64 0))) rb n m (fun v => if o ≤ v ∧ v < o + l then 0 else D v) C := by
  induction l with
  | zero => intro W D o h _; exact h.ext (fun v hv => by rw [if_neg (by omega)]) (fun _ _ => rfl)
  | succ l ih =>
    intro W D o h ho
    rw [List.replicate_succ]
    exact (ih (o + 1) (h.setD o (by omega) 0) (by omega)).ext (fun v hv => by
      by_cases e : v = o
      · subst e; rw [if_neg (by omega), if_pos (by omega), up_eq]
      · by_cases e2 : o + 1 ≤ v ∧ v < o + 1 + l
        · rw [if_pos e2, if_pos (by omega)]
        · rw [if_neg e2, if_neg (by omega), up_ne _ _ _ _ e]) (fun _ _ => rfl)
theorem Ch.zeros {X : Nat → Prop} {w : World} {rb : Nat} (hx : X rb) (l : Nat) : ∀ {W : World} (o : Nat), Ch X w W → Ch X w (W.setCells rb o (List.replicate l (.int .u64 0))) := by
  induction l with
  | zero => intro W o h; exact h
  | succ l ih => intro W o h; rw [List.replicate_succ]; exact ih (o + 1) (h.set _ _ (Or.inl hx))
theorem clear_run (n m rb : Nat) (D C : Nat → Int) (hm : 2 * n ≤ m) (hn : 0 < n) (w : World) (h : Pr w rb n m D C) (ty : TypeId) : (Builtin.clear_ #[32] ty #[.slice (some ⟨rb, 0, none⟩) n (2 * n)]).run Try.prog w = .ok (.tuple #[]) (w.setCells rb 0 (List.replicate n (.int .u64 0))) :=
  Lib.run_clear_slice w 32 28 ty (.int .u64 0) Try.underlying32 (fun w => Try.zeroValue28 w) rfl rfl rb 0 n (2 * n) hn (fun j hj => by rw [Nat.zero_add, h.d hm j hj]; rfl) (fun j hj => h.fz _)
theorem inc_same (C : Nat → Int) (x z v : Nat) : inc C (x, x, z) v = 0 := by unfold inc; rw [if_neg (by simp)]
set_option maxHeartbeats 4000000 in
theorem count1_any (n m rb pb qb : Nat) (D C : Nat → Int) (x y z : Nat) (hx : x < n) (hy : y < n) (hm : 2 * n ≤ m) (hn : n ≤ 5000) (hD : ∀ v, v < n → 0 ≤ D v ∧ D v < 1000000000000000) (w : World) (h : Pr w rb n m D C) (hb : Pb w pb qb rb n) :
    Calls Try.prog 117 #[eV x y z, .pointer (some ⟨pb, 0, none⟩)] w fun e w' => (∃ v, e = .returned v) ∧ Pr w' rb n m (fun v => D v + (inc C (x, y, z) v : Nat)) C ∧ Ch (fun k => k = rb) w w' := by
  obtain ⟨w0, hw0⟩ : ∃ w0, w.alloc (.cells #[.int .u32 x, .int .u32 y, .int .u32 z] 73) = w0 := ⟨_, rfl⟩
  have hB : Below w.heap.size w w0 := by rw [← hw0]; exact b1 _ _ _
  have hP0 : Pr w0 rb n m D C := h.of (hB.block _ h.lt)
  have hb0 : Pb w0 pb qb rb n := (hB.block _ hb.lt).trans hb
  obtain ⟨p0, p1, p2⟩ := hb0.k
  have cx := hP0.c hm x hx
  have cy := hP0.c hm y hy
  have dx := hP0.d hm x hx
  have dy := hP0.d hm y hy
  have HP := hide hP0
  have HC : Hid (Ch (fun k => k = rb) w w0) := Ch.of hB
  have HSk : Hid ((∀ v, inc C (x, y, z) v = 0) → Pr w0 rb n m (fun v => D v + (inc C (x, y, z) v : Nat)) C) := fun h0 => hP0.ext (fun v hv => by rw [h0 v]; simp) (fun _ _ => rfl)
  have HNE : Hid (pb ≠ rb) := fun e => by
    subst e
    obtain ⟨U, ⟨C', g, _⟩, _⟩ := hP0
    have h1 : w0.heap[pb]? = some (.cells (pv qb pb n) 91 (0, 0)) := hb0
    rw [g] at h1; simp at h1
  have HNE2 : Hid (w.heap.size ≠ rb) := (by have := h.lt; show w.heap.size ≠ rb; omega)
  clear hP0 hb0 hB h hb
  go_enter Try.func117, Try.ntmps117
  by_cases hxy : x = y
  · subst hxy
    have HE := hide (HSk.out (fun v => inc_same C x z v))
    have hxb : ((x : Int) != (x : Int)) = false := by simp
    rw [← hw0] at p0 p1 p2 cx cy dx dy
    have HW := hide hw0
    clear hw0 HSk
    go_wp2
    go_end0
    rw [HW.out]
    exact ⟨⟨_, rfl⟩, HE.out, HC.out⟩
  · have hxb : ((x : Int) != (y : Int)) = true := by simp; omega
    cases hbx : lb C x with
    | false =>
      have h1 : (C x == 18446744073709551615) = false := hbx
      have HE := hide (HSk.out (fun v => by unfold inc; rw [if_neg (fun h => by unfold lb at hbx; simp at hbx; exact hbx h.2.1)]))
      rw [← hw0] at p0 p1 p2 cx cy dx dy
      have HW := hide hw0
      clear hw0 HSk hbx
      go_wp2
      go_end0
      rw [HW.out]
      exact ⟨⟨_, rfl⟩, HE.out, HC.out⟩
    | true =>
      have h1 : (C x == 18446744073709551615) = true := hbx
      cases hby : lb C y with
      | false =>
        have h2 : (C y == 18446744073709551615) = false := hby
        have HE := hide (HSk.out (fun v => by unfold inc; rw [if_neg (fun h => by unfold lb at hby; simp at hby; exact hby h.2.2)]))
        rw [← hw0] at p0 p1 p2 cx cy dx dy
        have HW := hide hw0
        clear hw0 HSk hbx hby
        go_wp2
        go_end0
        rw [HW.out]
        exact ⟨⟨_, rfl⟩, HE.out, HC.out⟩
      | true =>
        have h2 : (C y == 18446744073709551615) = true := hby
        have bx := hD x hx
        have by' := hD y hy
        have wx : IntKind.u64.wrap (D x + 1) = D x + 1 := wu _ (by omega) (by omega)
        have wy : IntKind.u64.wrap (D y + 1) = D y + 1 := wu _ (by omega) (by omega)
        have hfx := HP.out.fz x
        have hP1 := HP.out.setD x hx (D x + 1)
        have hfy := hP1.fz y
        have dy1 := hP1.d hm y hy
        rw [up_ne _ _ _ _ (fun e => hxy e.symm)] at dy1
        have hP2 := hP1.setD y hy (D y + 1)
        have HE : Hid (Pr ((w0.setCell ⟨rb, x, none⟩ (.int .u64 (D x + 1))).setCell ⟨rb, y, none⟩ (.int .u64 (D y + 1))) rb n m (fun v => D v + (inc C (x, y, z) v : Nat)) C) := hP2.ext (fun v hv => by
          have hi : inc C (x, y, z) v = (if v = x then 1 else 0) + (if v = y then 1 else 0) := by
            unfold inc
            rw [if_pos ⟨hxy, by unfold lb at hbx; simpa using hbx, by unfold lb at hby; simpa using hby⟩]
          rw [hi]
          by_cases e1 : v = y
          · subst e1; rw [up_eq, if_neg (fun e => hxy e.symm), if_pos rfl]; simp
          · rw [up_ne _ _ _ _ e1, if_neg e1]
            by_cases e2 : v = x
            · subst e2; rw [up_eq, if_pos rfl]; simp
            · rw [up_ne _ _ _ _ e2, if_neg e2]; simp) (fun _ _ => rfl)
        have HC2 : Hid (Ch (fun k => k = rb) w ((w0.setCell ⟨rb, x, none⟩ (.int .u64 (D x + 1))).setCell ⟨rb, y, none⟩ (.int .u64 (D y + 1)))) := (HC.out.set _ _ (Or.inl rfl)).set _ _ (Or.inl rfl)
        have ho : ∀ (b j : Nat), b ≠ rb → (w0.setCell ⟨rb, x, none⟩ (.int .u64 (D x + 1))).cell? ⟨b, j, none⟩ = w0.cell? ⟨b, j, none⟩ := fun b j hb => World.cell?_of_block (Below.heap_setCell w0 ⟨rb, x, none⟩ (.int .u64 (D x + 1)) b hb)
        have q1 := (ho pb 1 HNE.out).trans p1
        have e0 : w0.cell? ⟨w.heap.size, 0, none⟩ = some (.int .u32 x) := by rw [← hw0]; exact cell_new w _ _ _ 0 _ rfl rfl
        have e1 : w0.cell? ⟨w.heap.size, 1, none⟩ = some (.int .u32 y) := by rw [← hw0]; exact cell_new w _ _ _ 1 _ rfl rfl
        have g0 := (ho w.heap.size 0 HNE2.out).trans e0
        have g1 := (ho w.heap.size 1 HNE2.out).trans e1
        rw [← hw0] at p0 p1 p2 cx cy dx dy hfx hfy dy1 q1 e0 e1 g0 g1
        have HW := hide hw0
        clear hw0 HSk hbx hby hP1 hP2 ho HP
        go_wp2
        go_end0
        rw [HW.out]
        exact ⟨⟨_, rfl⟩, HE.out, HC2.out⟩
end Au
end Go.Proofs.Ytcepfmeoeepjdaa
