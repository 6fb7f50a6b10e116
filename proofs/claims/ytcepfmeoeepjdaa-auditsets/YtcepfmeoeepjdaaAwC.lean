import Derived.Test.YtcepfmeoeepjdaaAwB
namespace Go.Proofs.Ytcepfmeoeepjdaa
namespace Au
open Go.RowKit
set_option linter.unusedVariables false
set_option maxRecDepth 8000
/-- A vertex and its neighbour that comes ahead. -/
def nb (N A C : Nat) (e : T3) : Option (Nat × Nat) := if pl N A C e.1 < pl N A C e.2.1 then some (e.2.1, e.1) else if pl N A C e.2.1 < pl N A C e.1 then some (e.1, e.2.1) else none
set_option maxHeartbeats 4000000 in
theorem near98 (N A C K2 rbx sbx x y z : Nat) (bx2 : Array Value) (hN : N < 4294967296) (hA : A < 4294967296) (R : World → Prop) (X : Nat → Prop) (w : World)
    (HE2 : ∀ A W, (callFunc K2 A).run Try.prog W = .ok (.enter K2 A) W)
    (hr : w.heap[rbx]? = some (.cells (rk N A C) 27 (0, 0))) (hs : Boxed w sbx 98 (.func (.func K2) #[] bx2))
    (hno : nb N A C (x, y, z) = none → ∀ W, Below w.heap.size w W → R W)
    (hso : ∀ v u, nb N A C (x, y, z) = some (v, u) → ∀ W, Below w.heap.size w W → Calls Try.prog K2 (#[.int .u32 (v : Int), .int .u32 (u : Int)] ++ bx2) W fun r W' => (∃ x, r = .returned x) ∧ R W' ∧ Ch X W W') :
    Calls Try.prog 98 #[eV x y z, .pointer (some ⟨rbx, 0, none⟩), .pointer (some ⟨sbx, 0, none⟩)] w fun e w' => (∃ v, e = .returned v) ∧ R w' ∧ Ch X w w' := by
  obtain ⟨w0, hw0⟩ : ∃ w0, w.alloc (.cells #[.int .u32 x, .int .u32 y, .int .u32 z] 73) = w0 := ⟨_, rfl⟩
  have hB0 : Below w.heap.size w w0 := by rw [← hw0]; exact b1 _ _ _
  have hrl := lt_of_some hr
  have hsl := hs.lt
  have hr0 : w0.heap[rbx]? = some (.cells (rk N A C) 27 (0, 0)) := (hB0.block _ hrl).trans hr
  have he0 : w0.heap[w.heap.size]? = some (.cells #[.int .u32 x, .int .u32 y, .int .u32 z] 73 (0, 0)) := by rw [← hw0]; exact at0 _ _
  have hs0 : Boxed w0 sbx 98 (.func (.func K2) #[] bx2) := (hB0.block _ hsl).trans hs
  have HP := hide (fun v => place_any N A C v hN hA)
  obtain ⟨k0, k1, k2⟩ := k3 hr0
  rw [← hw0] at k0 k1 k2
  have HW0 := hide hw0
  have HB0 := hide hB0
  have HR := hide hr0
  have Hs := hide hs0
  have He := hide he0
  have HNo := hide hno
  have HSo := hide hso
  clear hr hs hr0 he0 hs0 hw0 hB0 hno hso
  go_enter Try.func98, Try.ntmps98
  go_wp2_with (fail)
  rw [HW0.out]
  refine (HP.out x w0).mono ?_
  rintro e1 w1 ⟨rfl, hB1⟩
  have hr1 : w1.heap[rbx]? = some (.cells (rk N A C) 27 (0, 0)) := (hB1.block _ (lt_of_some HR.out)).trans HR.out
  have he1 : w1.heap[w.heap.size]? = some (.cells #[.int .u32 x, .int .u32 y, .int .u32 z] 73 (0, 0)) := (hB1.block _ (lt_of_some He.out)).trans He.out
  have HS1 : Hid (Boxed w1 sbx 98 (.func (.func K2) #[] bx2)) := (hB1.block _ Hs.out.lt).trans Hs.out
  have HB1 : Hid (Below w.heap.size w w1) := HB0.out.trans (hB1.mono HB0.out.size)
  obtain ⟨q0, q1, q2⟩ := k3 hr1
  have g1 : w1.cell? ⟨w.heap.size, 1, none⟩ = some (.int .u32 y) := (cell_of_row _ _ _ _ _ _ he1).trans rfl
  have He1 := hide he1
  clear k0 k1 k2 hB1 HR Hs He HB0 HW0 hr1 he1
  go_wp2_with (fail)
  refine (HP.out y w1).mono ?_
  rintro e2 w2 ⟨rfl, hB2⟩
  have he2 : w2.heap[w.heap.size]? = some (.cells #[.int .u32 x, .int .u32 y, .int .u32 z] 73 (0, 0)) := (hB2.block _ (lt_of_some He1.out)).trans He1.out
  have hs2 : Boxed w2 sbx 98 (.func (.func K2) #[] bx2) := (hB2.block _ HS1.out.lt).trans HS1.out
  have HB2 : Hid (Below w.heap.size w w2) := HB1.out.trans (hB2.mono HB1.out.size)
  have g0 : w2.cell? ⟨w.heap.size, 0, none⟩ = some (.int .u32 x) := (cell_of_row _ _ _ _ _ _ he2).trans rfl
  have g1' : w2.cell? ⟨w.heap.size, 1, none⟩ = some (.int .u32 y) := (cell_of_row _ _ _ _ _ _ he2).trans rfl
  have gs : w2.cell? ⟨sbx, 0, none⟩ = some (.func (.func K2) #[] bx2) := hs2.cell
  clear q0 q1 q2 g1 hB2 HS1 HB1 he2 hs2 He1 HP
  unfold nb at HNo HSo
  simp only at HNo HSo
  obtain ⟨px, hpx⟩ : ∃ p, pl N A C x = p := ⟨_, rfl⟩
  obtain ⟨py, hpy⟩ : ∃ p, pl N A C y = p := ⟨_, rfl⟩
  rw [hpx, hpy] at HNo HSo
  rw [hpx, hpy]
  by_cases h1 : px < py
  · have h1i : (px : Int) < (py : Int) := by omega
    have HC := hide (HSo.out y x (by rw [if_pos h1]) w2 HB2.out)
    clear HNo HSo hpx hpy
    go_wp2_with (fail)
    refine HC.out.mono ?_
    rintro e3 w3 ⟨⟨v3, rfl⟩, hR3, hC3⟩
    have HE : Hid (R w3 ∧ Ch X w w3) := ⟨hR3, (Ch.of HB2.out).trans hC3⟩
    clear hR3 hC3 HC
    go_wp2
    go_end0
    exact ⟨⟨_, rfl⟩, HE.out⟩
  · have h1i : ¬ (px : Int) < (py : Int) := by omega
    by_cases h2 : py < px
    · have h2i : (py : Int) < (px : Int) := by omega
      have HC := hide (HSo.out x y (by rw [if_neg h1, if_pos h2]) w2 HB2.out)
      clear HNo HSo hpx hpy
      go_wp2_with (fail)
      refine HC.out.mono ?_
      rintro e3 w3 ⟨⟨v3, rfl⟩, hR3, hC3⟩
      have HE : Hid (R w3 ∧ Ch X w w3) := ⟨hR3, (Ch.of HB2.out).trans hC3⟩
      clear hR3 hC3 HC
      go_wp2
      go_end0
      exact ⟨⟨_, rfl⟩, HE.out⟩
    · have h2i : ¬ (py : Int) < (px : Int) := by omega
      have HE : Hid (R w2 ∧ Ch X w w2) := ⟨HNo.out (by rw [if_neg h1, if_neg h2]) w2 HB2.out, Ch.of HB2.out⟩
      clear HNo HSo hpx hpy
      go_wp2
      go_end0
      exact ⟨⟨_, rfl⟩, HE.out⟩
theorem enters98 (A : Array Value) (W : World) : (callFunc 98 A).run Try.prog W = .ok (.enter 98 A) W := enters_of Try.func98 (by kernel_rfl) rfl A W
set_option maxHeartbeats 4000000 in
theorem near_any (qb n g Bt Bf K2 A C : Nat) (sl : Value) (bx2 : Array Value) (L : List T3) (f : Int) (X : Nat → Prop) (J : List T3 → World → Prop) (hn : n < 4294967296) (hA : A < 4294967296) (hlen : L.length ≤ 140737488351232) (w : World)
    (HE2 : ∀ A W, (callFunc K2 A).run Try.prog W = .ok (.enter K2 A) W)
    (hF : Fd w g Bt Bf L f) (hXg : ¬ X g) (hXt : ¬ X Bt) (hXf : ¬ X Bf) (hXl : ∀ k, X k → k < w.heap.size)
    (hq : ∀ pre W, J pre W → ∃ o, Iq W qb n 0 (fe Bt Bf) sl o)
    (hJ : ∀ pre W W', J pre W → (∀ k, k < w.heap.size → W'.heap[k]? = W.heap[k]?) → J pre W')
    (hno : ∀ pre e W, bad n 0 e = 0 → J pre W → nb n A C e = none → J (pre ++ [e]) W)
    (hso : ∀ pre e W v u, bad n 0 e = 0 → J pre W → w.heap.size ≤ W.heap.size → nb n A C e = some (v, u) → Calls Try.prog K2 (#[.int .u32 (v : Int), .int .u32 (u : Int)] ++ bx2) W fun r W' => (∃ x, r = .returned x) ∧ J (pre ++ [e]) W' ∧ Ch X W W')
    (h0 : J [] w) :
    Calls Try.prog 61 #[.pointer (some ⟨qb, 0, none⟩), .agg (rk n A C), .func (.func K2) #[] bx2] w fun e w' => ∃ E, e = .returned (.int .i64 E) ∧ E = fa n 0 L f ∧ Ch X w w' ∧ ((E = 0 ∧ J L w') ∨ (E ≠ 0 ∧ ∃ pre, J pre w')) := by
  obtain ⟨w0, hw0⟩ : ∃ w0, (w.alloc (.cells (rk n A C) 27)).alloc (.cells #[.func (.func K2) #[] bx2] 98) = w0 := ⟨_, rfl⟩
  have hB0 : Below w.heap.size w w0 := by rw [← hw0]; exact bA2 (b1 _ _ _) _
  have hsz : w0.heap.size = w.heap.size + 2 := by rw [← hw0]; simp
  have hr0 : w0.heap[w.heap.size]? = some (.cells (rk n A C) 27 (0, 0)) := by rw [← hw0]; exact keep _ (at0 _ _)
  have hs0 : Boxed w0 (w.heap.size + 1) 98 (.func (.func K2) #[] bx2) := by
    rw [← hw0]
    have h := Boxed.new (w.alloc (.cells (rk n A C) 27)) 98 (.func (.func K2) #[] bx2)
    rw [World.size_alloc] at h
    exact h
  have hXw : ¬ X w.heap.size := fun h => by have := hXl _ h; omega
  have hXw1 : ¬ X (w.heap.size + 1) := fun h => by have := hXl _ h; omega
  have HO := hide (over_any qb n g Bt Bf 98 0 sl #[.pointer (some ⟨w.heap.size, 0, none⟩), .pointer (some ⟨w.heap.size + 1, 0, none⟩)] L f X (fun pre W => J pre W ∧ W.heap[w.heap.size]? = some (.cells (rk n A C) 27 (0, 0)) ∧ Boxed W (w.heap.size + 1) 98 (.func (.func K2) #[] bx2)) (by decide) hlen w0 enters98 (hF.on (X := fun _ => False) (Ch.of hB0) (fun h => h) (fun h => h) (fun h => h)) hXg hXt hXf (fun k hk => by have := hXl k hk; omega)
    (fun pre W h => hq pre W h.1)
    (fun pre W W' h hk => ⟨hJ pre W W' h.1 (fun k hk2 => hk k (by omega)), (hk _ (by omega)).trans h.2.1, (hk _ (by omega)).trans h.2.2⟩)
    (fun pre e W hp hbad h hsz2 => by
      obtain ⟨a, b, c⟩ := h
      have hbl := lt_of_some b
      have hcl := c.lt
      refine (near98 n A C K2 w.heap.size (w.heap.size + 1) e.1 e.2.1 e.2.2 bx2 hn hA (fun W' => J (pre ++ [e]) W' ∧ W'.heap[w.heap.size]? = some (.cells (rk n A C) 27 (0, 0)) ∧ Boxed W' (w.heap.size + 1) 98 (.func (.func K2) #[] bx2)) X W HE2 b c ?_ ?_)
      · intro hn1 W' hB
        exact ⟨hJ _ _ _ (hno pre e W hbad a hn1) (fun k hk => hB.block k (by omega)), (hB.block _ hbl).trans b, (hB.block _ hcl).trans c⟩
      · intro v u hn1 W' hB
        have hs9 := hB.size
        refine (hso pre e W' v u hbad (hJ _ _ _ a (fun k hk => hB.block k (by omega))) (by omega) hn1).mono ?_
        rintro r W2 ⟨hv, hj, hC⟩
        exact ⟨hv, ⟨hj, (hC.block _ (by omega) hXw).trans ((hB.block _ hbl).trans b), (hC.block _ (by omega) hXw1).trans ((hB.block _ hcl).trans c)⟩, hC⟩)
    ⟨hJ _ _ _ h0 (fun k hk => hB0.block k hk), hr0, hs0⟩)
  have HB := hide hB0
  have HW := hide hw0
  clear hF hq hJ hno hso h0 hr0 hs0 hw0 hB0 hsz
  go_enter Try.func61, Try.ntmps61
  go_wp2_with (fail)
  rw [HW.out]
  refine HO.out.mono ?_
  rintro e2 w2 ⟨E, rfl, hE, hC2, hJ2⟩
  have HE : Hid (E = fa n 0 L f ∧ Ch X w w2 ∧ ((E = 0 ∧ J L w2) ∨ (E ≠ 0 ∧ ∃ pre, J pre w2))) := ⟨hE, (Ch.of HB.out).trans hC2, by
    rcases hJ2 with ⟨a, b⟩ | ⟨a, pre, b⟩
    · exact .inl ⟨a, b.1⟩
    · exact .inr ⟨a, pre, b.1⟩⟩
  clear hE hC2 hJ2 HO HB HW
  go_wp2
  all_goals go_ret
  all_goals exact ⟨E, rfl, HE.out⟩
end Au
end Go.Proofs.Ytcepfmeoeepjdaa
