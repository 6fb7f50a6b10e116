import Derived.Test.YtgoigcpdfecfhaaGreatDoorCrA
namespace Go.Proofs.YtgoigcpdfecfhaaGreatDoor
namespace Au
open Go.RowKit
set_option linter.unusedVariables false
set_option maxRecDepth 8000
theorem ni_any (a b : Int) (a0 : 0 ≤ a) (a1 : a < 18446744073709551616) (b0 : 0 ≤ b) (b1 : b < 18446744073709551616) (w : World) :
    Calls Tryz.prog 50 #[.int .u64 a, .int .u64 b] w fun e w' => e = .returned (.int .u64 (ni a b)) ∧ Below w.heap.size w w' := by
  have h := united_any a.toNat b.toNat (by omega) (by omega) w
  rw [Int.toNat_of_nonneg a0, Int.toNat_of_nonneg b0] at h
  exact h
theorem rni_any (a b : Int) (a0 : 0 ≤ a) (a1 : a < 18446744073709551616) (b0 : 0 ≤ b) (b1 : b < 18446744073709551616) (w : World) :
    Calls Tryz.prog 105 #[.int .u64 a, .int .u64 b] w fun e w' => e = .returned (.int .u64 (ni a b)) ∧ w' = w := by
  have h := rjoin_any a.toNat b.toNat (by omega) (by omega) w
  rw [Int.toNat_of_nonneg a0, Int.toNat_of_nonneg b0] at h
  exact h
set_option maxHeartbeats 8000000 in
theorem see49 (n m rb p q nb pb c1 c2 : Nat) (P G : Nat → Int) (x y z : Nat) (hx : x < n) (hy : y < n) (hnm : 2 * n ≤ m) (hn : n ≤ 10000) (hP : WB P) (hG : WB G) (w : World) (hR : Rg w rb n m p q P G) (hb : Boxed w nb 32 (.slice (some ⟨rb, q, none⟩) n c1)) (he : Boxed w pb 32 (.slice (some ⟨rb, p, none⟩) n c2)) (r1 : rb ≠ nb) (r2 : rb ≠ pb) :
    Calls Tryz.prog 49 #[eV x y z, .pointer (some ⟨nb, 0, none⟩), .pointer (some ⟨pb, 0, none⟩)] w fun e w' => (∃ v, e = .returned v) ∧ Rg w' rb n m p q P (stp P G (x, y, z)) ∧ Ch (fun k => k = rb) w w' := by
  obtain ⟨w0, hw0⟩ : ∃ w0, w.alloc (.cells #[.int .u32 x, .int .u32 y, .int .u32 z] 78) = w0 := ⟨_, rfl⟩
  have hB : Below w.heap.size w w0 := by rw [← hw0]; exact b1 _ _ _
  have hR0 : Rg w0.drew rb n m p q P G := hR.of (hB.block _ hR.lt)
  have hb0 : Boxed w0.drew nb 32 (.slice (some ⟨rb, q, none⟩) n c1) := (hB.block _ hb.lt).trans hb
  have he0 : Boxed w0.drew pb 32 (.slice (some ⟨rb, p, none⟩) n c2) := (hB.block _ he.lt).trans he
  have hx0 : w0.drew.heap[w.heap.size]? = some (.cells #[.int .u32 x, .int .u32 y, .int .u32 z] 78 (0, 0)) := by rw [← hw0]; exact at0 _ _
  have HS : Hid (S49 nb pb w.heap.size rb p q n c1 c2 x y (P x) w0.drew) := S49.mk hnm hx hy hR0 hb0 he0 hx0
  have g0 : w0.drew.cell? ⟨rb, q + y, none⟩ = some (.int .u64 (G y)) := hR0.q hnm y hy
  have hlt := hR.lt
  have HK : Hid (∀ W, Below w0.drew.heap.size w0.drew W → S49 nb pb w.heap.size rb p q n c1 c2 x y (P x) W) := fun W h => S49.mk hnm hx hy (hR0.of (h.block _ hR0.lt)) ((h.block _ hb0.lt).trans hb0) ((h.block _ he0.lt).trans he0) ((h.block _ (lt_of_some hx0)).trans hx0)
  have HK2 : Hid (∀ W, Below w0.drew.heap.size w0.drew W → ∀ v, S49 nb pb w.heap.size rb p q n c1 c2 x y (P x) (W.setCell ⟨rb, q + y, none⟩ (.int .u64 v))) := fun W h v => by
    have a := (hR0.of (h.block _ hR0.lt)).setq y hy v
    exact S49.mk hnm hx hy a ((Below.heap_setCell _ _ _ _ (Ne.symm r1)).trans ((h.block _ hb0.lt).trans hb0)) ((Below.heap_setCell _ _ _ _ (Ne.symm r2)).trans ((h.block _ he0.lt).trans he0)) ((Below.heap_setCell _ _ _ _ (by simp; omega)).trans ((h.block _ (lt_of_some hx0)).trans hx0))
  have HF : Hid (∀ W, Below w0.drew.heap.size w0.drew W → W.frozen? ⟨rb, q + y, none⟩ = false ∧ W.cell? ⟨rb, q + y, none⟩ = some (.int .u64 (G y))) := fun W h => by
    have a := hR0.of (h.block _ hR0.lt)
    exact ⟨a.fz _, a.q hnm y hy⟩
  have HU : Hid (Calls Tryz.prog 50 #[.int .u64 (G y), .int .u64 (P x)] w0.drew fun e w' => e = .returned (.int .u64 (ni (G y) (P x))) ∧ Below w0.drew.heap.size w0.drew w') := by
    exact ni_any (G y) (P x) (hG y).1 (hG y).2 (hP x).1 (hP x).2 _
  have HE : Hid (∀ W, Below w0.drew.heap.size w0.drew W → Rg (W.setCell ⟨rb, q + y, none⟩ (.int .u64 (ni (G y) (P x)))) rb n m p q P (stp P G (x, y, z)) ∧ Ch (fun k => k = rb) w (W.setCell ⟨rb, q + y, none⟩ (.int .u64 (ni (G y) (P x))))) := fun W h =>
    ⟨(hR0.of (h.block _ hR0.lt)).setq y hy _, ((Ch.of hB).drew.trans (Ch.of h)).set _ _ (Or.inl rfl)⟩
  have HW := hide hw0
  clear hw0 hR hb he hB hR0 hb0 he0 hx0 hP hG
  generalize ni (G y) (P x) = t at *
  go_enter Tryz.func49, Tryz.ntmps49
  go_wp2_with (fail)
  rw [HW.out]
  refine wp_region_noPanic ?_
  refine wp_region_held_drew (S := S49 nb pb w.heap.size rb p q n c1 c2 x y (P x)) (by kernel_rfl) (HS.out) (fun hHeld => ?_)
  refine wpAnyH_take (i := 0) (oi := _) (v := ?v0) rfl (by kernel_rfl) (by kernel_rfl) (by kernel_rfl) (fun _ _ _ h => h) (Or.inl ⟨by rfl, ?h0⟩) (by assumption) ?r0
  case h0 => (intro w9 hSw; (try dsimp only at hSw); go_simp; try with_reducible rfl)
  try simp only [Act.put, List.setIfInBounds_toArray]
  refine wpAnyH_take (i := 1) (oi := _) (v := ?v1) rfl (by kernel_rfl) (by kernel_rfl) (by kernel_rfl) (fun _ _ _ h => h) (Or.inl ⟨by rfl, ?h1⟩) (by assumption) ?r1
  case h1 => (intro w9 hSw; (try dsimp only at hSw); go_simp; try with_reducible rfl)
  try simp only [Act.put]
  refine wpAnyH_take (i := 2) (oi := _) (v := ?v2) rfl (by kernel_rfl) (by kernel_rfl) (by kernel_rfl) (fun _ _ _ h => h) (Or.inl ⟨by rfl, ?h2⟩) (by assumption) ?r2
  case h2 => (intro w9 hSw; (try dsimp only at hSw); go_simp; try with_reducible rfl)
  try simp only [Act.put]
  refine wpAnyH_take (i := 3) (oi := _) (v := ?v3) rfl (by kernel_rfl) (by kernel_rfl) (by kernel_rfl) (fun _ _ _ h => h) (Or.inl ⟨by rfl, ?h3⟩) (by assumption) ?r3
  case h3 => (intro w9 hSw; (try dsimp only at hSw); go_simp; try with_reducible rfl)
  try simp only [Act.put]
  refine wpAnyH_take (i := 4) (oi := _) (v := ?v4) rfl (by kernel_rfl) (by kernel_rfl) (by kernel_rfl) (fun _ _ _ h => h) (Or.inl ⟨by rfl, ?h4⟩) (by assumption) ?r4
  case h4 => (intro w9 hSw; (try dsimp only at hSw); go_simp; try with_reducible rfl)
  try simp only [Act.put]
  refine wpAnyH_take (i := 5) (oi := _) (v := ?v5) rfl (by kernel_rfl) (by kernel_rfl) (by kernel_rfl) (fun _ _ _ h => h) (Or.inl ⟨by rfl, ?h5⟩) (by assumption) ?r5
  case h5 => (intro w9 hSw; (try dsimp only at hSw); go_simp; try with_reducible rfl)
  try simp only [Act.put]
  refine wpAnyH_take (i := 6) (oi := _) (v := ?v6) rfl (by kernel_rfl) (by kernel_rfl) (by kernel_rfl) (fun _ _ _ h => h) (Or.inl ⟨by rfl, ?h6⟩) (by assumption) ?r6
  case h6 => (intro w9 hSw; (try dsimp only at hSw); go_simp; try with_reducible rfl)
  try simp only [Act.put]
  refine wpAnyH_take (i := 8) (oi := _) (v := ?v8) rfl (by kernel_rfl) (by kernel_rfl) (by kernel_rfl) (fun _ _ _ h => h) (Or.inl ⟨by rfl, ?h8⟩) (by assumption) ?r8
  case h8 => (intro w9 hSw; (try dsimp only at hSw); go_simp; try with_reducible rfl)
  try simp only [Act.put]
  refine wpAnyH_take (i := 9) (oi := _) (v := ?v9) rfl (by kernel_rfl) (by kernel_rfl) (by kernel_rfl) (fun _ _ _ h => h) (Or.inl ⟨by rfl, ?h9⟩) (by assumption) ?r9
  case h9 => (intro w9 hSw; (try dsimp only at hSw); go_simp; try with_reducible rfl)
  try simp only [Act.put]
  refine wpAnyH_take (i := 10) (oi := _) (v := ?v10) rfl (by kernel_rfl) (by kernel_rfl) (by kernel_rfl) (fun _ _ _ h => h) (Or.inl ⟨by rfl, ?h10⟩) (by assumption) ?r10
  case h10 => (intro w9 hSw; (try dsimp only at hSw); go_simp; try with_reducible rfl)
  try simp only [Act.put]
  refine wpAnyH_take (i := 11) (oi := _) (v := ?v11) rfl (by kernel_rfl) (by kernel_rfl) (by kernel_rfl) (fun _ _ _ h => h) (Or.inl ⟨by rfl, ?h11⟩) (by assumption) ?r11
  case h11 => (intro w9 hSw; (try dsimp only at hSw); go_simp; try with_reducible rfl)
  try simp only [Act.put]
  refine wpAnyH_take (i := 12) (oi := _) (v := ?v12) rfl (by kernel_rfl) (by kernel_rfl) (by kernel_rfl) (fun _ _ _ h => h) (Or.inl ⟨by rfl, ?h12⟩) (by assumption) ?r12
  case h12 => (intro w9 hSw; (try dsimp only at hSw); go_simp; try with_reducible rfl)
  try simp only [Act.put]
  refine wpAnyH_ready (rs := [7]) (by kernel_rfl) (by simp) ?_
  refine AllReadyH.cons (o := _) rfl (fun K hK => ?s7) ?m7
  case m7 => exact AllReadyH.nil
  go_simp
  refine hK.out _ _ (HS.out) (fun hHeld => ?_)
  clear hK K
  try simp only [Act.put, List.setIfInBounds_toArray, List.set_cons_zero, List.set_cons_succ]
  refine wpAnyH_ready (rs := [13]) (by kernel_rfl) (by simp) ?_
  refine AllReadyH.cons (o := _) rfl (fun K hK => ?s13) ?m13
  case m13 => exact AllReadyH.nil
  go_simp
  (go_at_call 50; refine HU.out.mono ?_; rintro e1 w1 ⟨rfl, hB1⟩; obtain ⟨hf1, hg1⟩ := HF.out _ hB1; have HB1 := hide hB1; clear hB1; go_wp2_with fail)
  refine hK.out _ _ (HK.out _ HB1.out) (fun hHeld => ?_)
  clear hK K
  try simp only [Act.put, List.setIfInBounds_toArray, List.set_cons_zero, List.set_cons_succ]
  refine wpAnyH_take (i := 14) (oi := _) (v := ?v14) rfl (by kernel_rfl) (by kernel_rfl) (by kernel_rfl) (fun _ _ _ h => h) (Or.inl ⟨by rfl, ?h14⟩) (by assumption) ?r14
  case h14 => (intro w9 hSw; (try dsimp only at hSw); go_simp; try with_reducible rfl)
  try simp only [Act.put, List.setIfInBounds_toArray]
  refine wpAnyH_ready (rs := [15]) (by kernel_rfl) (by simp) ?_
  refine AllReadyH.cons (o := _) rfl (fun K hK => ?s15) ?m15
  case m15 => exact AllReadyH.nil
  go_simp
  refine hK.out _ _ (HK2.out _ HB1.out _) (fun hHeld => ?_)
  clear hK K
  try simp only [Act.put, List.setIfInBounds_toArray, List.set_cons_zero, List.set_cons_succ]
  refine wpAnyH_done (by kernel_rfl) ?_ _
  refine NoPanic.normal ?_
  all_goals go_wp2
  all_goals go_end0
  all_goals exact ⟨⟨_, rfl⟩, HE.out _ HB1.out⟩
abbrev S52 (sb pb rb sg v p n c2 sn sc : Nat) (s0 c0 : Int) (w : World) : Prop := w.cell? ⟨sb, 0, none⟩ = some (.slice (some ⟨sg, 0, none⟩) sn sc) ∧ w.cell? ⟨pb, 0, none⟩ = some (.slice (some ⟨rb, p, none⟩) n c2) ∧ w.cell? ⟨sg, v * 8, none⟩ = some (.int .u64 s0) ∧ w.cell? ⟨rb, p + v, none⟩ = some (.int .u64 c0)
set_option maxHeartbeats 4000000 in
theorem rule52 (n m rb p q pb c2 sb sg sn sc : Nat) (P G : Nat → Int) (S : Nat → Nat → Int) (v : Nat) (hv : v < n) (hs : n ≤ sn) (hnm : 2 * n ≤ m) (hn : n ≤ 10000) (w : World) (hR : Rg w rb n m p q P G) (hb : Boxed w pb 32 (.slice (some ⟨rb, p, none⟩) n c2)) (hsb : Boxed w sb 23 (.slice (some ⟨sg, 0, none⟩) sn sc)) (hS : SR w sg sn S) :
    Calls Tryz.prog 52 #[.int .u32 (v : Int), .pointer (some ⟨sb, 0, none⟩), .pointer (some ⟨pb, 0, none⟩)] w fun e w' => e = .returned (.bool (S v 0 != P v)) ∧ w' = w.drew := by
  have HS : Hid (S52 sb pb rb sg v p n c2 sn sc (S v 0) (P v) w.drew) := ⟨hsb.cell, hb.cell, hS.c v (by omega) 0 (by omega), hR.p hnm v hv⟩
  have hsn : v < sn := by omega
  clear hR hb hsb hS
  go_enter Tryz.func52, Tryz.ntmps52
  go_wp2_with (fail)
  go_region_held3 (S52 sb pb rb sg v p n c2 sn sc (S v 0) (P v)) ((with_reducible exact HS.out)) ((fail))
  clear HS
  go_wp2
  all_goals go_ret
  all_goals exact ⟨rfl, rfl⟩
abbrev S51 (rb p q v : Nat) (a b : Int) (w : World) : Prop := w.cell? ⟨rb, p + v, none⟩ = some (.int .u64 a) ∧ w.cell? ⟨rb, q + v, none⟩ = some (.int .u64 b)
set_option maxHeartbeats 4000000 in
theorem equal_any (n m rb p q c1 c2 : Nat) (P G : Nat → Int) (hnm : 2 * n ≤ m) (hn : n ≤ 10000) (w : World) (hR : Rg w rb n m p q P G) :
    Calls Tryz.prog 51 #[.slice (some ⟨rb, p, none⟩) n c1, .slice (some ⟨rb, q, none⟩) n c2] w fun e w' => ∃ b : Bool, e = .returned (.bool b) ∧ (b = true ↔ ∀ v, v < n → P v = G v) ∧ Ch (fun _ => False) w w' := by
  have HR := hide hR
  clear hR
  go_enter Tryz.func51, Tryz.ntmps51
  go_wp2_with (fail)
  go_loopw [13] (fun t wr => ∃ v : Nat, v ≤ n ∧ t = .int .i64 v ∧ Hid (∀ u, u < v → P u = G u) ∧ Hid (Ch (fun _ => False) w wr)) (fun t _ => n - (intOf t).toNat)
  case atStart => exact ⟨0, Nat.zero_le _, rfl, fun u hu => by omega, Ch.refl _ _⟩
  case round =>
    obtain ⟨v, hv, rfl, HQ, HC⟩ := hrel
    by_cases cc : v < n
    · have hR1 : Rg wr.drew rb n m p q P G := HR.out.of (HC.out.block _ HR.out.lt (fun h => h))
      have HS : Hid (S51 rb p q v (P v) (G v) wr.drew) := ⟨hR1.p hnm v cc, hR1.q hnm v cc⟩
      have HC1 : Hid (Ch (fun _ => False) w wr.drew) := HC.out.drew
      clear hR1 HC
      by_cases hpg : P v = G v
      · have hb : (P v != G v) = false := by simp [hpg]
        have HQ1 : Hid (∀ u, u < v + 1 → P u = G u) := fun u hu => by
          by_cases e : u = v
          · rw [e]; exact hpg
          · exact HQ.out u (by omega)
        clear hpg
        go_wp2_with (fail)
        go_region_held3 (S51 rb p q v (P v) (G v)) ((with_reducible exact HS.out)) ((fail))
        clear HS
        go_wp2
        all_goals exact ⟨⟨v + 1, by omega, by go_num, HQ1, HC1⟩, by simp [intOf]; omega⟩
      · have hb : (P v != G v) = true := by simp [hpg]
        have HN : Hid ((false : Bool) = true ↔ ∀ v, v < n → P v = G v) := Iff.intro (fun h => by cases h) (fun h => absurd (h v cc) hpg)
        clear hpg
        go_wp2_with (fail)
        go_region_held3 (S51 rb p q v (P v) (G v)) ((with_reducible exact HS.out)) ((fail))
        clear HS
        go_wp2
        all_goals go_ret
        all_goals exact ⟨false, rfl, HN.out, HC1.out⟩
    · go_wp2
      all_goals go_ret
      all_goals exact ⟨true, rfl, ⟨fun _ u hu => HQ.out u (by omega), fun _ => rfl⟩, HC.out⟩
end Au
end Go.Proofs.YtgoigcpdfecfhaaGreatDoor
