import Derived.Test.YtcepfmeoeepjdaaAzA
namespace Go.Proofs.Ytcepfmeoeepjdaa
namespace Au
open Go.RowKit
set_option linter.unusedVariables false
set_option maxRecDepth 8000
theorem ret_u {x R : Int} (h : x = R) : Ending.returned (.int .u64 x) = .returned (.int .u64 R) := by rw [h]
theorem rf_root (N2 m rb : Nat) (Q : List (Nat × Nat)) (ro : Nat → Int) (v : Nat) (hv : v < N2) (hnm : N2 ≤ m) (hn : N2 ≤ 10000) (w : World) (hR : Rf w rb N2 m Q ro) (a : Int) (ha : a = (v : Int)) :
    Calls Try.prog 47 #[.slice (some ⟨rb, 0, none⟩) N2 N2, .int .u64 a] w fun e w' => e = .returned (.int .u64 (ro v)) ∧ Rf w' rb N2 m Q ro ∧ Ch (fun k => k = rb) w w' := by
  subst ha
  obtain ⟨U, hU, hF, hO⟩ := hR
  refine (root47 N2 m rb Q U ro hnm hn v hv w hU hF).mono ?_
  rintro e w' ⟨h1, U', h2, h3, _, h4, h5⟩
  exact ⟨h1, ⟨U', h2, h3, fun t h6 h7 => (h4 t h6).trans (hO t h6 h7)⟩, h5⟩
set_option maxHeartbeats 4000000 in
theorem colour46 (n N2 m rb : Nat) (Q : List (Nat × Nat)) (ro : Nat → Int) (v : Nat) (hv : v < n) (hN : N2 = 2 * n) (hnm : N2 ≤ m) (hn : n ≤ 5000) (w : World) (hR : Rf w rb N2 m Q ro) :
    Calls Try.prog 90 #[.slice (some ⟨rb, 0, none⟩) N2 N2, .int .u32 (v : Int)] w fun e w' => e = .returned (.int .u64 (col n ro v)) ∧ Rf w' rb N2 m Q ro ∧ Ch (fun k => k = rb) w w' := by
  have hwv : IntKind.u64.wrap (v : Int) = v := wu _ (by omega) (by omega)
  have HT := hide (turned_any n N2 rb v hN hn hv)
  have HR1 := hide (rf_root N2 m rb Q ro v (by omega) hnm (by omega) w hR (v : Int) rfl)
  have HR2 : Hid (∀ W, Rf W rb N2 m Q ro → Calls Try.prog 47 #[.slice (some ⟨rb, 0, none⟩) N2 N2, .int .u64 ((v : Int) + (n : Int))] W fun e w' => e = .returned (.int .u64 (ro (v + n))) ∧ Rf w' rb N2 m Q ro ∧ Ch (fun k => k = rb) W w') := fun W h => rf_root N2 m rb Q ro (v + n) (by omega) hnm (by omega) W h _ (by omega)
  obtain ⟨p, hp⟩ : ∃ p, ro v = p := ⟨_, rfl⟩
  obtain ⟨q, hq⟩ : ∃ q, ro (v + n) = q := ⟨_, rfl⟩
  obtain ⟨R, hR0⟩ : ∃ R, col n ro v = R := ⟨_, rfl⟩
  have hR1 : (if p = q then (2 : Int) else if p < q then 0 else 1) = R := by rw [← hR0]; unfold col; rw [hp, hq]
  rw [hR0]
  rw [hp] at HR1
  rw [hq] at HR2
  have HRR := hide hR1
  clear hp hq hR hN hR0 hR1
  go_enter Try.func90, Try.ntmps90
  go_wp2_with (fail)
  refine HR1.out.mono ?_
  rintro e1 w1 ⟨rfl, hR1, hC1⟩
  have HC1 := hide hC1
  have HRa := hide hR1
  clear hC1 hR1 HR1
  go_wp2_with (fail)
  refine (HT.out w1).mono ?_
  rintro e2 w2 ⟨rfl, hw2⟩
  subst w2
  go_wp2_with (fail)
  refine (HR2.out _ HRa.out).mono ?_
  rintro e3 w3 ⟨rfl, hR3, hC3⟩
  have HE : Hid (Rf w3 rb N2 m Q ro ∧ Ch (fun k => k = rb) w w3) := ⟨hR3, HC1.out.trans hC3⟩
  clear HT HR2 HRa HC1 hR3 hC3
  by_cases h1 : p = q
  · have hb : (p == q) = true := by simpa using h1
    have HR : Hid (2 = R) := by show _ = _; rw [← HRR.out, if_pos h1]
    clear HRR h1
    go_wp2
    all_goals go_ret
    all_goals exact ⟨ret_u HR.out, HE.out⟩
  · have hb : (p == q) = false := by simpa using h1
    by_cases h2 : p < q
    · have hd : decide (p < q) = true := by simpa using h2
      have HR : Hid (0 = R) := by show _ = _; rw [← HRR.out, if_neg h1, if_pos h2]
      clear HRR h1
      go_wp2
      all_goals go_ret
      all_goals exact ⟨ret_u HR.out, HE.out⟩
    · have hd : decide (p < q) = false := by simpa using h2
      have HR : Hid (1 = R) := by show _ = _; rw [← HRR.out, if_neg h1, if_neg h2]
      clear HRR h1
      go_wp2
      all_goals go_ret
      all_goals exact ⟨ret_u HR.out, HE.out⟩
abbrev S45 (sb fb rb sg v N2 sn sc : Nat) (s0 : Int) (w : World) : Prop := w.cell? ⟨sb, 0, none⟩ = some (.slice (some ⟨sg, 0, none⟩) sn sc) ∧ w.cell? ⟨fb, 0, none⟩ = some (.slice (some ⟨rb, 0, none⟩) N2 N2) ∧ w.cell? ⟨sg, v * 8, none⟩ = some (.int .u64 s0)
set_option maxHeartbeats 4000000 in
theorem rule45 (n N2 m rb fb sb sg sn sc : Nat) (Q : List (Nat × Nat)) (ro : Nat → Int) (S : Nat → Nat → Int) (v : Nat) (hv : v < n) (hs : n ≤ sn) (hN : N2 = 2 * n) (hnm : N2 ≤ m) (hn : n ≤ 5000) (w : World) (hR : Rf w rb N2 m Q ro) (hb : Boxed w fb 70 (.slice (some ⟨rb, 0, none⟩) N2 N2)) (hsb : Boxed w sb 23 (.slice (some ⟨sg, 0, none⟩) sn sc)) (hS : SR w sg sn S) (h1 : fb ≠ rb) (h2 : sb ≠ rb) (h3 : sg ≠ rb) :
    Calls Try.prog 89 #[.int .u32 (v : Int), .pointer (some ⟨sb, 0, none⟩), .pointer (some ⟨fb, 0, none⟩)] w fun e w' => e = .returned (.bool (S v 0 != col n ro v)) ∧ Rf w' rb N2 m Q ro ∧ Ch (fun k => k = rb) w w' := by
  have HS : Hid (S45 sb fb rb sg v N2 sn sc (S v 0) w.drew) := ⟨hsb.cell, hb.cell, hS.c v (by omega) 0 (by omega)⟩
  have HK : Hid (∀ w1, Ch (fun k => k = rb) w.drew w1 → S45 sb fb rb sg v N2 sn sc (S v 0) w1) := fun w1 hC => ⟨(hC.cell (p := ⟨sb, 0, none⟩) hsb.lt h2).trans hsb.cell, (hC.cell (p := ⟨fb, 0, none⟩) hb.lt h1).trans hb.cell, (hC.cell (p := ⟨sg, v * 8, none⟩) hS.lt h3).trans (hS.c v (by omega) 0 (by omega))⟩
  have HR := hide (colour46 n N2 m rb Q ro v hv hN hnm hn w.drew (hR.of rfl))
  have hsn : v < sn := by omega
  obtain ⟨C, hC⟩ : ∃ C, col n ro v = C := ⟨_, rfl⟩
  rw [hC] at HR ⊢
  clear hb hsb hS hN hR hC
  go_enter Try.func89, Try.ntmps89
  go_wp2_with (fail)
  go_region_held3 (S45 sb fb rb sg v N2 sn sc (S v 0)) ((first | with_reducible exact HS.out | with_reducible exact HK.out _ HC3.out)) ((first | (go_at_call 90; refine HR.out.mono ?_; rintro e3 w3 ⟨rfl, hG, hC3⟩; have HC3 := hide hC3; have HG := hide hG; clear hC3 hG) | fail "no arm"))
  have HE : Hid (Rf w3 rb N2 m Q ro ∧ Ch (fun k => k = rb) w w3) := ⟨HG.out, (Ch.drew (Ch.refl _ w)).trans HC3.out⟩
  clear HG HC3 HR HS HK
  go_wp2
  all_goals go_ret
  all_goals exact ⟨rfl, HE.out⟩
end Au
end Go.Proofs.Ytcepfmeoeepjdaa
