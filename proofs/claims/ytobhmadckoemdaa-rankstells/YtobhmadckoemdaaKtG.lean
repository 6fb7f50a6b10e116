import Derived.Test.YtobhmadckoemdaaKtE
import Derived.Deep.RegionHeld3
namespace Go.Proofs.Ytobhmadckoemdaa
namespace Kt
open Go.RowKit Ieee Rn
set_option linter.unusedVariables false
set_option maxRecDepth 8000
def a6 (s : Nat → Int) (i : Nat) : Array Value := Array.ofFn (n := 6) fun k => .int .u64 (if k.val < i then s k.val else 0)
theorem a6_size (s : Nat → Int) (i : Nat) : (a6 s i).size = 6 := by unfold a6; simp
theorem a6_at (s : Nat → Int) (i k : Nat) (h : k < 6) : (a6 s i)[k]? = some (.int .u64 (if k < i then s k else 0)) := by
  unfold a6; rw [Array.getElem?_ofFn]; simp [h]
theorem a6_set (s : Nat → Int) (i : Nat) (h : i < 6) : (a6 s i).setIfInBounds i (.int .u64 (s i)) = a6 s (i + 1) := by
  apply Array.ext
  · simp [a6_size]
  · intro k h1 h2
    have hk : k < 6 := by rw [a6_size] at h2; exact h2
    rw [Array.getElem_setIfInBounds]
    have e1 : ∀ j, (a6 s j)[k]? = some (.int .u64 (if k < j then s k else 0)) := fun j => a6_at s j k hk
    have e2 : (a6 s (i + 1))[k]'h2 = .int .u64 (if k < i + 1 then s k else 0) := by
      have := e1 (i + 1); rw [Array.getElem?_eq_getElem (by rw [a6_size]; exact hk)] at this; exact Option.some.inj this
    have e3 : (a6 s i)[k]'(by rw [a6_size]; exact hk) = .int .u64 (if k < i then s k else 0) := by
      have := e1 i; rw [Array.getElem?_eq_getElem (by rw [a6_size]; exact hk)] at this; exact Option.some.inj this
    rw [e2]
    by_cases c : i = k
    · subst c; rw [if_pos rfl, if_pos (by omega)]
    · rw [if_neg c, e3]
      by_cases d : k < i
      · rw [if_pos d, if_pos (by omega)]
      · rw [if_neg d, if_neg (by omega)]
    rw [a6_size]; exact hk
theorem a6_all (s : Nat → Int) : a6 s 6 = #[Value.int .u64 (s 0), .int .u64 (s 1), .int .u64 (s 2), .int .u64 (s 3), .int .u64 (s 4), .int .u64 (s 5)] := rfl
theorem sv_at (s : Nat → Int) (i : Nat) (h : i < 8) : (sv s)[i]? = some (.int .u64 (s i)) := by
  match i, h with
  | 0, _ => rfl
  | 1, _ => rfl
  | 2, _ => rfl
  | 3, _ => rfl
  | 4, _ => rfl
  | 5, _ => rfl
  | 6, _ => rfl
  | 7, _ => rfl
set_option maxHeartbeats 2000000 in
theorem rpairs_any (s : Nat → Int) (A U E : Int) (hA : Ty.Sg A) (hsm : #[Value.int .u64 (s 0), .int .u64 (s 1), .int .u64 (s 2), .int .u64 (s 3), .int .u64 (s 4), .int .u64 (s 5)] = Ty.sm A) (hS : Ty.Same A 1 0 U E) (hE : E = 0 ∨ E = 20) (w : World) :
    Calls Try.prog 12 #[.agg (sv s)] w fun e w' => e = .returned (.int .u32 (tot A U E)) ∧ Below w.heap.size w w' := by
  have HR := hide (rounded_any A U E hA hS hE)
  have hm : a6 s 6 = Ty.sm A := (a6_all s).trans hsm
  rw [← hm] at HR
  obtain ⟨B, hB⟩ : ∃ B, a6 s 6 = B := ⟨_, rfl⟩
  rw [hB] at HR
  have hsz : B.size = 6 := by rw [← hB]; exact a6_size s 6
  have HBB := hide hB
  generalize tot A U E = T at *
  clear hA hsm hS hE hm hB
  go_enter Try.func12, Try.ntmps12
  go_wp2
  go_loopw [4] (fun v wr => ∃ i : Nat, i ≤ 6 ∧ v = .int .i64 i ∧ wr = (w.alloc (.cells (sv s) 24)).alloc (.cells (a6 s i) 40)) (fun v _ => 6 - (intOf v).toNat)
  case atStart => exact ⟨0, by omega, rfl, rfl⟩
  case round =>
    obtain ⟨i, hi, rfl, rfl⟩ := hrel
    by_cases c : i < 6
    · have hc : ((w.alloc (.cells (sv s) 24)).alloc (.cells (a6 s i) 40)).cell? ⟨w.heap.size + 1, i, none⟩ = some (.int .u64 0) := by
        have h0 := at0 (w.alloc (.cells (sv s) 24)) (.cells (a6 s i) 40)
        rw [World.size_alloc] at h0
        have := (cell_of_row ((w.alloc (.cells (sv s) 24)).alloc (.cells (a6 s i) 40)) (w.heap.size + 1) i _ 40 (0, 0) h0).trans (a6_at s i i c)
        rw [if_neg (by omega)] at this; exact this
      have hd : ((w.alloc (.cells (sv s) 24)).alloc (.cells (a6 s i) 40)).cell? ⟨w.heap.size, i, none⟩ = some (.int .u64 (s i)) :=
        (cell_of_row ((w.alloc (.cells (sv s) 24)).alloc (.cells (a6 s i) 40)) w.heap.size i _ 24 (0, 0) (keep _ (at0 w (.cells (sv s) 24)))).trans (sv_at s i (by omega))
      have hx := a6_set s i c
      go_wp2
      exact ⟨⟨i + 1, by omega, by first | rfl | congr 1, rfl⟩, by simp [intOf]; omega⟩
    · have hi2 : i = 6 := by omega
      rw [show a6 s i = B by rw [hi2, HBB.out]]
      have hr : ((w.alloc (.cells (sv s) 24)).alloc (.cells B 40)).heap[w.heap.size + 1]? = some (.cells B 40 (0, 0)) := by
        have h0 := at0 (w.alloc (.cells (sv s) 24)) (.cells B 40)
        rw [World.size_alloc] at h0; exact h0
      have hb : Hid (Below w.heap.size w ((w.alloc (.cells (sv s) 24)).alloc (.cells B 40))) := by repeat first | exact Below.refl _ _ | refine bA ?_ (by first | exact Nat.le_refl _ | (simp only [World.size_alloc]; omega)) _
      have c2 : ¬ ((i : Int) < 6) := by omega
      clear hi2 c hi HBB
      go_wp2_with (refine wpList_loadN 6 40 22 Try.underlying40 size40 rfl _ rfl (w.heap.size + 1) B rfl hsz hr ?_)
      refine (HR.out _).mono ?_
      rintro e1 w1 ⟨rfl, hw1⟩
      have hb1 := hide (chain hb.out hw1)
      clear hw1 hr
      go_wp2
      all_goals go_ret
      all_goals exact ⟨rfl, hb1.out⟩
theorem rank_any (s : Nat → Int) (w : World) : Calls Try.prog 4 #[.agg (sv s)] w fun e w' => e = .returned (.int .u32 (IntKind.u32.wrap (s 6))) ∧ Below w.heap.size w w' := by
  have hb := hide (b1 w 24 (sv s))
  obtain ⟨x, hx⟩ : ∃ x, IntKind.u32.wrap (s 6) = x := ⟨_, rfl⟩
  go_enter Try.func4, Try.ntmps4
  go_wp2
  all_goals go_ret
  all_goals exact ⟨by first | rfl | simp [hx], hb.out⟩
theorem prod_any (s : Nat → Int) (w : World) : Calls Try.prog 5 #[.agg (sv s)] w fun e w' => e = .returned (.int .u32 (IntKind.u32.wrap (s 7))) ∧ Below w.heap.size w w' := by
  have hb := hide (b1 w 24 (sv s))
  go_enter Try.func5, Try.ntmps5
  go_wp2
  all_goals go_ret
  all_goals exact ⟨rfl, hb.out⟩
theorem cross_any (s : Nat → Int) (w : World) : Calls Try.prog 6 #[.agg (sv s)] w fun e w' => e = .returned (.int .u64 (s 0)) ∧ Below w.heap.size w w' := by
  have hb := hide (b1 w 24 (sv s))
  go_enter Try.func6, Try.ntmps6
  go_wp2
  all_goals go_ret
  all_goals exact ⟨rfl, hb.out⟩
abbrev K8 (b : Nat) (c : Nat → Int) (w : World) : Prop := w.cell? ⟨b, 0, none⟩ = some (.int .u64 (c 0)) ∧ w.cell? ⟨b, 1, none⟩ = some (.int .u64 (c 1)) ∧ w.cell? ⟨b, 2, none⟩ = some (.int .u64 (c 2)) ∧ w.cell? ⟨b, 3, none⟩ = some (.int .u64 (c 3)) ∧ w.cell? ⟨b, 4, none⟩ = some (.int .u64 (c 4)) ∧ w.cell? ⟨b, 5, none⟩ = some (.int .u64 (c 5)) ∧ w.cell? ⟨b, 6, none⟩ = some (.int .u64 (c 6)) ∧ w.cell? ⟨b, 7, none⟩ = some (.int .u64 (c 7))
theorem k8 {w : World} {b : Nat} {c : Nat → Int} {t : TypeId} (h : w.heap[b]? = some (.cells (sv c) t (0, 0))) : K8 b c w := by
  refine ⟨?_, ?_, ?_, ?_, ?_, ?_, ?_, ?_⟩ <;> exact (cell_of_row w b _ _ t (0, 0) h).trans rfl
theorem K8.on {b n : Nat} {c : Nat → Int} {w w' : World} (h : K8 b c w) (hB : Below n w w') (hb : b < n) : K8 b c w' :=
  ⟨(hB.cell hb).trans h.1, (hB.cell hb).trans h.2.1, (hB.cell hb).trans h.2.2.1, (hB.cell hb).trans h.2.2.2.1, (hB.cell hb).trans h.2.2.2.2.1, (hB.cell hb).trans h.2.2.2.2.2.1, (hB.cell hb).trans h.2.2.2.2.2.2.1, (hB.cell hb).trans h.2.2.2.2.2.2.2⟩
abbrev BB (X W : World) : Prop := Below X.heap.size X W
set_option maxHeartbeats 8000000 in
theorem tells_any (s : Nat → Int) (hs : ∀ i, 0 ≤ s i ∧ s i < 18446744073709551616) (w : World) : Calls Try.prog 3 #[.agg (sv s)] w fun e w' => e = .returned (.bool true) ∧ Below w.heap.size w w' := by
  obtain ⟨A, hA, hsm⟩ := six_ex s hs
  obtain ⟨U, E, hS, hE⟩ := round_ex A hA
  have H4 := hide (rank_any s)
  have H5 := hide (prod_any s)
  have H6 := hide (cross_any s)
  have H7 := hide (share_any s hs)
  have H8 := hide (rshare_any s hs)
  have H9 := hide (size_any s hs)
  have H10 := hide (rsize_any (s 0) (hs 0).1 (hs 0).2)
  have H11 := hide (pairs_any s A U E hA hsm hS hE)
  have H12 := hide (rpairs_any s A U E hA hsm hS hE)
  generalize sh (s 0) (min (s 1) (s 2)) = x1 at *
  generalize siz (s 0) = x2 at *
  generalize tot A U E = x3 at *
  have q1 : (x1 == x1) = true := by simp
  have q2 : (x2 == x2) = true := by simp
  have q3 : (x3 == x3) = true := by simp
  have q4 : (IntKind.u32.wrap (s 6) == IntKind.u32.wrap (s 6)) = true := by simp
  have q5 : (IntKind.u32.wrap (s 7) == IntKind.u32.wrap (s 7)) = true := by simp
  have q6 : (s 0 == s 0) = true := by simp
  have HB0 := hide (b1 w 24 (sv s))
  have HSX : Hid (∀ W, BB (w.alloc (.cells (sv s) 24)) W → K8 w.heap.size s W) := fun W hB => (k8 (t := 24) (at0 w (.cells (sv s) 24))).on hB (by simp only [World.size_alloc]; omega)
  have HT1 : Hid (∀ W W', BB (w.alloc (.cells (sv s) 24)) W → Below W.heap.size W W' → BB (w.alloc (.cells (sv s) 24)) W') := fun W W' h hB => h.trans (hB.mono h.size)
  have HBX : Hid (∀ W, BB (w.alloc (.cells (sv s) 24)) W → Below w.heap.size w W) := fun W hB => HB0.out.trans (hB.mono (by simp only [World.size_alloc]; omega))
  have hw : Hid (BB (w.alloc (.cells (sv s) 24)) (w.alloc (.cells (sv s) 24)).drew) := belowD (Below.refl _ _)
  clear hs hA hsm hS hE
  go_enter Try.func3, Try.ntmps3
  go_wp2_with (fail)
  go_region_held3 (K8 w.heap.size s) ((with_reducible exact HSX.out _ hw.out)) ((first
    | (go_at_call 4; refine (H4.out _).mono ?_; rintro e9 w9 ⟨rfl, hx⟩; replace hw := hide (HT1.out _ _ hw.out hx); clear hx)
    | (go_at_call 5; refine (H5.out _).mono ?_; rintro e9 w9 ⟨rfl, hx⟩; replace hw := hide (HT1.out _ _ hw.out hx); clear hx)
    | (go_at_call 6; refine (H6.out _).mono ?_; rintro e9 w9 ⟨rfl, hx⟩; replace hw := hide (HT1.out _ _ hw.out hx); clear hx)
    | (go_at_call 7; refine (H7.out _).mono ?_; rintro e9 w9 ⟨rfl, hx⟩; replace hw := hide (HT1.out _ _ hw.out hx); clear hx)
    | (go_at_call 8; refine (H8.out _).mono ?_; rintro e9 w9 ⟨rfl, hx⟩; replace hw := hide (HT1.out _ _ hw.out hx); clear hx)
    | (go_at_call 9; refine (H9.out _).mono ?_; rintro e9 w9 ⟨rfl, hx⟩; replace hw := hide (HT1.out _ _ hw.out hx); clear hx)
    | (go_at_call 10; refine (H10.out _).mono ?_; rintro e9 w9 ⟨rfl, hx⟩; replace hw := hide (HT1.out _ _ hw.out hx); clear hx)
    | (go_at_call 11; refine (H11.out _).mono ?_; rintro e9 w9 ⟨rfl, hx⟩; replace hw := hide (HT1.out _ _ hw.out hx); clear hx)
    | (go_at_call 12; refine (H12.out _).mono ?_; rintro e9 w9 ⟨rfl, hx⟩; replace hw := hide (HT1.out _ _ hw.out hx); clear hx)))
  all_goals go_wp2
  all_goals go_ret
  all_goals exact ⟨rfl, HBX.out _ hw.out⟩
end Kt
end Go.Proofs.Ytobhmadckoemdaa
