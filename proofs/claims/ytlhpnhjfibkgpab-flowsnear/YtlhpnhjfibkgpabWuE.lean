import Derived.Test.YtlhpnhjfibkgpabWuB
namespace Go.Proofs.Ytlhpnhjfibkgpab
namespace Wp
open Go.RowKit
set_option linter.unusedVariables false
set_option maxRecDepth 8000
set_option maxHeartbeats 4000000 in
theorem levelled_any (lb n c : Nat) (A L C T : Nat → Int) (hn : n ≤ 1000) (h0 : C 0 = 0) (h1 : T 0 = 0) (hU : ∀ i, i < n → L i = 18446744073709551615 → C (i + 1) = C i ∧ T (i + 1) = T i) (hN : ∀ i, i < n → L i ≠ 18446744073709551615 → C (i + 1) = C i + 1 ∧ T (i + 1) = max (T i) (L i)) (hb : ∀ i, i ≤ n → 0 ≤ C i ∧ C i ≤ 1000000) (hA0 : A 0 = C n) (hA1 : A 1 = T n) (w : World) (hG : GU w lb n L) :
    Calls Try.prog 13 #[.agg (sv A), .slice (some ⟨lb, 0, none⟩) n c] w fun e w' => e = .returned (.bool true) ∧ Below w.heap.size w w' := by
  have HX : Hid (Below w.heap.size w (w.alloc (.cells (sv A) 36))) := b1 _ _ _
  have HG := hide (hG.on HX.out)
  have HA := hide (at0 w (.cells (sv A) 36))
  have HU := hide hU
  have HN := hide hN
  have HC := hide hb
  have HA0 := hide hA0
  have HA1 := hide hA1
  have H0 := hide h0
  have H1 := hide h1
  clear hG hU hN hb hA0 hA1 h0 h1
  go_enter Try.func13, Try.ntmps13
  go_wp2_with (fail)
  generalize w.alloc (.cells (sv A) 36) = w0 at *
  go_loop [5, 6, 7] (fun x y t => ∃ i : Nat, i ≤ n ∧ t = .int .i64 i ∧ x = .int .u64 (C i) ∧ y = .int .u64 (T i)) (fun _ _ t => n - (intOf t).toNat)
  case atStart => exact ⟨0, Nat.zero_le _, rfl, by rw [H0.out], by rw [H1.out]⟩
  case round =>
    obtain ⟨i, hi, rfl, rfl, rfl⟩ := hrel
    by_cases cc : i < n
    · have hc := HG.out.cell i cc
      by_cases e : L i = 18446744073709551615
      · have hb : (L i != 18446744073709551615) = false := by simp [e]
        have HE := hide (HU.out i cc e)
        clear e
        go_wp2
        all_goals exact ⟨⟨i + 1, cc, by go_num, by rw [HE.out.1], by rw [HE.out.2]⟩, by simp [intOf]; omega⟩
      · have hb : (L i != 18446744073709551615) = true := by simp [e]
        have HE := hide (HN.out i cc e)
        have hbi := HC.out i (by omega)
        have hw : IntKind.u64.wrap (C i + 1) = C i + 1 := wu _ (by omega) (by omega)
        clear e hbi
        go_wp2
        all_goals exact ⟨⟨i + 1, cc, by go_num, by rw [HE.out.1], by rw [HE.out.2, Int.max_def]; congr 1; split <;> split <;> omega⟩, by simp [intOf]; omega⟩
    · have hin : n = i := by omega
      subst hin
      have k8 := k8 HA.out
      have q0 := k8.1
      have q1 := k8.2.1
      rw [HA0.out] at q0
      rw [HA1.out] at q1
      clear cc hi k8
      go_wp2
      all_goals go_ret
      all_goals first | exact ⟨rfl, HX.out⟩ | exact ⟨ret_bool (by simp), HX.out⟩
set_option maxHeartbeats 4000000 in
theorem word1_any (sb n cap : Nat) (A C : Nat → Int) (k u : Int) (S : Nat → Nat → Int) (h1 : 1 ≤ n) (hn : n ≤ 1000) (w : World) (hS : SR w sb n S) :
    Calls Try.prog 12 #[.agg (rc (.slice (some ⟨sb, 0, none⟩) n cap) A C k u), .int .i64 1] w fun e w' => ∃ g c', e = .returned (.slice (some ⟨g, 0, none⟩) n c') ∧ GU w' g n (fun v => S v 1) ∧ Below w.heap.size w w' := by
  have HS := hide hS
  have HX : Hid (Below w.heap.size w (w.alloc (.cells (rc (.slice (some ⟨sb, 0, none⟩) n cap) A C k u) 40))) := b1 _ _ _
  have HR0 : Hid (Rn (w.alloc (.cells (rc (.slice (some ⟨sb, 0, none⟩) n cap) A C k u) 40)) w.heap.size (.slice (some ⟨sb, 0, none⟩) n cap) A C k u) := at0 _ _
  clear hS
  go_enter Try.func12, Try.ntmps12
  go_wp2_with (fail)
  generalize w.alloc (.cells (rc (.slice (some ⟨sb, 0, none⟩) n cap) A C k u) 40) = w0 at *
  go_loopw [5, 6] (fun v t wr => ∃ j : Nat, j ≤ n ∧ t = .int .i64 j ∧ Hid (wr.ownsRow (w.heap.size + 1) 34 1 v j (cu (fun v => S v 1) j)) ∧ Hid (Rn wr w.heap.size (.slice (some ⟨sb, 0, none⟩) n cap) A C k u) ∧ Hid (Below w.heap.size w wr)) (fun _ t _ => n - (intOf t).toNat)
  case atStart => exact ⟨0, Nat.zero_le _, rfl, World.ownsRow_nil _ _ _ _, HR0, HX⟩
  case round =>
    clear HR0 HX
    obtain ⟨j, hj, rfl, HO, HR, HB⟩ := hrel
    have hk := HR.out.kr.1
    by_cases cc : j < n
    · have HSr := hide (HS.out.on HB.out)
      have hc := (HSr.out.k8 j cc).2.1
      have HZ := hide HR.out.lt
      go_wp2_with (first | (refine wpList_append1 rfl _ _ rfl (w.heap.size + 1) u5 j (cu (fun v => S v 1) j) ⟨wr.heap.size, 0, none⟩ 1 (S j 1) rfl (HO.out.alloc _) rfl (cell_new wr _ _ 34 0 _ rfl rfl) (by omega) (by rw [World.size_alloc]; have := HZ.out; omega) ?_; intro v7 w7 hown7 hgr7) | fail)
      have HN5 : Hid (some w.heap.size ≠ u5.ownBlock) := fun e => by have := (World.ownsRow.lt HO.out _ e.symm).1; omega
      have HB6 : Hid (Below w.heap.size w (wr.alloc (.cells #[.int .u64 (S j 1)] 34))) := bA HB.out HB.out.size _
      have HB7 : Hid (Below w.heap.size w w7) := HB6.out.grown hgr7 HB6.out.size (fun q hq => by have := (World.ownsRow.lt HO.out q hq).1; omega)
      have HR7 : Hid (Rn w7 w.heap.size (.slice (some ⟨sb, 0, none⟩) n cap) A C k u) := (HR.out.on (b1 _ _ _)).of (hgr7.block _ (by rw [World.size_alloc]; have := HZ.out; omega) HN5.out)
      exact ⟨⟨j + 1, cc, by go_num, hown7, HR7, HB7⟩, by simp [intOf]; omega⟩
    · have hjn : n = j := by omega
      subst hjn
      obtain ⟨g, c', rfl, _, hG⟩ := own_gu HO.out h1
      have HG := hide hG
      clear cc hj hG
      go_wp2
      all_goals go_ret
      all_goals exact ⟨g, c', rfl, HG.out, HB.out⟩
end Wp
end Go.Proofs.Ytlhpnhjfibkgpab
