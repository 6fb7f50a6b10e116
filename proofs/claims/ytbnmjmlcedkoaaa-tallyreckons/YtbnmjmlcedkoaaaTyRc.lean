import Derived.Test.YtbnmjmlcedkoaaaTyRs
namespace Go.Proofs.Ytbnmjmlcedkoaaa
namespace Ty
open Go.RowKit
set_option linter.unusedVariables false
set_option maxHeartbeats 1600000 in
set_option maxRecDepth 8000 in
theorem rcompare_any (A B : Int) (ha : Sg A) (hb : Sg B) (w : World) :
    Calls Try.prog 27 #[.agg (sm A), .agg (sm B)] w fun e w' => e = .returned (.int .i64 (cp A B)) ∧ Below w.heap.size w w' := by
  obtain ⟨v, hv, hvb, hv0, hv1⟩ : ∃ v, (w.alloc (.cells (sm A) 29)).alloc (.cells (sm B) 29) = v ∧ Below w.heap.size w v ∧ v.heap[w.heap.size]? = some (.cells (sm A) 29 (0, 0)) ∧ v.heap[w.heap.size + 1]? = some (.cells (sm B) 29 (0, 0)) := by
    obtain ⟨h1, h2⟩ := heap_two w (.cells (sm A) 29) (.cells (sm B) 29)
    exact ⟨_, rfl, ((Below.refl _ _).alloc (Nat.le_refl _) _).alloc (by simp) _, h1, h2⟩
  have l1 : w.heap.size + 1 < v.heap.size := (Array.getElem?_eq_some_iff.1 hv1).1
  have HA : Hid (∀ w, Calls Try.prog 44 #[.agg (sm A)] w fun e w' => ∃ g, e = .returned (.slice (some ⟨g, 0, none⟩) 384 384) ∧ w.heap.size ≤ g ∧ Bits w' g A ∧ Below w.heap.size w w') := rbits_any A
  have HB : Hid (∀ w, Calls Try.prog 44 #[.agg (sm B)] w fun e w' => ∃ g, e = .returned (.slice (some ⟨g, 0, none⟩) 384 384) ∧ w.heap.size ≤ g ∧ Bits w' g B ∧ Below w.heap.size w w') := rbits_any B
  have HS : Hid (Sg A ∧ Sg B) := ⟨ha, hb⟩
  have hsa : (sm A).size = 6 := rfl
  have hsb : (sm B).size = 6 := rfl
  clear ha hb
  generalize sm A = ca at *
  generalize sm B = cb at *
  go_enter Try.func27, Try.ntmps27
  go_wp2_with (refine wpList_load6 29 _ Try.underlying29 sizeRSum rfl _ rfl w.heap.size ca rfl hsa hv0 ?_)
  clear hv
  refine (HA.out _).mono ?_
  rintro e1 w1 ⟨g1, rfl, hg1, hb1, hw1⟩
  have p1 := (hw1.block _ l1).trans hv1
  have b1 := below_chain hvb hw1 (Nat.le_refl _)
  clear hv0 hv1 hvb hw1
  go_wp2_with (refine wpList_load6 29 _ Try.underlying29 sizeRSum rfl _ rfl (w.heap.size + 1) cb rfl hsb p1 ?_)
  refine (HB.out _).mono ?_
  rintro e2 w2 ⟨g2, rfl, hg2, hb2, hw2⟩
  replace hb1 := bits_on hb1 hw2
  have b2 := below_chain b1 hw2 (Nat.le_refl _)
  clear hw2 b1 p1 HA HB
  have HBB : Hid (Bits w2 g1 A ∧ Bits w2 g2 B) := ⟨hb1, hb2⟩
  have c1 := World.rowIs.cell hb1 (show 383 < 384 by omega)
  have c2 := World.rowIs.cell hb2 (show 383 < 384 by omega)
  have x1 := bit_b A 383
  have x2 := bit_b B 383
  have HT1 : Hid (¬ bit A 383 = bit B 383 → bit B 383 - bit A 383 = cp A B) := fun h => cp_top A B HS.out.1 HS.out.2 h
  have HT2 : Hid (bit A 383 = bit B 383 → A / 2 ^ (383 - 0) = B / 2 ^ (383 - 0)) := fun h => top_same A B HS.out.1 HS.out.2 h
  generalize bit A 383 = x at *
  generalize bit B 383 = y at *
  clear hb1 hb2
  by_cases hxy : x = y
  · have hne : (x != y) = false := by rw [hxy]; simp
    have HE : Hid (A / 2 ^ (383 - 0) = B / 2 ^ (383 - 0)) := HT2.out hxy
    clear HT1 HT2 hxy
    go_wp2
    go_quiet (fail)
    go_wp2
    clear c1 c2 hne x1 x2
    go_loopw [7] (fun i wr => ∃ j : Nat, j ≤ 383 ∧ i = .int .i64 (382 - (j : Int)) ∧ A / 2 ^ (383 - j) = B / 2 ^ (383 - j) ∧ ∃ m, wr = w2.drewN m) (fun i _ => (intOf i + 1).toNat)
    case atStart => exact ⟨0, Nat.zero_le _, rfl, HE.out, _, rfl⟩
    case round =>
      clear HE HS
      obtain ⟨j, hj, rfl, hE, m, rfl⟩ := hrel
      have HE : Hid (A / 2 ^ (383 - j) = B / 2 ^ (383 - j)) := hE
      clear hE
      by_cases hlt : j < 383
      · obtain ⟨t, ht⟩ : ∃ t : Nat, t = 382 - j := ⟨_, rfl⟩
        have hidx : (382 : Int) - (j : Int) = (t : Int) := by omega
        have e5 : 383 - j = t + 1 := by omega
        have HD : Hid (¬ bit A t = bit B t → bit A t - bit B t = cp A B) := fun h => cp_bit A B t (by rw [← e5]; exact HE.out) h
        have HN : Hid (bit A t = bit B t → A / 2 ^ (383 - (j + 1)) = B / 2 ^ (383 - (j + 1))) := fun h => by
          rw [show 383 - (j + 1) = t from by omega, div2 A t, div2 B t, h, ← e5, HE.out]
        have c1 := World.rowIs.cell HBB.out.1 (show t < 384 by omega)
        have c2 := World.rowIs.cell HBB.out.2 (show t < 384 by omega)
        have x1 := bit_b A t
        have x2 := bit_b B t
        have ht1 : (t : Int) < 384 := by omega
        have htw : IntKind.i64.wrap (t : Int) = (t : Int) := by rw [IntKind.wrap_i64]; omega
        have HI : Hid ((382 : Int) - ((j + 1 : Nat) : Int) = (t : Int) - 1) := by show _ = _; omega
        generalize bit A t = x at *
        generalize bit B t = y at *
        clear e5 ht
        rw [hidx]
        by_cases hxy : x = y
        · have hne : (x != y) = false := by rw [hxy]; simp
          have HX : Hid (A / 2 ^ (383 - (j + 1)) = B / 2 ^ (383 - (j + 1))) := HN.out hxy
          clear HD HN hxy hidx
          go_wp2
          go_quiet (fail)
          go_wp2
          exact ⟨⟨j + 1, by omega, by rw [HI.out], HX.out, _, rfl⟩, by simp [intOf]⟩
        · have hne : (x != y) = true := by simpa using hxy
          have HX : Hid (x - y = cp A B) := HD.out hxy
          clear HD HN hxy hidx
          obtain ⟨x3, x4⟩ := x1
          obtain ⟨y3, y4⟩ := x2
          go_wp2
          go_quiet (fail)
          go_wp2
          go_quiet (fail)
          go_wp2
          go_ret
          exact ⟨ret_int HX.out, below_drewN (below_drewN (below_drewN b2 _) _) _⟩
      · obtain rfl : j = 383 := by omega
        have hAB : A = B := by
          have h := HE.out
          simpa using h
        have HZ : Hid (cp A B = 0) := cp_zero.2 hAB
        clear hAB HE
        go_wp2
        go_ret
        exact ⟨ret_int HZ.out.symm, below_drewN b2 _⟩
  · have hne : (x != y) = true := by simpa using hxy
    have HE : Hid (y - x = cp A B) := HT1.out hxy
    clear HT1 HT2 hxy
    obtain ⟨x3, x4⟩ := x1
    obtain ⟨y3, y4⟩ := x2
    go_wp2
    go_quiet (fail)
    go_wp2
    go_quiet (fail)
    go_wp2
    go_ret
    exact ⟨ret_int HE.out, below_drewN (below_drewN b2 _) _⟩
end Ty
end Go.Proofs.Ytbnmjmlcedkoaaa
