import Derived.Test.YtlhpnhjfibkgpaaWuC
namespace Go.Proofs.Ytlhpnhjfibkgpaa
namespace Wp
open Go.RowKit
set_option linter.unusedVariables false
set_option maxRecDepth 8000
/-- The least parents by the first i edges. -/
structure Pm (n m s : Nat) (E : Nat → Int × Int × Int) (L : Nat → Int) (i : Nat) (Q : Nat → Int) : Prop where
  p : Q s = s
  a : ∀ v, v < n → v ≠ s → Q v = 18446744073709551615 ∨ ∃ x : Nat, Arc E m x v ∧ L x ≠ 18446744073709551615 ∧ L v = L x + 1 ∧ Q v = x
  l : ∀ j, j < i → ∀ x v : Nat, (E j).1 = x → (E j).2.1 = v → v ≠ s → L x ≠ 18446744073709551615 → L v = L x + 1 → Q v ≤ x
theorem Pm.zero (n m s : Nat) (E : Nat → Int × Int × Int) (L : Nat → Int) : Pm n m s E L 0 (up (fun _ => 18446744073709551615) s (s : Int)) :=
  ⟨up_eq _ _ _, fun v hv hs => .inl (up_ne _ _ _ _ hs), fun j hj => by omega⟩
theorem Pm.pass {n m s i : Nat} {E : Nat → Int × Int × Int} {L Q : Nat → Int} (h : Pm n m s E L i Q) (x y : Nat) (hx : (E i).1 = x) (hy : (E i).2.1 = y) (hno : y = s ∨ L x = 18446744073709551615 ∨ L y ≠ L x + 1 ∨ Q y ≤ x) : Pm n m s E L (i + 1) Q :=
  ⟨h.p, h.a, fun j hj x' v h1 h2 h3 h4 h5 => by
    by_cases e : j < i
    · exact h.l j e x' v h1 h2 h3 h4 h5
    · have e2 : j = i := by omega
      subst e2
      have e3 : x' = x := by omega
      have e4 : v = y := by omega
      subst e3; subst e4
      rcases hno with k | k | k | k
      · exact absurd k h3
      · exact absurd k h4
      · exact absurd h5 k
      · exact k⟩
theorem Pm.put {n m s i : Nat} {E : Nat → Int × Int × Int} {L Q : Nat → Int} (h : Pm n m s E L i Q) (hi : i < m) (x y : Nat) (hx : (E i).1 = x) (hy : (E i).2.1 = y) (hs : y ≠ s) (hU : L x ≠ 18446744073709551615) (hL : L y = L x + 1) (hlt : (x : Int) < Q y) : Pm n m s E L (i + 1) (up Q y (x : Int)) := by
  refine ⟨by rw [up_ne _ _ _ _ (fun k => hs k.symm)]; exact h.p, fun v hv hne => ?_, fun j hj x' v h1 h2 h3 h4 h5 => ?_⟩
  · by_cases e : v = y
    · subst e; rw [up_eq]; exact .inr ⟨x, ⟨i, hi, hx, hy⟩, hU, hL, rfl⟩
    · rw [up_ne _ _ _ _ e]; exact h.a v hv hne
  · by_cases e : j < i
    · have := h.l j e x' v h1 h2 h3 h4 h5
      by_cases e' : v = y
      · subst e'; rw [up_eq]; omega
      · rw [up_ne _ _ _ _ e']; exact this
    · have e2 : j = i := by omega
      subst e2
      have e3 : x' = x := by omega
      have e4 : v = y := by omega
      subst e3; subst e4
      rw [up_eq]; exact Int.le_refl _
theorem Pm.fin {n m s : Nat} {E : Nat → Int × Int × Int} {L P Q : Nat → Int} (hn : n ≤ 1000) (hI : EIn n m E) (hB : Bfs n m s E L P) (h : Pm n m s E L m Q) (v : Nat) (hv : v < n) : Q v = P v := by
  by_cases hs : v = s
  · subst hs; rw [h.p, hB.p]
  · by_cases hU : L v = 18446744073709551615
    · rw [hB.c v hv hU]
      rcases h.a v hv hs with k | ⟨x, ha, h1, h2, _⟩
      · exact k
      · have := (hB.b x (ha.lt hI).1).resolve_left h1
        omega
    · obtain ⟨u, ⟨j, hj, hx, hy⟩, h1, h2, h3⟩ := hB.d v hv hs hU
      have hun := (Arc.lt hI ⟨j, hj, hx, hy⟩).1
      have hb := (hB.b v hv).resolve_left hU
      have hle := h.l j hj u v hx hy hs (by omega) (by omega)
      rcases h.a v hv hs with k | ⟨x, ha, h4, h5, h6⟩
      · omega
      · have := h3 x ha (by omega)
        rw [h2]; omega
theorem Lv.iff {n m : Nat} {E : Nat → Int × Int × Int} {sr sr' : Nat → Prop} {L : Nat → Int} (h : Lv n m E sr L) (e : ∀ v, sr v ↔ sr' v) : Lv n m E sr' L :=
  ⟨h.b, fun v hv => (h.z v hv).trans (e v), fun v hv hs => h.d v hv (fun k => hs ((e v).1 k)), h.e⟩
set_option maxHeartbeats 4000000 in
theorem rbfs_any (n m s c : Nat) (a : Option Addr) (E : Nat → Int × Int × Int) (L P : Nat → Int) (hn : n ≤ 400) (hm : m ≤ 11728124029610) (hs : s < n) (w : World) (hE : ERow w a m E) (hI : EIn n m E) (hB : Bfs n m s E L P) :
    Calls Try.prog 27 #[.int .u32 (n : Int), .int .u32 (s : Int), .slice a m c] w fun e w' => ∃ lb fb, e = .returned (.tuple #[.slice (some ⟨lb, 0, none⟩) n n, .slice (some ⟨fb, 0, none⟩) n n]) ∧ GU w' lb n L ∧ GU w' fb n P ∧ Below w.heap.size w w' := by
  have HI := hide hI
  have HBf := hide hB
  have HB0 : Hid (Below w.heap.size w (w.alloc (.cells #[.int .u32 (s : Int)] 25))) := b1 _ _ _
  have HLv := hide (levels_any n m c 1 w.heap.size 1 a E (fun _ => s) L hn hm (by omega) (w.alloc (.cells #[.int .u32 (s : Int)] 25)) (hE.on HB0.out) hI ⟨by simp, fun j hj => ⟨by rw [show j = 0 by omega]; exact (cell_of_row _ w.heap.size 0 _ 25 (0, 0) (at0 w _)).trans rfl, hs⟩⟩ (hB.lv.iff (fun v => ⟨fun e => ⟨0, by omega, e.symm⟩, fun ⟨j, _, e⟩ => e.symm⟩)))
  have HE := hide hE
  clear hE hI hB
  go_enter Try.func27, Try.ntmps27
  go_wp2_with (fail)
  refine HLv.out.mono ?_
  rintro e1 w1 ⟨lb, rfl, _, hG1, hB1⟩
  have HB1 : Hid (Below w.heap.size w w1) := HB0.out.trans (hB1.mono HB0.out.size)
  have HG1 := hide hG1
  have HE1 := hide (HE.out.on HB1.out)
  have HNo := hide (none_any n (by omega) w1)
  clear hG1 hB1 HLv HB0 HE
  go_wp2_with (fail)
  refine HNo.out.mono ?_
  rintro e2 w2 ⟨rfl, hG2, hB2⟩
  have HG2 := hide (hG2.set s (s : Int))
  have hf := hG2.fz s
  have hc := hG2.cell s hs
  have HB2 : Hid (Below w1.heap.size w1 (w2.setCell ⟨w1.heap.size, s, none⟩ (.int .u64 (s : Int)))) := by
    obtain ⟨C1, h1⟩ := HG2.out.2
    show Below _ _ _
    rw [h1]
    exact below_setRow hB2 (Nat.le_refl _) _
  have hws : IntKind.u64.wrap (s : Int) = s := wu _ (by omega) (by omega)
  clear hG2 hB2 HNo
  generalize hfb : w1.heap.size = fb at *
  go_wp2_with (fail)
  have HP0 : Hid (GU (w2.setCell ⟨fb, s, none⟩ (.int .u64 (s : Int))) fb n (up (fun _ => 18446744073709551615) s (s : Int))) := HG2.out.1
  have HFb := hide hfb
  clear hf hc hws HG2 hfb
  generalize w2.setCell ⟨fb, s, none⟩ (.int .u64 (s : Int)) = w3 at *
  go_loopw [10] (fun t wr => ∃ (i : Nat) (Q : Nat → Int), i ≤ m ∧ t = .int .i64 i ∧ Hid (GU wr fb n Q) ∧ Hid (Pm n m s E L i Q) ∧ Hid (Below fb w1 wr)) (fun t _ => m - (intOf t).toNat)
  case atStart => exact ⟨0, _, Nat.zero_le _, rfl, HP0, Pm.zero n m s E L, HB2⟩
  case round =>
    clear HP0 HB2
    obtain ⟨i, Q, hi, rfl, HG, HP, HB⟩ := hrel
    have HLr : Hid (GU wr lb n L) := HG1.out.on (by rw [HFb.out]; exact HB.out)
    have HEr : Hid (ERow wr a m E) := HE1.out.on (by rw [HFb.out]; exact HB.out)
    by_cases cc : i < m
    · obtain ⟨eb, rfl, heb, hce⟩ := HEr.out (by omega)
      obtain ⟨x, y, hx, hy, hxn, hyn⟩ := HI.out i cc
      obtain ⟨c1, c2, _⟩ := hce i cc
      rw [hx] at c1
      rw [hy] at c2
      have HPp := hide (HP.out.pass x y hx hy)
      have HPt := hide (HP.out.put cc x y hx hy)
      have l1 : wr.drew.cell? ⟨lb, x, none⟩ = some (.int .u64 (L x)) := HLr.out.cell x hxn
      have l2 : wr.drew.cell? ⟨lb, y, none⟩ = some (.int .u64 (L y)) := HLr.out.cell y hyn
      have l3 : wr.drew.cell? ⟨fb, y, none⟩ = some (.int .u64 (Q y)) := HG.out.cell y hyn
      have hwx : IntKind.u64.wrap (x : Int) = x := wu _ (by omega) (by omega)
      have HCC := hide cc
      have hbb := HBf.out.b x hxn
      clear hce heb hx hy HP hi
      by_cases hU : L x = 18446744073709551615
      · have b1 : (L x != 18446744073709551615) = false := by simp [hU]
        have HP2 := hide (HPp.out (.inr (.inl hU)))
        clear hU hbb l2 l3
        go_wp2_with (fail)
        go_region
        all_goals go_wp2
        all_goals exact ⟨⟨i + 1, Q, cc, by go_num, HG, HP2, belowD HB.out⟩, by simp [intOf]; omega⟩
      · have b1 : (L x != 18446744073709551615) = true := by simp [hU]
        have hbx := hbb.resolve_left hU
        have hwl : IntKind.u64.wrap (L x + 1) = L x + 1 := wu _ (by omega) (by omega)
        by_cases hys : y = s
        · have b2 : ((y : Int) != (s : Int)) = false := by simp [hys]
          have HP2 := hide (HPp.out (.inl hys))
          clear hU hbb hbx hys l2 l3
          go_wp2_with (fail)
          go_region
          all_goals go_wp2
          all_goals exact ⟨⟨i + 1, Q, cc, by go_num, HG, HP2, belowD HB.out⟩, by simp [intOf]; omega⟩
        · have b2 : ((y : Int) != (s : Int)) = true := by simp; omega
          by_cases hL : L y = L x + 1
          · have b3 : (L y == L x + 1) = true := by simp [hL]
            by_cases hlt : (x : Int) < Q y
            · have b4 : decide ((x : Int) < Q y) = true := by simp [hlt]
              have HP2 := hide (HPt.out hys hU hL hlt)
              have HG2 := hide (GU.set (w := wr.drew) HG.out y (x : Int))
              have HB2 : Hid (Below fb w1 (wr.drew.setCell ⟨fb, y, none⟩ (.int .u64 (x : Int)))) := by
                obtain ⟨C1, h1⟩ := HG2.out.2
                show Below _ _ _
                rw [h1]
                exact below_setRow (belowD HB.out) (Nat.le_refl _) _
              have l5 : wr.drew.frozen? ⟨fb, y, none⟩ = false := HG.out.fz y
              clear hU hbb hbx hys hL hlt
              go_wp2_with (fail)
              go_region
              all_goals go_wp2
              all_goals exact ⟨⟨i + 1, _, cc, by go_num, HG2.out.1, HP2, HB2⟩, by simp [intOf]; omega⟩
            · have b4 : decide ((x : Int) < Q y) = false := by simp [hlt]
              have HP2 := hide (HPp.out (.inr (.inr (.inr (by omega)))))
              clear hU hbb hbx hys hL hlt
              go_wp2_with (fail)
              go_region
              all_goals go_wp2
              all_goals exact ⟨⟨i + 1, Q, cc, by go_num, HG, HP2, belowD HB.out⟩, by simp [intOf]; omega⟩
          · have b3 : (L y == L x + 1) = false := by simp [hL]
            have HP2 := hide (HPp.out (.inr (.inr (.inl hL))))
            clear hU hbb hbx hys hL l3
            go_wp2_with (fail)
            go_region
            all_goals go_wp2
            all_goals exact ⟨⟨i + 1, Q, cc, by go_num, HG, HP2, belowD HB.out⟩, by simp [intOf]; omega⟩
    · have him : m = i := by omega
      subst him
      have HG3 : Hid (GU wr fb n P) := HG.out.ext (fun v hv => HP.out.fin (by omega) HI.out HBf.out v hv)
      have HB3 : Hid (Below w.heap.size w wr) := HB1.out.trans (HB.out.mono (by rw [← HFb.out]; exact HB1.out.size))
      clear cc hi HG HP HEr
      go_wp2
      all_goals go_ret2
      all_goals exact ⟨lb, fb, rfl, HLr.out, HG3.out, HB3.out⟩
end Wp
end Go.Proofs.Ytlhpnhjfibkgpaa
