import Derived.Test.YtcolkfoodjpdjaaRaH
namespace Go.Proofs.Ytcolkfoodjpdjaa
namespace Ra
open Go.RowKit
set_option linter.unusedVariables false
theorem not_row {W : World} {B : Nat} {t e : TypeId} {cs : Array Value} (h : W.heap[B]? = some (.cells cs t (0, 0))) (hte : t ≠ e) {base size k : Nat} {v : Value} {xs : List Value} (hr : W.ownsRow base e size v k xs) : some B ≠ v.ownBlock := by
  rcases hr.2 with ⟨rfl, _⟩ | ⟨g, cap, cur, rfl, _, hgb, _⟩
  · simp [Value.ownBlock]
  · intro e'
    obtain rfl : B = g := by simpa [Value.ownBlock] using e'
    have := h.symm.trans hgb
    simp at this
    exact hte this.2
theorem src_at (w : World) (N : Nat) (hN : w.heap.size = N) (p q : Value) (t : TypeId) (hp : p.oneCell' = true) (hq : q.oneCell' = true) (c : Nat) : Src (w.alloc (.cells #[p, q] t)) (.slice (some ⟨N, 0, none⟩) 1 c) 1 [p, q] := by
  subst hN
  exact src_new w p q t hp hq c
theorem part_all {w : World} {B : Nat} {v : Value} {D : Nat → Dt} {k n : Nat} (hn : n = (D k).l) (h : LR w B v (flat D k ++ part (D k) n)) : LR w B v (flat D (k + 1)) := by subst hn; exact h
theorem box_ne {W : World} {B B' : Nat} {t t' : TypeId} {cs cs' : Array Value} (h : W.heap[B]? = some (.cells cs t (0, 0))) (h' : W.heap[B']? = some (.cells cs' t' (0, 0))) (hne : t ≠ t') : B ≠ B' := by
  rintro rfl
  rw [h] at h'
  simp at h'
  exact hne h'.2
set_option maxHeartbeats 3200000 in
set_option maxRecDepth 8000 in
theorem all_any (a : Option Addr) (l c : Nat) (D : Nat → Dt) (w : World) (hl : cnt D l ≤ 100000) (hbd : Bd D l) (hr : SRow w a l D) :
    Calls Try.prog 8 #[.slice a l c] w fun e w' => e = .returned (.func (.func 14) #[] #[.pointer (some ⟨w.heap.size, 0, none⟩)]) ∧ (∃ v, Boxed w' w.heap.size 25 v ∧ LR w' w.heap.size v (flat D l)) ∧ Below w.heap.size w w' := by
  have HR : Hid (SRow w a l D) := hr
  have hll := cnt_ge D l
  clear hr
  go_enter Try.func8, Try.ntmps8
  go_wp2
  go_loopw [10] (fun i wr => ∃ k : Nat, k ≤ l ∧ i = .int .i64 k ∧ (∃ v, Boxed wr w.heap.size 25 v ∧ LR wr w.heap.size v (flat D k)) ∧ Below w.heap.size w wr) (fun i _ => l - (intOf i).toNat)
  case atStart => exact ⟨0, Nat.zero_le _, rfl, ⟨_, Boxed.new w 25 (.slice none 0 0), World.ownsRow_nil _ _ _ _⟩, (Below.refl _ _).alloc (Nat.le_refl _) _⟩
  case round =>
    obtain ⟨k, hk, rfl, ⟨v0, hbx, hown⟩, hB⟩ := hrel
    by_cases hlt : k < l
    · obtain ⟨x, rfl, hx⟩ := HR.out (by omega)
      have HX : Hid (SAt w x l D) := hx
      have HS := cnt_at D hlt
      have HFL := flat_len D k
      have hbk := hbd k hlt
      obtain ⟨p0, a1, c1, p1, hn1, e1⟩ := hx.2 k hlt
      have HEr : Hid (ERow w a1 (D k).l (D k).E) := e1
      obtain ⟨P0w, P1w⟩ := cells2 ⟨p0, p1⟩
      have P0 := (hB.cell (p := x.add (k * 2)) (by rw [add_block]; exact hx.1)).trans P0w
      have P1 := (hB.cell (p := ⟨(x.add (k * 2)).block, (x.add (k * 2)).off + 1, none⟩) (by rw [add_block]; exact hx.1)).trans P1w
      have hsz := hB.size
      clear hx p0 p1 e1 hn1 P0w P1w
      have HBX : Hid (Boxed wr w.heap.size 25 v0) := hbx
      have HOW : Hid (LR wr w.heap.size v0 (flat D k)) := hown
      have HBB : Hid (Below w.heap.size w wr) := hB
      clear hbx hown hB
      go_wp2
      obtain ⟨sb, hsb⟩ : ∃ sb, sb = wr.heap.size := ⟨_, rfl⟩
      rw [← hsb]
      have HSB : Hid (sb = wr.heap.size) := hsb
      clear hsb
      go_loopw [17] (fun j wi => ∃ n : Nat, n ≤ (D k).l ∧ j = .int .i64 n ∧ (∃ v, Boxed wi w.heap.size 25 v ∧ LR wi w.heap.size v (flat D k ++ part (D k) n)) ∧ wi.heap[sb]? = some (.cells #[.string (D k).nm, .slice a1 (D k).l c1] 37 (0, 0)) ∧ Below w.heap.size w wi) (fun j _ => (D k).l - (intOf j).toNat)
      case atStart => exact ⟨0, Nat.zero_le _, rfl, ⟨v0, HBX.out.alloc _, by simp only [part, List.range_zero, List.map_nil, List.append_nil]; exact HOW.out.alloc _⟩, by rw [HSB.out]; exact World.alloc_heap_new wr _, HBB.out.alloc hsz _⟩
      case round =>
        obtain ⟨n, hn, rfl, ⟨v, hbx, hown⟩, hsv, hB⟩ := hrel
        have hsz2 := hB.size
        by_cases hnl : n < (D k).l
        · obtain ⟨y, rfl, hy⟩ := HEr.out (by omega)
          obtain ⟨q0w, q1w⟩ := cells2 (hy.2 n hnl)
          have q0 := (hB.cell (p := y.add (n * 2)) (by rw [add_block]; exact hy.1)).trans q0w
          have q1 := (hB.cell (p := ⟨(y.add (n * 2)).block, (y.add (n * 2)).off + 1, none⟩) (by rw [add_block]; exact hy.1)).trans q1w
          have s1 := hbk.1
          have s2 := hbk.2 n hnl
          clear hy q0w q1w
          obtain ⟨nm, HN⟩ : ∃ nm, Hid ((D k).nm = nm) := ⟨_, rfl⟩
          obtain ⟨lk, HL⟩ : ∃ lk, Hid ((D k).l = lk) := ⟨_, rfl⟩
          obtain ⟨en, HE⟩ : ∃ en, Hid ((D k).E n = en) := ⟨_, rfl⟩
          have HO : Hid (wr.ownsRow w.heap.size 31 2 v ((flat D k).length + n) (lc (flat D k ++ part (D k) n))) := by
            have h9 : wr.ownsRow w.heap.size 31 2 v (flat D k ++ part (D k) n).length (lc (flat D k ++ part (D k) n)) := hown
            rw [List.length_append, part_len] at h9; exact h9
          rw [HE.out] at q0 q1 s2
          rw [HN.out] at s1
          have hs1 : ¬ (9223372036854775807 < nm.size + 1) := by omega
          have hs2 : ¬ (9223372036854775807 < nm.size + 1 + en.1.size) := by omega
          have hbx1 := hbx.alloc (.cells #[.string en.1, .string en.2] 31)
          have hlt1 : sb < wr.heap.size := (Array.getElem?_eq_some_iff.1 hsv).1
          have hsv1 : (wr.alloc (.cells #[.string en.1, .string en.2] 31)).heap[sb]? = some (.cells #[.string nm, .slice (some y) lk c1] 37 (0, 0)) := by
            rw [HN.out, HL.out] at hsv; exact (Below.heap_alloc wr _ sb hlt1).trans hsv
          have b0 := hbx1.cell
          have b1 := hbx1.frozen
          have s0 : (wr.alloc (.cells #[.string en.1, .string en.2] 31)).cell? ⟨sb, 0, none⟩ = some (.string nm) := by simp [World.cell?, hsv1]
          have hne := box_ne hsv1 hbx1 (by decide)
          have HB : Hid (Below w.heap.size w wr) := hB
          have HS1 : Hid (sb < wr.heap.size) := hlt1
          have HSV : Hid ((wr.alloc (.cells #[.string en.1, .string en.2] 31)).heap[sb]? = some (.cells #[.string nm, .slice (some y) lk c1] 37 (0, 0))) := hsv1
          have HBX1 : Hid (Boxed (wr.alloc (.cells #[.string en.1, .string en.2] 31)) w.heap.size 25 v) := hbx1
          have HNE : Hid (sb ≠ w.heap.size) := hne
          clear hown hB hbx hsv hsv1 hbx1 hbd hbk hlt1 hne
          go_wp2_with (at_builtin; refine wpList_append2 tpE rfl _ _ rfl w.heap.size v _ ((flat D k).length + n) 1 (lc (flat D k ++ part (D k) n)) [.string (nm ++ dot ++ en.1), .string en.2] rfl ((HO.out.alloc _).alloc _) rfl (src_at _ _ (by simp) _ _ _ rfl rfl _) (by omega) (by simp; omega) ?_)
          intro v' w1 hown' hgrow _
          obtain ⟨g', cap', rfl⟩ := ownsRow_succ hown'
          obtain ⟨hv1, hv2, hr2, _, hb2⟩ := HBX1.out.appended (by decide) (HO.out.alloc _) (by simp; omega) (Nat.le_refl _) hown' hgrow
          have hc1 := hv1.cell
          have hf1 := hv1.frozen
          have HV2 : Hid (Boxed (w1.setCell ⟨w.heap.size, 0, none⟩ (.slice (some ⟨g', 0, none⟩) ((flat D k).length + n + 1) cap')) w.heap.size 25 (.slice (some ⟨g', 0, none⟩) ((flat D k).length + n + 1) cap')) := hv2
          have HO3 : Hid (LR (w1.setCell ⟨w.heap.size, 0, none⟩ (.slice (some ⟨g', 0, none⟩) ((flat D k).length + n + 1) cap')) w.heap.size (.slice (some ⟨g', 0, none⟩) ((flat D k).length + n + 1) cap') (flat D k ++ part (D k) (n + 1))) := by
            show LR _ _ _ _
            rw [part_succ, ← List.append_assoc]
            refine LR.snoc (n := (flat D k).length + n) (by rw [List.length_append, part_len]) ?_
            rw [HN.out, HE.out]; exact hr2
          have HB3 : Hid (Below w.heap.size w (w1.setCell ⟨w.heap.size, 0, none⟩ (.slice (some ⟨g', 0, none⟩) ((flat D k).length + n + 1) cap'))) := (HB.out.alloc hsz2 _).trans hb2
          have HS3 : Hid ((w1.setCell ⟨w.heap.size, 0, none⟩ (.slice (some ⟨g', 0, none⟩) ((flat D k).length + n + 1) cap')).heap[sb]? = some (.cells #[.string (D k).nm, .slice (some y) (D k).l c1] 37 (0, 0))) := by
            rw [HN.out, HL.out]
            refine (Below.heap_setCell _ _ _ sb HNE.out).trans ?_
            refine (hgrow.block sb (by have := HS1.out; simp; omega) (not_row HSV.out (by decide) (HO.out.alloc _))).trans ?_
            exact (Below.heap_alloc _ _ sb (by have := HS1.out; simp; omega)).trans HSV.out
          clear hown' hgrow hv1 hv2 hr2 hb2 HBX1 HSV b0 b1 s0 HO
          go_wp2
          go_roundw
          case rel => exact ⟨n + 1, by omega, by go_num, ⟨_, HV2.out, HO3.out⟩, HS3.out, HB3.out⟩
          case measure => simp [intOf]; omega
        · go_wp2
          go_roundw
          case rel => exact ⟨k + 1, by omega, by go_num, ⟨v, hbx, part_all (by omega) hown⟩, hB⟩
          case measure => simp [intOf]; omega
    · obtain rfl : k = l := by omega
      go_wp2
      go_ret
      exact ⟨rfl, ⟨v0, hbx, hown⟩, hB⟩
end Ra
end Go.Proofs.Ytcolkfoodjpdjaa
