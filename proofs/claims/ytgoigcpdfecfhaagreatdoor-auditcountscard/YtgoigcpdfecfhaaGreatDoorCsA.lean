import Derived.Test.YtgoigcpdfecfhaaGreatDoorCrB
import Derived.Test.YtgoigcpdfecfhaaGreatDoorMgL
import Derived.Test.YtgoigcpdfecfhaaGreatDoorMgK
namespace Go.Proofs.YtgoigcpdfecfhaaGreatDoor
namespace Au
open Go.RowKit
set_option linter.unusedVariables false
set_option maxRecDepth 8000
set_option maxHeartbeats 8000000 in
theorem words18c_any (n sc tb tc : Nat) (a : Option Addr) (S : Nat → Nat → Int) (T : Nat → Int) (hn : n ≤ 5000) (w : World) (hr : Row8 w a n S) (hT : GU w tb n T) :
    Calls Tryz.prog 44 #[.int .u32 (n : Int), .slice a n sc, .int .i64 0, .slice (some ⟨tb, 0, none⟩) n tc] w fun e w' => ∃ o, e = .returned (.agg #[.bool (vR o), .int .u32 (vV o), .int .i64 (vK o)]) ∧ Lm (fun v r => r = 1 ∧ v < n ∧ S v 0 ≠ T v) o ∧ Below w.heap.size w w' := by
  have HR := hide hr
  have HT := hide hT
  have htb := hT.lt
  have HBe := hide (begin_any n hn (w.alloc (.cells z3 35)))
  have hcv : IntKind.i64.wrap (n : Int) = n := by simp only [IntKind.wrap, IntKind.signed, IntKind.bits]; simp; omega
  have HB0 : Hid (Below w.heap.size w (w.alloc (.cells z3 35))) := b1 _ _ _
  have hz0 : (w.alloc (.cells z3 35)).heap[w.heap.size]? = some (.cells z3 35 (0, 0)) := at0 _ _
  have HZ0 := hide hz0
  clear hr hT hz0
  go_enter Tryz.func44, Tryz.ntmps44
  go_wp2_with (fail)
  refine HBe.out.mono ?_
  rintro e1 w1 ⟨g, rfl, hg, hG1, hB1⟩
  have hs1 := hB1.size
  simp only [World.size_alloc] at hg hs1 hB1
  have hgl := hG1.lt
  have HG2 : Hid (GI (w1.alloc (.cells #[.slice (some ⟨g, 0, none⟩) n n] 142)) g n (fun _ => 0)) := hG1.on (X := fun _ => False) (Ch.of (b1 _ _ _)) (fun h => h)
  have HB2 : Hid (Below w.heap.size w (w1.alloc (.cells #[.slice (some ⟨g, 0, none⟩) n n] 142))) := bA (HB0.out.trans (hB1.mono (by simp))) (by omega) _
  have HX2 : Hid (Boxed (w1.alloc (.cells #[.slice (some ⟨g, 0, none⟩) n n] 142)) w1.heap.size 142 (.slice (some ⟨g, 0, none⟩) n n)) := Boxed.new _ _ _
  have HZ2 : Hid ((w1.alloc (.cells #[.slice (some ⟨g, 0, none⟩) n n] 142)).heap[w.heap.size]? = some (.cells z3 35 (0, 0))) := keep _ ((hB1.block w.heap.size (by omega)).trans HZ0.out)
  clear hG1 hB1 HBe HB0 HZ0
  go_wp2_with (fail)
  generalize w1.alloc (.cells #[.slice (some ⟨g, 0, none⟩) n n] 142) = w2 at *
  obtain ⟨b9, hb9⟩ : ∃ b9, w1.heap.size = b9 := ⟨_, rfl⟩
  rw [hb9] at HX2 hs1 hgl
  rw [hb9]
  clear hb9
  go_loopw [10] (fun t wr => ∃ (k : Nat) (G : Nat → Int), k ≤ n ∧ t = .int .i64 k ∧ Hid (GI wr g n G) ∧ Hid (Rl (fun v r => r = 1 ∧ v < k ∧ S v 0 ≠ T v) n G) ∧ Hid (Boxed wr b9 142 (.slice (some ⟨g, 0, none⟩) n n)) ∧ Hid (wr.heap[w.heap.size]? = some (.cells z3 35 (0, 0))) ∧ Hid (Below w.heap.size w wr)) (fun t _ => n - (intOf t).toNat)
  case atStart => exact ⟨0, _, Nat.zero_le _, rfl, HG2, (Rl.zero n).ext (fun v r _ => ⟨fun h => h.elim, fun h => by omega⟩), HX2, HZ2, HB2⟩
  case round =>
    clear HG2 HX2 HB2 HZ2
    obtain ⟨k, G, hk, rfl, HG, HRl, HX, HZ, HB⟩ := hrel
    have hbs := HB.out.size
    by_cases cc : k < n
    · have hcc : (k : Int) < (n : Int) := by omega
      obtain ⟨x, rfl, hx⟩ := (HR.out.on HB.out (Nat.le_refl _)) (by omega)
      have q0 := (hx.k k cc).1
      have q1 := (HT.out.of (w' := wr) (HB.out.block tb htb)).cell k cc
      have hSw : Hid (Sw b9 0 g n (x.add (k * 8)) (S k 0) (T k) tb k wr.drew) := ⟨HX.out.cell, q0, q1⟩
      have hxb : x.block < w.heap.size := by
        obtain ⟨x', e', hx'⟩ := HR.out (by omega)
        cases e'; exact hx'.1
      have HK : Hid (∀ W, Ch (fun k => k = g) wr.drew W → Sw b9 0 g n (x.add (k * 8)) (S k 0) (T k) tb k W) := fun W hW => by
        have hb9 : b9 < wr.heap.size := HX.out.lt
        refine ⟨(hW.cell (p := ⟨b9, 0, none⟩) hb9 (by show b9 ≠ g; omega)).trans hSw.out.1, (hW.cell (p := x.add (k * 8)) (by rw [add_block]; exact Nat.lt_of_lt_of_le hxb hbs) (by rw [add_block]; omega)).trans hSw.out.2.1, (hW.cell (p := ⟨tb, k, none⟩) (Nat.lt_of_lt_of_le htb hbs) (by show tb ≠ g; omega)).trans hSw.out.2.2⟩
      have HN := hide (fnote_any g n k 1 (S k 0 != T k) G cc hn wr.drew (HG.out.of rfl))
      have HRn : Hid (Rl (fun v r => r = 1 ∧ v < k + 1 ∧ S v 0 ≠ T v) n (nx G k 1 (S k 0 != T k))) := (HRl.out.note k 1 (S k 0 != T k) (Nat.le_refl _)).ext (fun v r _ => by
        constructor
        · rintro (⟨h1, h2, h3⟩ | ⟨h1, h2, h3⟩)
          · exact ⟨h1, by omega, h3⟩
          · subst h2; exact ⟨h3, by omega, by simpa using h1⟩
        · rintro ⟨h1, h2, h3⟩
          by_cases e : v = k
          · subst e; exact Or.inr ⟨by simpa using h3, rfl, h1⟩
          · exact Or.inl ⟨h1, by omega, h3⟩)
      clear hx q0 q1 HRl
      go_wp2_with (fail)
      go_region_held3 (Sw b9 0 g n (x.add (k * 8)) (S k 0) (T k) tb k) ((first | with_reducible exact hSw.out | with_reducible exact HK.out _ HC3.out)) ((first | (go_at_call 99; refine HN.out.mono ?_; rintro e3 w3 ⟨⟨x3, rfl⟩, hG3, hC3⟩; have HG3 := hide hG3; have HC3 := hide hC3; clear hG3 hC3)))
      have HX3 : Hid (Boxed w3 b9 142 (.slice (some ⟨g, 0, none⟩) n n)) := (HC3.out.block b9 (by have := HX.out.lt; exact this) (by omega)).trans HX.out
      have HZ3 : Hid (w3.heap[w.heap.size]? = some (.cells z3 35 (0, 0))) := (HC3.out.block w.heap.size (by have := lt_of_some HZ.out; exact this) (by omega)).trans HZ.out
      have HB3 : Hid (Below w.heap.size w w3) := by
        have h1 : Below w.heap.size wr.drew w3 := HC3.out.below (fun k hk h => by omega) (by exact hbs)
        exact HB.out.trans ⟨h1.os, h1.tape, h1.output, h1.size, h1.block⟩
      clear HC3 HX HZ HB HG HN hSw
      go_wp2
      exact ⟨⟨k + 1, _, cc, by go_num, HG3, HRn, HX3, HZ3, HB3⟩, by simp [intOf]; omega⟩
    · have hcc : ¬ (k : Int) < (n : Int) := by omega
      have hkn : n = k := by omega
      subst hkn
      have HV := hide (verdict_any g n G _ hn HRl.out (fun v r h => h.2.1) wr HG.out)
      have cX := HX.out.cell
      have z0 : wr.cell? ⟨w.heap.size, 0, none⟩ = some (.bool false) := (cell_of_row _ _ _ _ _ _ HZ.out).trans rfl
      go_wp2_with (fail)
      refine HV.out.mono ?_
      rintro e4 w4 ⟨o, rfl, hL, hB4⟩
      have hz4 : w4.heap[w.heap.size]? = some (.cells z3 35 (0, 0)) := (hB4.block w.heap.size (lt_of_some HZ.out)).trans HZ.out
      have f0 : w4.frozen? ⟨w.heap.size, 0, none⟩ = false := frozen_of_row _ _ _ _ _ hz4
      have f1 : w4.frozen? ⟨w.heap.size, 1, none⟩ = false := frozen_of_row _ _ _ _ _ hz4
      have f2 : w4.frozen? ⟨w.heap.size, 2, none⟩ = false := frozen_of_row _ _ _ _ _ hz4
      have g0 : w4.cell? ⟨w.heap.size, 0, none⟩ = some (.bool false) := (cell_of_row _ _ _ _ _ _ hz4).trans rfl
      have g1 : w4.cell? ⟨w.heap.size, 1, none⟩ = some (.int .u32 0) := (cell_of_row _ _ _ _ _ _ hz4).trans rfl
      have g2 : w4.cell? ⟨w.heap.size, 2, none⟩ = some (.int .i64 0) := (cell_of_row _ _ _ _ _ _ hz4).trans rfl
      have HF : Hid (∀ a b c, (((w4.setCell ⟨w.heap.size, 0, none⟩ a).setCell ⟨w.heap.size, 1, none⟩ b).setCell ⟨w.heap.size, 2, none⟩ c).heap[w.heap.size]? = some (.cells #[a, b, c] 35 (0, 0)) ∧ Below w.heap.size w (((w4.setCell ⟨w.heap.size, 0, none⟩ a).setCell ⟨w.heap.size, 1, none⟩ b).setCell ⟨w.heap.size, 2, none⟩ c)) := fun a b c => by
        rw [sets3 hz4 rfl]
        exact ⟨setRow_heap _ _ _ _ _ _ hz4, below_setRow (HB.out.trans (hB4.mono hbs)) (Nat.le_refl _) _⟩
      have HL := hide hL
      clear hz4 hB4 hL HV HX HZ HG HRl cX z0
      go_wp2
      all_goals (refine bodyPost_ret (v := .agg #[.bool (vR o), .int .u32 (vV o), .int .i64 (vK o)]) ?_ rfl ?_)
      all_goals first | exact res16 _ _ _ _ _ _ rfl (HF.out _ _ _).1 | exact ⟨o, rfl, HL.out, (HF.out _ _ _).2⟩
end Au
end Go.Proofs.YtgoigcpdfecfhaaGreatDoor
