import Derived.Test.YtlhpnhjfibkgpabWpF
namespace Go.Proofs.Ytlhpnhjfibkgpab
namespace Wp
open Go.RowKit
set_option linter.unusedVariables false
set_option maxRecDepth 8000
/-- What a program does, as functions of words. -/
structure Pg where
  W : Nat
  both : Bool
  A : Int
  M : Int
  start : Int → Nat → Int
  sc : (Nat → Int) → (Nat → Int) → Int → Int → Int → Bool → Int × Bool
  ap : (Nat → Int) → (Nat → Int) → (Nat → Int) × Bool
  fo : (Nat → Int) → Int → (Nat → Int) → (Nat → Int)
  tu : (Nat → Int) → Int → Int → (Nat → Int) × Bool
  mo : (Nat → Int) → Int → (Nat → Int)
  okS : (Nat → Int) → (Nat → Int) → Int → Int → Int → Prop
/-- A Flow that does it. -/
structure Ob (g : Pg) (fb B : Nat) (w : World) : Prop where
  words : ∀ W, Below B w W → Calls Try.prog 24 #[.pointer (some ⟨fb, 0, none⟩)] W fun e w' => e = .returned (.int .i64 (g.W : Int)) ∧ Below W.heap.size W w'
  both : ∀ W, Below B w W → Calls Try.prog 10 #[.pointer (some ⟨fb, 0, none⟩)] W fun e w' => e = .returned (.bool g.both) ∧ Below W.heap.size W w'
  sink : ∀ W, Below B w W → Calls Try.prog 25 #[.pointer (some ⟨fb, 0, none⟩)] W fun e w' => e = .returned (.agg (kv g.A g.M)) ∧ Below W.heap.size W w'
  start : ∀ (v a b : Int), 0 ≤ v → v ≤ 1000000 → ∀ W, Below B w W → Calls Try.prog 27 #[.pointer (some ⟨fb, 0, none⟩), .int .u32 v, .agg #[.int .u64 a, .int .u64 b]] W fun e w' => e = .returned (.tuple #[.agg (sv (g.start v)), .int .i64 0]) ∧ Below W.heap.size W w'
  scatter : ∀ (c s : Nat → Int) (x y z : Int) (k : Bool), g.okS c s x y z → ∀ W, Below B w W → Calls Try.prog 30 #[.pointer (some ⟨fb, 0, none⟩), .agg (cv c), .agg (sv s), .agg (ev x y z), .bool k] W fun e w' => e = .returned (.tuple #[.int .u64 (g.sc c s x y z k).1, .int .u64 0, .bool (g.sc c s x y z k).2, .int .i64 0]) ∧ Below W.heap.size W w'
  apply : ∀ (c a : Nat → Int) (v : Int) (s : Nat → Int), 0 ≤ c 0 → c 0 ≤ 1000000 → ∀ W, Below B w W → Calls Try.prog 32 #[.pointer (some ⟨fb, 0, none⟩), .agg (cv c), .agg (sv a), .int .u32 v, .agg (sv s)] W fun e w' => e = .returned (.tuple #[.agg (sv (g.ap c s).1), .bool (g.ap c s).2, .int .i64 0]) ∧ Below W.heap.size W w'
  fold : ∀ (c a : Nat → Int) (v : Int) (s : Nat → Int), 0 ≤ v → v ≤ 1000000 → 0 ≤ a 0 → a 0 ≤ 1000000 → ∀ W, Below B w W → Calls Try.prog 35 #[.pointer (some ⟨fb, 0, none⟩), .agg (cv c), .agg (sv a), .int .u32 v, .agg (sv s)] W fun e w' => e = .returned (.tuple #[.agg (sv (g.fo a v s)), .int .i64 0]) ∧ Below W.heap.size W w'
  turn : ∀ (c a : Nat → Int) (ch r : Int), 0 ≤ r → r ≤ 1000000 → ∀ W, Below B w W → Calls Try.prog 33 #[.pointer (some ⟨fb, 0, none⟩), .agg (cv c), .agg (sv a), .int .u64 ch, .int .i64 r] W fun e w' => e = .returned (.tuple #[.agg (cv (g.tu c ch r).1), .bool (g.tu c ch r).2, .int .i64 0]) ∧ Below W.heap.size W w'
  mon : ∀ (s : Nat → Int) (a : Int) W, Calls Try.prog 36 #[.int .i64 g.M, .agg (sv s), .int .i64 g.A, .int .u64 a] W fun e w' => e = .returned (.agg (sv (g.mo s a))) ∧ Below W.heap.size W w'
theorem Ob.on {g : Pg} {fb B : Nat} {w w' : World} (h : Ob g fb B w) (hb : Below B w w') : Ob g fb B w' := by
  have hh : ∀ W, Below B w' W → Below B w W := fun W h => hb.trans h
  exact ⟨fun W k => h.words W (hh W k), fun W k => h.both W (hh W k), fun W k => h.sink W (hh W k), fun v a b h0 h1 W k => h.start v a b h0 h1 W (hh W k), fun c s x y z b ok W k => h.scatter c s x y z b ok W (hh W k), fun c a v s h0 h1 W k => h.apply c a v s h0 h1 W (hh W k), fun c a v s h0 h1 h2 h3 W k => h.fold c a v s h0 h1 h2 h3 W (hh W k), fun c a ch r h0 h1 W k => h.turn c a ch r h0 h1 W (hh W k), h.mon⟩
/-- WCC's program. -/
def gL (n : Int) : Pg := ⟨3, true, 2, 1, labStart, fun c s _ _ _ _ => labSc c s, labAp, labFo, fun c ch r => (ctlN c r, ch == 0 || decide (n ≤ c 0)), fun s a => up s 2 (min (s 2) a), fun _ _ _ _ _ => True⟩
theorem wp_cut {P : Program} {c : Code} {Q : Exit → Act → World → Prop} {a : Act} {w : World} (T : World → Prop) (A1 : Act)
    (h : c.wp P (fun e a' w' => match e with | .normal => a' = A1 ∧ T w' | _ => False) a w) (hq : ∀ w', T w' → Q .normal A1 w') : c.wp P Q a w := by
  refine Code.wp_mono ?_ h
  intro e a' w' hh
  cases e with
  | normal => obtain ⟨rfl, ht⟩ := hh; exact hq w' ht
  | _ => exact hh.elim
theorem ups_self (S : Nat → Nat → Int) (v : Nat) : ups S v (S v) = S := by
  funext u; unfold ups
  split
  · rename_i h; rw [h]
  · rfl
abbrev Ki (kb : Nat) (A M : Int) (w : World) : Prop := w.cell? ⟨kb, 0, none⟩ = some (.int .i64 A) ∧ w.cell? ⟨kb, 1, none⟩ = some (.int .i64 M) ∧ w.cell? ⟨kb, 2, none⟩ = some (.int .i64 0) ∧ w.cell? ⟨kb, 3, none⟩ = some (.int .i64 0)
theorem Ki.row {kb g : Nat} {A M : Int} {w : World} (h : Ki kb A M w) (C : Array Value) (hb : kb ≠ g) : Ki kb A M (w.setRow g C) :=
  ⟨(cell_setRow_other w g C _ hb).trans h.1, (cell_setRow_other w g C _ hb).trans h.2.1, (cell_setRow_other w g C _ hb).trans h.2.2.1, (cell_setRow_other w g C _ hb).trans h.2.2.2⟩
set_option maxHeartbeats 4000000 in
theorem gather_any (g : Pg) (fb B rb nb n cap to : Nat) (st : Value) (A C : Nat → Int) (k u a : Int) (S : Nat → Nat → Int) (hto : to < n) (hn : n ≤ 1000) (w : World) (hO : Ob g fb B w) (hR : Rn w rb st A C k u) (hS : SR w nb n S) (hne : rb ≠ nb) :
    Calls Try.prog 31 #[.pointer (some ⟨rb, 0, none⟩), .pointer (some ⟨fb, 0, none⟩), .slice (some ⟨nb, 0, none⟩) n cap, .int .u32 (to : Int), .int .u64 a, .int .u64 0] w fun e w' => e = .returned (.tuple #[]) ∧ (∃ u', Rn w' rb st A C k u') ∧ SR w' nb n (ups S to (g.mo (S to) a)) ∧ Tw rb nb w w' := by
  have HO := hide hO
  have hO1 := hide hO
  have HR := hide hR
  have HS := hide hS
  clear hO hR hS
  go_enter Try.func31, Try.ntmps31
  go_wp2_with (fail)
  refine (HO.out.sink _ (Below.refl _ _)).mono ?_
  rintro e1 w1 ⟨rfl, hw1⟩
  have HB1 := hide hw1
  have HR1 := hide (HR.out.on hw1)
  have HS1 := hide (HS.out.on hw1)
  clear hw1
  have hkb := at0 w1 (.cells (kv g.A g.M) 79)
  have hc14 : (w1.alloc (.cells (kv g.A g.M) 79)).cell? ⟨rb, 14, none⟩ = some (.int .u64 u) := (cell_of_row _ rb _ _ 40 (0, 0) (keep _ HR1.out)).trans rfl
  have hf14 : (w1.alloc (.cells (kv g.A g.M) 79)).frozen? ⟨rb, 14, none⟩ = false := frozen_of_row _ rb _ _ 40 (keep _ HR1.out)
  go_wp2_with (fail)
  obtain ⟨u1, hu1⟩ : ∃ u1, IntKind.u64.wrap (u + 1) = u1 := ⟨_, rfl⟩
  rw [hu1]
  clear hu1
  have E2 : (w1.alloc (.cells (kv g.A g.M) 79)).setCell ⟨rb, 14, none⟩ (.int .u64 u1) = (w1.alloc (.cells (kv g.A g.M) 79)).setRow rb (rc st A C k u1) := by
    rw [setCell_eq_setRow _ rb 14 _ 40 (0, 0) _ (keep _ HR1.out)]
    rfl
  have hs1 : w1.heap.size ≠ rb := fun e => by have := HR1.out.lt; omega
  have hs2 : w1.heap.size ≠ nb := fun e => by have := HS1.out.lt; omega
  rw [E2]
  have HR2 : Hid (Rn ((w1.alloc (.cells (kv g.A g.M) 79)).setRow rb (rc st A C k u1)) rb st A C k u1) := setRow_heap _ rb _ _ 40 (0, 0) (keep _ HR1.out)
  have HS2 : Hid (SR ((w1.alloc (.cells (kv g.A g.M) 79)).setRow rb (rc st A C k u1)) nb n S) := (HS1.out.on (b1 _ _ _)).of (setRow_other _ _ _ _ (Ne.symm hne))
  have HK2 : Hid (((w1.alloc (.cells (kv g.A g.M) 79)).setRow rb (rc st A C k u1)).heap[w1.heap.size]? = some (.cells (kv g.A g.M) 79 (0, 0))) := (setRow_other _ _ _ _ hs1).trans hkb
  have HT2 : Hid (Tw rb nb w ((w1.alloc (.cells (kv g.A g.M) 79)).setRow rb (rc st A C k u1))) := Tw.row (Tw.of (HB1.out.trans ((b1 _ _ _).mono HB1.out.size))) _ (Or.inl rfl)
  generalize hW : (w1.alloc (.cells (kv g.A g.M) 79)).setRow rb (rc st A C k u1) = w2 at *
  generalize w1.heap.size = kb at *
  clear hW E2 hc14 hf14 hkb HB1 HR1 HS1 HR HS HO
  have HNE := hide hne
  have HS1' := hide hs1
  have HS2' := hide hs2
  have HTO := hide hto
  clear hne hs1 hs2 hn
  have hS0 : Ki kb g.A g.M w2.drew := k4i (t := 79) HK2.out
  have HZ : Hid (kb < w2.heap.size ∧ nb < w2.heap.size) := ⟨(Array.getElem?_eq_some_iff.1 HK2.out).1, HS2.out.lt⟩
  have HK : Hid (∀ W, Below w2.drew.heap.size w2.drew W → Ki kb g.A g.M W) := fun W hB => k4i (t := 79) ((hB.block _ HZ.out.1).trans HK2.out)
  have HSD : Hid (SR w2.drew nb n S) := HS2.out
  have HTD : Hid (Tw rb nb w w2.drew) := ⟨HT2.out.os, HT2.out.tape, HT2.out.output, HT2.out.size, HT2.out.block⟩
  have hkD := HSD.out.k8 to HTO.out
  have HM := hide (hO1.out.mon (S to) a)
  apply wp_cut (fun w' => SR w' nb n (ups S to (g.mo (S to) a)) ∧ w'.heap[kb]? = some (.cells (kv g.A g.M) 79 (0, 0)) ∧ Rn w' rb st A C k u1 ∧ Tw rb nb w w')
  case h =>
    go_region_with ((first | (go_at_call 36; refine (HM.out _).mono ?_; rintro e3 w3 ⟨rfl, hw3'⟩; have hw3 := hide hw3'; clear hw3'; have HS3 := hide (HSD.out.on hw3.out); have hk3 := HS3.out.k8 to HTO.out; have hf3 := HS3.out.f8 (to * 8); obtain ⟨C3, hC3', hQ3'⟩ := HS3.out.store to HTO.out (g.mo (S to) a); have hC3 := hide hC3'; have hQ3 := hide hQ3'; clear hC3' hQ3')))
    all_goals rw [hC3.out]
    all_goals exact ⟨rfl, hQ3.out, (setRow_other _ _ _ _ HS2'.out).trans ((hw3.out.block _ HZ.out.1).trans HK2.out), (setRow_other _ _ _ _ HNE.out).trans ((hw3.out.block _ HR2.out.lt).trans HR2.out), Tw.row (HTD.out.trans (Tw.of hw3.out)) _ (Or.inr (Or.inl rfl))⟩
  case hq =>
    clear hS0 HZ HK HSD hkD HM HR2 HS2 HT2 HK2 HTD
    rintro w4 ⟨h4S, h4K, h4R, h4T⟩
    have HS4 := hide h4S
    have HK4 := hide h4K
    have HR4 := hide h4R
    have HT4 := hide h4T
    clear h4S h4K h4R h4T
    obtain ⟨S4, hS4⟩ : ∃ S4, ups S to (g.mo (S to) a) = S4 := ⟨_, rfl⟩
    rw [hS4] at HS4
    have HE4 := hide hS4
    clear hS4
    have hS0 : Ki kb g.A g.M w4.drew := k4i (t := 79) HK4.out
    have HZ : Hid (kb < w4.heap.size ∧ nb < w4.heap.size) := ⟨(Array.getElem?_eq_some_iff.1 HK4.out).1, HS4.out.lt⟩
    have HK : Hid (∀ W, Below w4.drew.heap.size w4.drew W → Ki kb g.A g.M W) := fun W hB => k4i (t := 79) ((hB.block _ HZ.out.1).trans HK4.out)
    have HSD : Hid (SR w4.drew nb n S4) := HS4.out
    have HTD : Hid (Tw rb nb w w4.drew) := ⟨HT4.out.os, HT4.out.tape, HT4.out.output, HT4.out.size, HT4.out.block⟩
    have hkD := HSD.out.k8 to HTO.out
    have HM := hide (mon_none (S4 to) 0)
    go_wp2_with (fail)
    go_region_with ((first | (go_at_call 36; refine (HM.out _).mono ?_; rintro e3 w3 ⟨rfl, hw3'⟩; have hw3 := hide hw3'; clear hw3'; have HS3 := hide (HSD.out.on hw3.out); have hk3 := HS3.out.k8 to HTO.out; have hf3 := HS3.out.f8 (to * 8); obtain ⟨C3, hC3', hQ3'⟩ := HS3.out.store to HTO.out (S4 to); have hC3 := hide hC3'; have hQ3 := hide hQ3'; clear hC3' hQ3')))
    all_goals rw [hC3.out]
    all_goals go_wp2
    all_goals go_returns
    all_goals refine ⟨rfl, ⟨u1, (setRow_other _ _ _ _ HNE.out).trans ((hw3.out.block _ HR4.out.lt).trans HR4.out)⟩, ?_, Tw.row (HTD.out.trans (Tw.of hw3.out)) _ (Or.inr (Or.inl rfl))⟩
    all_goals (rw [HE4.out]; exact ups_self S4 to ▸ hQ3.out)
end Wp
end Go.Proofs.Ytlhpnhjfibkgpab
