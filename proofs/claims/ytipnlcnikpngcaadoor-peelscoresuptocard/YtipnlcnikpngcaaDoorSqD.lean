import Derived.Test.YtipnlcnikpngcaaDoorSqC
import Derived.Test.YtipnlcnikpngcaaDoorPeS
namespace Go.Proofs.YtipnlcnikpngcaaDoor
namespace Wp
open Go.RowKit
set_option linter.unusedVariables false
set_option maxRecDepth 8000
/-- Does an edge join two vertices? -/
def hit (v w : Nat) (x y : Int) : Bool := ((v : Int) != (w : Int)) && ((x == (v : Int) && y == (w : Int)) || (x == (w : Int) && y == (v : Int)))
def nbr (E : Nat → Int × Int × Int) (v w : Nat) : Nat → Bool
  | 0 => false
  | i + 1 => nbr E v w i || hit v w (E i).1 (E i).2.1
theorem nbr_adj (E : Nat → Int × Int × Int) (v w : Nat) (m : Nat) : nbr E v w m = true ↔ Adj E m v w := by
  induction m with
  | zero => simp [nbr, Adj]
  | succ m ih =>
    simp only [nbr, Bool.or_eq_true, ih]
    constructor
    · rintro (⟨h1, i, hi, h2⟩ | h)
      · exact ⟨h1, i, by omega, h2⟩
      · simp only [hit, Bool.and_eq_true, Bool.or_eq_true, bne_iff_ne, beq_iff_eq] at h
        exact ⟨fun e => h.1 (by rw [e]), m, by omega, h.2⟩
    · rintro ⟨h1, i, hi, h2⟩
      by_cases e : i = m
      · subst e
        refine Or.inr ?_
        simp only [hit, Bool.and_eq_true, Bool.or_eq_true, bne_iff_ne, beq_iff_eq]
        exact ⟨fun e => h1 (by omega), h2⟩
      · exact Or.inl ⟨h1, i, by omega, h2⟩
theorem nbr_up {E : Nat → Int × Int × Int} {v w i m : Nat} (h : i < m) (hh : hit v w (E i).1 (E i).2.1 = true) : nbr E v w m = true := by
  induction m with
  | zero => omega
  | succ m ih =>
    simp only [nbr]
    by_cases e : i = m
    · subst e; rw [hh]; simp
    · rw [ih (by omega)]; rfl
set_option maxHeartbeats 4000000 in
theorem near_any (v u m c : Nat) (a : Option Addr) (E : Nat → Int × Int × Int) (hm : m ≤ 1048576) (w : World) (hE : ERow w a m E) :
    Calls Tryd.prog 12 #[.slice a m c, .int .u32 (v : Int), .int .u32 (u : Int)] w fun e w' => e = .returned (.bool (nbr E v u m)) ∧ Below w.heap.size w w' := by
  have HE := hide hE
  have HX : Hid (Below w.heap.size w w) := Below.refl _ _
  clear hE
  go_enter Tryd.func12, Tryd.ntmps12
  go_wp2_with (fail)
  go_loopw [7] (fun k wr => ∃ j : Nat, j ≤ m ∧ k = .int .i64 (j : Int) ∧ Hid (nbr E v u j = false) ∧ Hid (Below w.heap.size w wr)) (fun k _ => m - (intOf k).toNat)
  case atStart => exact ⟨0, Nat.zero_le _, rfl, rfl, HX⟩
  case round =>
    clear HX
    obtain ⟨j, hj, rfl, HN, HB⟩ := hrel
    by_cases cc : j < m
    · obtain ⟨b, rfl, hb, hc⟩ := HE.out (by omega)
      obtain ⟨h1, h2, h3⟩ := hc j cc
      obtain ⟨x, hx⟩ : ∃ x, (E j).1 = x := ⟨_, rfl⟩
      obtain ⟨y, hy⟩ : ∃ y, (E j).2.1 = y := ⟨_, rfl⟩
      obtain ⟨z, hz⟩ : ∃ z, (E j).2.2 = z := ⟨_, rfl⟩
      rw [hx] at h1
      rw [hy] at h2
      rw [hz] at h3
      have c1 := (HB.out.cell hb).trans h1
      have c2 := (HB.out.cell hb).trans h2
      have c3 := (HB.out.cell hb).trans h3
      have HH : Hid (hit v u (E j).1 (E j).2.1 = hit v u x y) := by rw [hx, hy]; rfl
      have HC := hide cc
      have HB2 : Hid (Below w.heap.size w (wr.alloc (.cells (ev x y z) 52))) := bA2 HB.out _
      clear hc hx hy hz h1 h2 h3
      obtain ⟨b0, hb0⟩ : ∃ b, ((v : Int) != (u : Int)) = b := ⟨_, rfl⟩
      obtain ⟨b1, hb1⟩ : ∃ b, (x == (v : Int)) = b := ⟨_, rfl⟩
      obtain ⟨b2, hb2⟩ : ∃ b, (y == (u : Int)) = b := ⟨_, rfl⟩
      obtain ⟨b3, hb3⟩ : ∃ b, (x == (u : Int)) = b := ⟨_, rfl⟩
      obtain ⟨b4, hb4⟩ : ∃ b, (y == (v : Int)) = b := ⟨_, rfl⟩
      have HHt : Hid (hit v u x y = (b0 && ((b1 && b2) || (b3 && b4)))) := by show _ = _; unfold hit; rw [hb0, hb1, hb2, hb3, hb4]
      have hc0 : ((v : Int) == (u : Int)) = !b0 := by rw [← hb0]; simp [bne]
      cases b0 <;> cases b1 <;> cases b2 <;> cases b3 <;> cases b4
      all_goals first
        | (have hh : hit v u (E j).1 (E j).2.1 = true := HH.out.trans HHt.out
           have hn := nbr_up HC.out hh
           have HNu := hide hn
           clear hh hn hc0
           go_wp2_with (fail)
           go_ret
           exact ⟨by rw [HNu.out]; try rfl, HB2.out⟩)
        | (have hh : hit v u (E j).1 (E j).2.1 = false := HH.out.trans HHt.out
           have HNu : Hid (nbr E v u (j + 1) = false) := by show _ = _; simp only [nbr]; rw [HN.out, hh]; rfl
           clear hh hc0
           go_wp2_with (fail)
           exact ⟨⟨j + 1, HC.out, by go_num, HNu, HB2⟩, by simp [intOf]; have := HC.out; omega⟩)
    · have hjm : j = m := by omega
      subst hjm
      clear cc hj
      go_wp2_with (fail)
      go_ret
      exact ⟨by rw [HN.out]; try rfl, HB.out⟩
set_option maxHeartbeats 4000000 in
theorem lies_any (v u : Nat) (x y z : Int) (w : World) :
    Calls Tryd.prog 47 #[.agg (ev x y z), .int .u32 (v : Int), .int .u32 (u : Int)] w fun e w' => e = .returned (.bool (hit v u x y)) ∧ w' = w.alloc (.cells (ev x y z) 52) := by
  obtain ⟨b0, hb0⟩ : ∃ b, ((v : Int) != (u : Int)) = b := ⟨_, rfl⟩
  obtain ⟨b1, hb1⟩ : ∃ b, (x == (v : Int)) = b := ⟨_, rfl⟩
  obtain ⟨b2, hb2⟩ : ∃ b, (y == (u : Int)) = b := ⟨_, rfl⟩
  obtain ⟨b3, hb3⟩ : ∃ b, (x == (u : Int)) = b := ⟨_, rfl⟩
  obtain ⟨b4, hb4⟩ : ∃ b, (y == (v : Int)) = b := ⟨_, rfl⟩
  have hE : hit v u x y = (b0 && ((b1 && b2) || (b3 && b4))) := by unfold hit; rw [hb0, hb1, hb2, hb3, hb4]
  rw [hE]
  clear hE
  cases b0 <;> cases b1 <;> cases b2 <;> cases b3 <;> cases b4
  all_goals
    go_enter Tryd.func47, Tryd.ntmps47
    go_wp2
    go_ret
    exact ⟨rfl, rfl⟩
set_option maxHeartbeats 4000000 in
theorem rnear_any (v u m c : Nat) (a : Option Addr) (E : Nat → Int × Int × Int) (hm : m ≤ 1048576) (w : World) (hE : ERow w a m E) :
    Calls Tryd.prog 28 #[.slice a m c, .int .u32 (v : Int), .int .u32 (u : Int)] w fun e w' => e = .returned (.bool (nbr E v u m)) ∧ Below w.heap.size w w' := by
  have HE := hide hE
  have HX : Hid (Below w.heap.size w w) := Below.refl _ _
  clear hE
  go_enter Tryd.func28, Tryd.ntmps28
  go_wp2_with (fail)
  go_loopw [7] (fun k wr => ∃ j : Nat, j ≤ m ∧ k = .int .i64 (j : Int) ∧ Hid (nbr E v u j = false) ∧ Hid (Below w.heap.size w wr)) (fun k _ => m - (intOf k).toNat)
  case atStart => exact ⟨0, Nat.zero_le _, rfl, rfl, HX⟩
  case round =>
    clear HX
    obtain ⟨j, hj, rfl, HN, HB⟩ := hrel
    by_cases cc : j < m
    · obtain ⟨b, rfl, hb, hc⟩ := HE.out (by omega)
      obtain ⟨h1, h2, h3⟩ := hc j cc
      obtain ⟨x, hx⟩ : ∃ x, (E j).1 = x := ⟨_, rfl⟩
      obtain ⟨y, hy⟩ : ∃ y, (E j).2.1 = y := ⟨_, rfl⟩
      obtain ⟨z, hz⟩ : ∃ z, (E j).2.2 = z := ⟨_, rfl⟩
      rw [hx] at h1
      rw [hy] at h2
      rw [hz] at h3
      have c1 := (HB.out.cell hb).trans h1
      have c2 := (HB.out.cell hb).trans h2
      have c3 := (HB.out.cell hb).trans h3
      have HC := hide cc
      have HB2 : Hid (Below w.heap.size w (wr.alloc (.cells (ev x y z) 52))) := bA2 HB.out _
      have HL := hide (lies_any v u x y z)
      cases hh : hit v u x y
      · have HNu : Hid (nbr E v u (j + 1) = false) := by show _ = _; simp only [nbr]; rw [HN.out, hx, hy, hh]; rfl
        rw [hh] at HL
        clear hc hx hy hz h1 h2 h3 hh
        go_wp2_with (first | (go_at_call 47; refine (HL.out _).mono ?_; rintro e1 w1 ⟨rfl, hw1⟩; subst w1))
        exact ⟨⟨j + 1, HC.out, by go_num, HNu, HB2⟩, by simp [intOf]; have := HC.out; omega⟩
      · have HNu : Hid (nbr E v u m = true) := nbr_up HC.out (by rw [hx, hy]; exact hh)
        rw [hh] at HL
        clear hc hx hy hz h1 h2 h3 hh
        go_wp2_with (first | (go_at_call 47; refine (HL.out _).mono ?_; rintro e1 w1 ⟨rfl, hw1⟩; subst w1))
        go_ret
        exact ⟨by rw [HNu.out]; try rfl, HB2.out⟩
    · have hjm : j = m := by omega
      subst hjm
      clear cc hj
      go_wp2_with (fail)
      go_ret
      exact ⟨by rw [HN.out]; try rfl, HB.out⟩
set_option maxHeartbeats 1000000 in
theorem inset_any (s : Nat → Int) (k : Bool) (hk : (s 0 == 1) = k) (w : World) : Calls Tryd.prog 11 #[.agg (sv s)] w fun e w' => e = .returned (.bool k) ∧ w' = w.alloc (.cells (sv s) 41) := by
  go_enter Tryd.func11, Tryd.ntmps11
  go_wp2
  go_ret
  exact ⟨rfl, rfl⟩
/-- What Set answers. -/
def Mk (N A C : Nat) (w : World) (e : Ending) (w' : World) : Prop := ∃ fb, e = .returned (.tuple #[.pointer (some ⟨fb, 0, none⟩), .int .i64 0]) ∧ FS N A C fb w' ∧ Below w.heap.size w w'
theorem Mk.mk {N A C fb : Nat} {w w' : World} (h1 : FS N A C fb w') (h2 : Below w.heap.size w w') : Mk N A C w (.returned (.tuple #[.pointer (some ⟨fb, 0, none⟩), .int .i64 0])) w' := ⟨fb, rfl, h1, h2⟩
set_option maxHeartbeats 2000000 in
theorem set_any (N A C : Nat) (h0 : 1 ≤ N) (hN : N ≤ 2147483647) (hA : A < N) (hC : C < N) (hg : Nat.gcd N A = 1) (w : World) : Calls Tryd.prog 7 #[.agg (rk N A C)] w fun e w' => Mk N A C w e w' := by
  have HCk := hide (check_ok N A C (by omega) (by omega) ⟨h0, hN⟩ hA hC hg)
  have HB0 : Hid (Below w.heap.size w (w.alloc (.cells (rk N A C) 26))) := b1 _ _ _
  have hk := k3 (t := 26) (at0 w (.cells (rk N A C) 26))
  have hsz : w.heap.size < (w.alloc (.cells (rk N A C) 26)).heap.size := by simp
  clear h0 hN hA hC hg
  go_enter Tryd.func7, Tryd.ntmps7
  go_wp2_with (fail)
  refine (HCk.out _).mono ?_
  rintro e1 w1 ⟨rfl, hB1'⟩
  have HB1 : Hid (Below w.heap.size w w1) := HB0.out.trans (hB1'.mono (Nat.le_of_lt hsz))
  have hk1 := K3.on hk hB1' hsz
  clear hB1' hk hsz HB0
  go_wp2_with (fail)
  go_ret2
  exact Mk.mk (fb := w1.heap.size) ⟨by simp, at0 _ _⟩ (bA2 HB1.out _)
theorem f3 {w : World} {b : Nat} {c : Array Value} {t : TypeId} (h : w.heap[b]? = some (.cells c t (0, 0))) : w.frozen? ⟨b, 0, none⟩ = false ∧ w.frozen? ⟨b, 1, none⟩ = false ∧ w.frozen? ⟨b, 2, none⟩ = false := by
  refine ⟨?_, ?_, ?_⟩ <;> exact frozen_of_row w b _ _ t h
theorem sets3 {w : World} {g : Nat} {old : Array Value} {t : TypeId} {fr : Nat × Nat} (hg : w.heap[g]? = some (.cells old t fr)) (hs : old.size = 3) (v0 v1 v2 : Value) :
    (((w.setCell ⟨g, 0, none⟩ v0).setCell ⟨g, 1, none⟩ v1).setCell ⟨g, 2, none⟩ v2) = w.setRow g #[v0, v1, v2] := by
  match old, hs with
  | ⟨[u0, u1, u2]⟩, _ =>
    rw [setCell_eq_setRow w g 0 #[u0, u1, u2] t fr v0 hg]
    rw [show (#[u0, u1, u2] : Array Value).setIfInBounds 0 v0 = #[v0, u1, u2] from rfl]
    have q0 := setRow_heap w g _ #[v0, u1, u2] t fr hg
    rw [setCell_eq_setRow _ g 1 #[v0, u1, u2] t fr v1 q0]
    rw [show (#[v0, u1, u2] : Array Value).setIfInBounds 1 v1 = #[v0, v1, u2] from rfl]
    rw [setRow_setRow]
    have q1 := setRow_heap w g _ #[v0, v1, u2] t fr hg
    rw [setCell_eq_setRow _ g 2 #[v0, v1, u2] t fr v2 q1]
    rw [show (#[v0, v1, u2] : Array Value).setIfInBounds 2 v2 = #[v0, v1, v2] from rfl]
    rw [setRow_setRow]
theorem size26 : (Tryd.prog.info? 26).map (·.size) = some 3 := by kernel_rfl
/-- What size answers. -/
def Sz5 (w : World) (many : Nat) (e : Ending) (w' : World) : Prop := ∃ N A C : Nat, e = .returned (.tuple #[.int .u32 (N : Int), .agg (rk N A C)]) ∧ (1 ≤ N ∧ N ≤ 24 ∧ A < N ∧ C < N ∧ Nat.gcd N A = 1) ∧ Below w.heap.size w w'
theorem Sz5.mk {w w' : World} {many N A C : Nat} (h : 1 ≤ N ∧ N ≤ 24 ∧ A < N ∧ C < N ∧ Nat.gcd N A = 1) (hb : Below w.heap.size w w') : Sz5 w many (.returned (.tuple #[.int .u32 (N : Int), .agg (rk N A C)])) w' := ⟨N, A, C, rfl, h, hb⟩
set_option maxHeartbeats 4000000 in
theorem size5_any (many sd : Nat) (h0 : many < 4294967296) (h1 : sd < 18446744073709551616) (w : World) : Calls Tryd.prog 5 #[.int .u32 (many : Int), .int .u64 (sd : Int)] w fun e w' => Sz5 w many e w' := by
  obtain ⟨N, hN⟩ : ∃ N, 1 + many % 24 = N := ⟨_, rfl⟩
  have hb : 1 ≤ N ∧ N ≤ 24 := by omega
  have hNi : (1 : Int) + (many : Int) % 24 = (N : Int) := by omega
  have hwN : IntKind.u32.wrap (N : Int) = N := by simp only [IntKind.wrap, IntKind.signed, IntKind.bits]; simp; omega
  obtain ⟨j, hj⟩ := fst_is N (sd / 4294967296 % N) (Nat.mod_lt _ (by omega))
  have HR := hide (rrank_ok N sd j ⟨hb.1, by omega⟩ h1 hj)
  have hc : sd % N < N := Nat.mod_lt _ (by omega)
  obtain ⟨C, hC⟩ : ∃ C, sd % N = C := ⟨_, rfl⟩
  rw [hC] at HR hc
  have HF : Hid (1 ≤ N ∧ N ≤ 24 ∧ j < N ∧ C < N ∧ Nat.gcd N j = 1) := ⟨hb.1, hb.2, hj.2.1, hc, hj.2.2.1⟩
  have HB0 : Hid (Below w.heap.size w (w.alloc (.cells z3 26))) := b1 _ _ _
  have hr0 : Hid ((w.alloc (.cells z3 26)).heap[w.heap.size]? = some (.cells z3 26 (0, 0))) := at0 _ _
  clear hN hb hj hC hc h1
  go_enter Tryd.func5, Tryd.ntmps5
  go_wp2_with (fail)
  refine (HR.out _).mono ?_
  rintro e1 w1 ⟨rfl, hB1'⟩
  have HB1 : Hid (Below w.heap.size w w1) := HB0.out.trans (hB1'.mono HB0.out.size)
  have hr1 := hide ((hB1'.block _ (by simp)).trans hr0.out)
  clear hB1' hr0 HB0 HR
  have hk1 := k3 (t := 26) hr1.out
  have hf1 := f3 hr1.out
  have hl1 := lt_of_some hr1.out
  go_wp2_with (fail)
  go_region
  all_goals go_wp2_with (fail)
  all_goals rw [sets3 hr1.out rfl]
  all_goals (refine bodyPost_ret (v := .tuple #[.int .u32 (N : Int), .agg (rk N j C)]) ?_ rfl (Sz5.mk HF.out (by repeat first | exact Below.refl _ _ | refine belowD ?_ | refine bA2 ?_ _ | exact HB1.out | refine below_setRow ?_ (Nat.le_refl _) _)))
  all_goals simp only [results, Tryd.results5, asAddr]
  all_goals simp [run_loadVar_row (((w1.setRow w.heap.size (rk N j C)).alloc (.cells (rk N j C) 26)).drew) _ 26 26 _ (0, 0) _ (keep (.cells (rk N j C) 26) (setRow_heap _ _ _ (rk N j C) 26 (0, 0) hr1.out)) Tryd.underlying26 rfl size26]
end Wp
end Go.Proofs.YtipnlcnikpngcaaDoor
