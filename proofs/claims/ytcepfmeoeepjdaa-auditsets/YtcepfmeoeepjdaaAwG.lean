import Derived.Test.YtcepfmeoeepjdaaAwF
namespace Go.Proofs.Ytcepfmeoeepjdaa
namespace Au
open Go.RowKit
set_option linter.unusedVariables false
set_option maxRecDepth 8000
theorem rule71 (sb sg sn sc : Nat) (S : Nat → Nat → Int) (v : Nat) (hv : v < sn) (w : World) (hsb : Boxed w sb 23 (.slice (some ⟨sg, 0, none⟩) sn sc)) (hS : SR w sg sn S) (hsn : sn ≤ 140737488351232) :
    Calls Try.prog 71 #[.int .u32 (v : Int), .pointer (some ⟨sb, 0, none⟩)] w fun e w' => e = .returned (.bool (decide (64 ≤ S v 0))) ∧ w' = w := by
  have c0 := hsb.cell
  have c2 := hS.c v hv 0 (by omega)
  rw [Nat.add_zero] at c2
  clear hsb hS
  go_enter Try.func71, Try.ntmps71
  go_wp2
  all_goals go_ret
  all_goals exact ⟨rfl, rfl⟩
/-- A bit; all bits below. -/
def sh (s : Int) : Int := IntKind.u64.wrap (2 ^ min s.toNat 64)
def bw (s : Int) : Int := IntKind.u64.wrap (sh s - 1)
theorem rule72 (n m rb mb sb sg sn sc : Nat) (U : Nat → Int) (S : Nat → Nat → Int) (v : Nat) (hv : v < n) (hs : n ≤ sn) (hm : n ≤ m) (w : World) (hR : GU w rb m U) (hb : Boxed w mb 32 (.slice (some ⟨rb, 0, none⟩) n n)) (hsb : Boxed w sb 23 (.slice (some ⟨sg, 0, none⟩) sn sc)) (hS : SR w sg sn S) (hsn : sn ≤ 140737488351232) (h0 : 0 ≤ S v 0) (h1 : S v 0 < 18446744073709551616) :
    Calls Try.prog 72 #[.int .u32 (v : Int), .pointer (some ⟨sb, 0, none⟩), .pointer (some ⟨mb, 0, none⟩)] w fun e w' => e = .returned (.bool (bits .and .u64 (U v) (bw (S v 0)) != bw (S v 0))) ∧ w' = w := by
  have c0 := hsb.cell
  have c1 := hb.cell
  have c2 := hS.c v (by omega) 0 (by omega)
  rw [Nat.add_zero] at c2
  have c3 := hR.cell v (by omega)
  have hv2 : v < sn := by omega
  clear hR hb hsb hS
  go_enter Try.func72, Try.ntmps72
  go_wp2
  all_goals go_ret
  all_goals exact ⟨rfl, rfl⟩
abbrev S69 (sb zb mb qb rb sg v u n sn sc : Nat) (s0 s1 : Int) (w : World) : Prop := w.cell? ⟨sb, 0, none⟩ = some (.slice (some ⟨sg, 0, none⟩) sn sc) ∧ w.cell? ⟨zb, 0, none⟩ = some (.pointer (some ⟨qb, 0, none⟩)) ∧ w.cell? ⟨mb, 0, none⟩ = some (.slice (some ⟨rb, 0, none⟩) n n) ∧ w.cell? ⟨sg, v * 8, none⟩ = some (.int .u64 s0) ∧ w.cell? ⟨sg, u * 8, none⟩ = some (.int .u64 s1)
set_option maxHeartbeats 4000000 in
theorem see69 (n m rb mb zb sb sg sn sc qb : Nat) (kd : Int) (ed sl : Value) (o : Vd) (U : Nat → Int) (S : Nat → Nat → Int) (v u : Nat) (hv : v < n) (hu : u < n) (hs : n ≤ sn) (hsn : sn ≤ 140737488351232) (hm : n ≤ m) (w : World) (hR : GU w rb m U) (hb : Boxed w mb 32 (.slice (some ⟨rb, 0, none⟩) n n)) (hz : Boxed w zb 69 (.pointer (some ⟨qb, 0, none⟩))) (hsb : Boxed w sb 23 (.slice (some ⟨sg, 0, none⟩) sn sc)) (hS : SR w sg sn S) (hI : Iq w qb n kd ed sl o) (h0 : 0 ≤ S u 0) (h1 : S u 0 < 18446744073709551616)
    (n1 : qb ≠ sb) (n2 : qb ≠ sg) (n3 : qb ≠ mb) (n4 : qb ≠ rb) :
    Calls Try.prog 69 #[.int .u32 (v : Int), .int .u32 (u : Int), .pointer (some ⟨sb, 0, none⟩), .pointer (some ⟨zb, 0, none⟩), .pointer (some ⟨mb, 0, none⟩)] w fun e w' => (∃ x, e = .returned x) ∧ GU w' rb m (up U v (bits .or .u64 (U v) (sh (S u 0)))) ∧ Iq w' qb n kd ed sl (if S v 0 = S u 0 then nt o v 2 else o) ∧ Ch (fun k => k = rb ∨ k = qb) w w' := by
  have HS : Hid (S69 sb zb mb qb rb sg v u n sn sc (S v 0) (S u 0) w.drew) := ⟨hsb.cell, hz.cell, hb.cell, hS.c v (by omega) 0 (by omega), hS.c u (by omega) 0 (by omega)⟩
  have c3 : w.drew.cell? ⟨zb, 0, none⟩ = some (.pointer (some ⟨qb, 0, none⟩)) := hz.cell
  have hv2 : v < sn := by omega
  have hu2 : u < sn := by omega
  have HN := hide (note_any qb v 2 n kd ed sl o w.drew hI)
  have HR := hide hR
  have HB := hide hb
  have HSB := hide hsb
  have HSS := hide hS
  have HI := hide hI
  clear hR hb hz hsb hS hI
  by_cases he : S v 0 = S u 0
  · have heb : (S v 0 == S u 0) = true := by simpa using he
    rw [if_pos he]
    clear he
    go_enter Try.func69, Try.ntmps69
    go_wp2_with (fail)
    go_region_held3 (S69 sb zb mb qb rb sg v u n sn sc (S v 0) (S u 0)) ((with_reducible exact HS.out)) ((fail))
    clear HS
    go_wp2_with (fail)
    refine HN.out.mono ?_
    rintro e3 w3 ⟨⟨x3, rfl⟩, hI3, hC3⟩
    have hC : Ch (fun k => k = qb) w w3 := (Ch.refl _ w).drew.trans hC3
    have hR3 : GU w3 rb m U := HR.out.of (hC.block _ HR.out.lt (fun e => n4 e.symm))
    have d0 : w3.cell? ⟨sb, 0, none⟩ = some (.slice (some ⟨sg, 0, none⟩) sn sc) := (hC.cell (p := ⟨sb, 0, none⟩) HSB.out.lt (fun e => n1 e.symm)).trans HSB.out.cell
    have d1 : w3.cell? ⟨mb, 0, none⟩ = some (.slice (some ⟨rb, 0, none⟩) n n) := (hC.cell (p := ⟨mb, 0, none⟩) HB.out.lt (fun e => n3 e.symm)).trans HB.out.cell
    have d2 : w3.cell? ⟨sg, u * 8, none⟩ = some (.int .u64 (S u 0)) := (hC.cell (p := ⟨sg, u * 8, none⟩) HSS.out.lt (fun e => n2 e.symm)).trans (HSS.out.c u (by omega) 0 (by omega))
    have d3 := hR3.cell v (by omega)
    have d4 := hR3.fz v
    clear c3
    go_wp2_with (fail)
    have HE : Hid (GU (w3.setCell ⟨rb, v, none⟩ (.int .u64 (bits .or .u64 (U v) (sh (S u 0))))) rb m (up U v (bits .or .u64 (U v) (sh (S u 0)))) ∧ Iq (w3.setCell ⟨rb, v, none⟩ (.int .u64 (bits .or .u64 (U v) (sh (S u 0))))) qb n kd ed sl (nt o v 2) ∧ Ch (fun k => k = rb ∨ k = qb) w (w3.setCell ⟨rb, v, none⟩ (.int .u64 (bits .or .u64 (U v) (sh (S u 0)))))) := ⟨(hR3.set v _).1, (Below.heap_setCell _ _ _ _ n4).trans hI3, (hC.mono (fun k _ h => Or.inr h)).set _ _ (Or.inl (Or.inl rfl))⟩
    clear hI3 hC3 hC hR3 HN HR HB HSB HSS HI
    go_region_with (fail)
    all_goals go_end0
    all_goals exact ⟨⟨_, rfl⟩, HE.out.1.of rfl, HE.out.2.1, ⟨HE.out.2.2.os, HE.out.2.2.tape, HE.out.2.2.output, HE.out.2.2.size, HE.out.2.2.block⟩⟩
  · have heb : (S v 0 == S u 0) = false := by simpa using he
    rw [if_neg he]
    clear he
    have d0 : w.drew.cell? ⟨sb, 0, none⟩ = some (.slice (some ⟨sg, 0, none⟩) sn sc) := HSB.out.cell
    have d1 : w.drew.cell? ⟨mb, 0, none⟩ = some (.slice (some ⟨rb, 0, none⟩) n n) := HB.out.cell
    have d2 : w.drew.cell? ⟨sg, u * 8, none⟩ = some (.int .u64 (S u 0)) := HSS.out.c u (by omega) 0 (by omega)
    have d3 : w.drew.cell? ⟨rb, v, none⟩ = some (.int .u64 (U v)) := HR.out.cell v (by omega)
    have d4 : w.drew.frozen? ⟨rb, v, none⟩ = false := HR.out.fz v
    have HE : Hid (GU (w.setCell ⟨rb, v, none⟩ (.int .u64 (bits .or .u64 (U v) (sh (S u 0))))) rb m (up U v (bits .or .u64 (U v) (sh (S u 0)))) ∧ Iq (w.setCell ⟨rb, v, none⟩ (.int .u64 (bits .or .u64 (U v) (sh (S u 0))))) qb n kd ed sl o ∧ Ch (fun k => k = rb ∨ k = qb) w (w.setCell ⟨rb, v, none⟩ (.int .u64 (bits .or .u64 (U v) (sh (S u 0)))))) := ⟨(HR.out.set v _).1, (Below.heap_setCell _ _ _ _ n4).trans HI.out, (Ch.refl _ _).set _ _ (Or.inl (Or.inl rfl))⟩
    clear HN HR HB HSB HSS HI
    go_enter Try.func69, Try.ntmps69
    go_wp2_with (fail)
    go_region_held3 (S69 sb zb mb qb rb sg v u n sn sc (S v 0) (S u 0)) ((with_reducible exact HS.out)) ((fail))
    clear HS c3
    go_wp2_with (fail)
    go_region_with (fail)
    all_goals go_end0
    all_goals exact ⟨⟨_, rfl⟩, HE.out.1.of rfl, HE.out.2.1, ⟨HE.out.2.2.os, HE.out.2.2.tape, HE.out.2.2.output, HE.out.2.2.size, HE.out.2.2.block⟩⟩
end Au
end Go.Proofs.Ytcepfmeoeepjdaa
