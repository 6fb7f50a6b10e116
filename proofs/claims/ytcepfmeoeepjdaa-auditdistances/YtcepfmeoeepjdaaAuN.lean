import Derived.Test.YtcepfmeoeepjdaaAuM
namespace Go.Proofs.Ytcepfmeoeepjdaa
namespace Au
open Go.RowKit
set_option linter.unusedVariables false
set_option maxRecDepth 8000
/-- The ends of edges. -/
def prs (L : List T3) : List (Nat × Nat) := L.map fun e => (e.1, e.2.1)
theorem prs_app (L : List T3) (e : T3) : prs (L ++ [e]) = prs L ++ [(e.1, e.2.1)] := by simp [prs]
/-- The room as a forest. -/
def Rf (W : World) (rb n m : Nat) (Q : List (Nat × Nat)) (ro : Nat → Int) : Prop := ∃ U, GU W rb m U ∧ Fo n Q U ro ∧ ∀ x, n ≤ x → x < m → U x = 99
theorem Rf.of {W W' : World} {rb n m : Nat} {Q : List (Nat × Nat)} {ro : Nat → Int} (h : Rf W rb n m Q ro) (e : W'.heap[rb]? = W.heap[rb]?) : Rf W' rb n m Q ro := by
  obtain ⟨U, a, b, c⟩ := h
  exact ⟨U, a.of e, b, c⟩
theorem Rf.lt {W : World} {rb n m : Nat} {Q : List (Nat × Nat)} {ro : Nat → Int} (h : Rf W rb n m Q ro) : rb < W.heap.size := by
  obtain ⟨U, a, b, c⟩ := h
  exact a.lt
set_option maxHeartbeats 4000000 in
theorem see43 (n m rb fb : Nat) (Q : List (Nat × Nat)) (ro : Nat → Int) (x y z : Nat) (hx : x < n) (hy : y < n) (hnm : n ≤ m) (hn : n ≤ 10000) (w : World) (hR : Rf w rb n m Q ro) (hb : Boxed w fb 70 (.slice (some ⟨rb, 0, none⟩) n n)) :
    Calls Try.prog 43 #[eV x y z, .pointer (some ⟨fb, 0, none⟩)] w fun e w' => (∃ v, e = .returned v) ∧ (∃ ro', Rf w' rb n m (Q ++ [(x, y)]) ro') ∧ Ch (fun k => k = rb) w w' := by
  obtain ⟨U, hU, hF, hO⟩ := hR
  have c0 : (w.alloc (.cells #[.int .u32 x, .int .u32 y, .int .u32 z] 73)).cell? ⟨fb, 0, none⟩ = some (.slice (some ⟨rb, 0, none⟩) n n) := (hb.alloc _).cell
  have hwx : IntKind.u64.wrap (x : Int) = x := wu _ (by omega) (by omega)
  have hwy : IntKind.u64.wrap (y : Int) = y := wu _ (by omega) (by omega)
  have HJ := hide (join_any n m rb Q U ro hnm hn x y hx hy (w.alloc (.cells #[.int .u32 x, .int .u32 y, .int .u32 z] 73)) (hU.on (b1 _ _ _)) hF)
  have HO := hide hO
  clear hU hF hb hO
  go_enter Try.func43, Try.ntmps43
  go_wp2_with (fail)
  refine HJ.out.mono ?_
  rintro e1 w1 ⟨⟨v1, rfl⟩, U', ro', hG, hF, hO', hC⟩
  have HE : Hid ((∃ ro', Rf w1 rb n m (Q ++ [(x, y)]) ro') ∧ Ch (fun k => k = rb) w w1) := ⟨⟨ro', U', hG, hF, fun t h1 h2 => (hO' t h1).trans (HO.out t h1 h2)⟩, (Ch.of (b1 _ _ _)).trans hC⟩
  clear hG hF hO' hC HJ HO
  go_wp2
  go_end0
  exact ⟨⟨_, rfl⟩, HE.out⟩
abbrev S46 (sb fb rb sg v n sn sc : Nat) (s0 : Int) (w : World) : Prop := w.cell? ⟨sb, 0, none⟩ = some (.slice (some ⟨sg, 0, none⟩) sn sc) ∧ w.cell? ⟨fb, 0, none⟩ = some (.slice (some ⟨rb, 0, none⟩) n n) ∧ w.cell? ⟨sg, v * 8, none⟩ = some (.int .u64 s0)
set_option maxHeartbeats 4000000 in
theorem rule46 (n m rb fb sb sg sn sc : Nat) (Q : List (Nat × Nat)) (ro : Nat → Int) (S : Nat → Nat → Int) (v : Nat) (hv : v < n) (hs : n ≤ sn) (hnm : n ≤ m) (hn : n ≤ 10000) (w : World) (hR : Rf w rb n m Q ro) (hb : Boxed w fb 70 (.slice (some ⟨rb, 0, none⟩) n n)) (hsb : Boxed w sb 23 (.slice (some ⟨sg, 0, none⟩) sn sc)) (hS : SR w sg sn S) (h1 : fb ≠ rb) (h2 : sb ≠ rb) (h3 : sg ≠ rb) :
    Calls Try.prog 46 #[.int .u32 (v : Int), .pointer (some ⟨sb, 0, none⟩), .pointer (some ⟨fb, 0, none⟩)] w fun e w' => e = .returned (.bool (S v 0 != ro v)) ∧ Rf w' rb n m Q ro ∧ Ch (fun k => k = rb) w w' := by
  obtain ⟨U, hU, hF, hO⟩ := hR
  have hwv : IntKind.u64.wrap (v : Int) = v := wu _ (by omega) (by omega)
  have HS : Hid (S46 sb fb rb sg v n sn sc (S v 0) w.drew) := ⟨hsb.cell, hb.cell, hS.c v (by omega) 0 (by omega)⟩
  have HK : Hid (∀ w1, Ch (fun k => k = rb) w.drew w1 → S46 sb fb rb sg v n sn sc (S v 0) w1) := fun w1 hC => ⟨(hC.cell (p := ⟨sb, 0, none⟩) hsb.lt h2).trans hsb.cell, (hC.cell (p := ⟨fb, 0, none⟩) hb.lt h1).trans hb.cell, (hC.cell (p := ⟨sg, v * 8, none⟩) hS.lt h3).trans (hS.c v (by omega) 0 (by omega))⟩
  have HR := hide (root47 n m rb Q U ro hnm hn v hv w.drew (hU.of rfl) hF)
  have HO := hide hO
  clear hU hF hO hb hsb hS
  have hsn : v < sn := by omega
  go_enter Try.func46, Try.ntmps46
  go_wp2_with (fail)
  go_region_held3 (S46 sb fb rb sg v n sn sc (S v 0)) ((first | with_reducible exact HS.out | with_reducible exact HK.out _ HC3.out)) ((first | (go_at_call 47; refine HR.out.mono ?_; rintro e3 w3 ⟨rfl, U', hG, hF, _, hO', hC3⟩; have HC3 := hide hC3; have HG := hide (And.intro hG (And.intro hF hO')); clear hC3 hG hF hO')))
  have HE : Hid (Rf w3 rb n m Q ro ∧ Ch (fun k => k = rb) w w3) := ⟨⟨U', HG.out.1, HG.out.2.1, fun t h1 h2 => (HG.out.2.2 t h1).trans (HO.out t h1 h2)⟩, (Ch.drew (Ch.refl _ w)).trans HC3.out⟩
  clear HG HC3 HR HO HS HK
  go_wp2
  all_goals go_ret
  all_goals exact ⟨rfl, HE.out⟩
end Au
end Go.Proofs.Ytcepfmeoeepjdaa
