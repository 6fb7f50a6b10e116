import Derived.Test.YtclgbificccadaaSvW
namespace Go.Proofs.Ytclgbificccadaa
namespace Sv
open Go.RowKit Go.Shelf
set_option linter.unusedVariables false
attribute [local go_sem] Oper.semAt_some
abbrev eN (f : Int) : Ending := .returned (.tuple #[.slice none 0 0, .slice none 0 0, .int .i64 f])
set_option maxRecDepth 20000 in
set_option maxHeartbeats 4000000 in
theorem shuffle_err (N K k fan s f : Int) (va vb : Value) (hf : ¬ f = 0) (hst : St k fan (.returned (.tuple #[.int .i64 s, .int .i64 f]))) (w : World) :
    Calls Try.prog 13 #[va, vb, .int .i64 k, .int .i64 fan, .func (.func 14) #[rg N K] #[]] w fun e w' => e = eN f ∧ w' = w := by
  go_enter Try.func13, Try.ntmps13
  go_wp2_with (fail)
  refine (stages_any k fan _).mono ?_
  rintro e1 w9 ⟨hs1, h9⟩
  subst w9
  obtain rfl := hs1.same hst
  have hfb : (f == 0) = false := by simp; exact hf
  clear hs1 hst
  go_wp2
  go_ret3
  exact ⟨rfl, rfl⟩
set_option maxRecDepth 20000 in
set_option maxHeartbeats 4000000 in
theorem shuffle_tight (N K k fan s : Int) (xa xb : Option Addr) (n ca m cb : Nat) (hm : m < n) (hst : St k fan (.returned (.tuple #[.int .i64 s, .int .i64 0]))) (w : World) :
    Calls Try.prog 13 #[.slice xa n ca, .slice xb m cb, .int .i64 k, .int .i64 fan, .func (.func 14) #[rg N K] #[]] w fun e w' => e = eN 94 ∧ w' = w := by
  have hq : ∀ W, Sem.run Try.prog (binOp BinOp.eql 48 (Value.func (Fn.func 14) #[rg N K] #[]) Value.nilFunc) W = .ok (.bool false) W := fun _ => rfl
  have hm' : (m : Int) < (n : Int) := by omega
  go_enter Try.func13, Try.ntmps13
  go_wp2_with (fail)
  refine (stages_any k fan _).mono ?_
  rintro e1 w9 ⟨hs1, h9⟩
  subst w9
  obtain rfl := hs1.same hst
  clear hs1 hst
  go_wp2
  go_ret3
  exact ⟨rfl, rfl⟩
set_option maxRecDepth 20000 in
set_option maxHeartbeats 4000000 in
theorem shuffle_part (N K : Int) (k fan : Nat) (s : Int) (hk : 1 ≤ k) (hk2 : k ≤ 512) (L : List T3) (hl : L.length * 24 ≤ 140737488355328) (hv : Vx N K L) (hg : ¬ Gd N K k L) (xa xb : Option Addr) (ca m cb : Nat) (hm : L.length ≤ m) (hst : St k fan (.returned (.tuple #[.int .i64 s, .int .i64 0]))) (w : World) (hr : Row3 .u64 w xa L) :
    Calls Try.prog 13 #[.slice xa L.length ca, .slice xb m cb, .int .i64 (k : Int), .int .i64 (fan : Int), .func (.func 14) #[rg N K] #[]] w fun e w' => e = eN 93 ∧ Below w.heap.size w w' := by
  have hq : ∀ W, Sem.run Try.prog (binOp BinOp.eql 48 (Value.func (Fn.func 14) #[rg N K] #[]) Value.nilFunc) W = .ok (.bool false) W := fun _ => rfl
  have hml : ¬ (m : Int) < (L.length : Int) := by omega
  have HV : Hid (Vx N K L ∧ ¬ Gd N K k L ∧ Row3 .u64 w xa L) := ⟨hv, hg, hr⟩
  clear hv hg hr
  go_enter Try.func13, Try.ntmps13
  go_wp2_with (fail)
  refine (stages_any (k : Int) (fan : Int) _).mono ?_
  rintro e1 w9 ⟨hs1, h9⟩
  subst w9
  obtain rfl := hs1.same hst
  clear hs1 hst
  go_wp2_with (fail)
  refine (census_any N K xa ca L k hk hk2 hl HV.out.1 w HV.out.2.2).mono ?_
  rintro e2 w2 ⟨hb2, hc⟩
  obtain ⟨_, rfl⟩ := hc.resolve_left (fun h => HV.out.2.1 h.1)
  clear hc hq HV
  go_wp2
  go_ret3
  exact ⟨rfl, hb2⟩
theorem vx_nil (N K : Int) : Vx N K [] := fun e he => by simp at he
theorem gd_nil (N K : Int) (k : Nat) : Gd N K k [] := fun e he => by simp at he
theorem bx_nil (w : World) (x : Option Addr) (g : Nat) (T : List Value) : Bx w x g [] T := fun h => by simp at h
set_option maxRecDepth 20000 in
set_option maxHeartbeats 4000000 in
/-- Shuffle of no record: nothing that was there is touched. -/
theorem shuffle_nil (N K : Int) (k fan : Nat) (hk : 1 ≤ k) (hk2 : k ≤ 512) (hf1 : 2 ≤ fan) (hf2 : fan ≤ 256) (ga gb : Nat) (ca m cb : Nat) (hmb : m ≤ cb) (w : World) :
    Calls Try.prog 13 #[.slice (some ⟨ga, 0, none⟩) 0 ca, .slice (some ⟨gb, 0, none⟩) m cb, .int .i64 (k : Int), .int .i64 (fan : Int), .func (.func 14) #[rg N K] #[]] w fun e w' =>
      ∃ s g, k ≤ fan ^ s ∧ (∀ t, t < s → fan ^ t < k) ∧ e = .returned (.tuple #[.slice (sw s (some ⟨ga, 0, none⟩) (some ⟨gb, 0, none⟩)) 0 0, .slice (some ⟨g, 0, none⟩) (k + 1) (k + 1), .int .i64 0]) ∧ w.heap.size ≤ g ∧ Rv w' g 3 (iv (mx (pn N K) [] k k)) ∧ Below w.heap.size w w' := by
  have hq : ∀ W, Sem.run Try.prog (binOp BinOp.eql 48 (Value.func (Fn.func 14) #[rg N K] #[]) Value.nilFunc) W = .ok (.bool false) W := fun _ => rfl
  go_enter Try.func13, Try.ntmps13
  go_wp2_with (fail)
  refine (stages_any (k : Int) (fan : Int) _).mono ?_
  rintro e1 w9 ⟨hst, h9⟩
  subst w9
  obtain ⟨s0, rfl⟩ : ∃ s0 : Nat, e1 = .returned (.tuple #[.int .i64 (s0 : Int), .int .i64 0]) := by
    rcases hst with ⟨a, _⟩ | ⟨_, _, a, _⟩ | ⟨_, _, _, _, s, _, _, rfl⟩
    · omega
    · omega
    · exact ⟨s, rfl⟩
  clear hst
  go_wp2_with (fail)
  refine (census_any N K (some ⟨ga, 0, none⟩) ca [] k hk hk2 (by simp) (vx_nil N K) w (fun h => by simp at h)).mono ?_
  rintro e2 w2 ⟨hb2, hc⟩
  obtain ⟨_, g, hgw, rfl, hR⟩ := hc.resolve_right (fun h => h.1 (gd_nil N K k))
  clear hc hq
  have hgl := hR.lt
  go_wp2
  have HDL : Hid (Calls Try.prog 32 #[.slice (some ⟨ga, 0, none⟩) 0 0, .slice (some ⟨gb, 0, none⟩) 0 0, .slice (some ⟨g, 0, none⟩) (k + 1) (k + 1), .int .i64 (fan : Int), .func (.func 14) #[rg N K] #[]] w2.drew (DP N K k fan [] (some ⟨ga, 0, none⟩) (some ⟨gb, 0, none⟩) w2.heap.size (w2.heap.size + 1) [] [] w2.drew)) :=
    deal_any N K k fan hk hk2 hf1 hf2 [] [] (by simp) (vx_nil N K) (gd_nil N K k) rfl (some ⟨ga, 0, none⟩) (some ⟨gb, 0, none⟩) w2.heap.size (w2.heap.size + 1) g [] [] (by omega) (by omega) (by omega) w2.drew hR (bx_nil _ _ _ _) (bx_nil _ _ _ _)
  have HR : Hid (Rv w2 g 3 (iv (mx (pn N K) [] k k)) ∧ Below w.heap.size w w2) := ⟨hR, hb2⟩
  have h20 : w2.drew.heap.size = w2.heap.size := rfl
  have HT : Hid (∀ w5, Two w2.heap.size (w2.heap.size + 1) w2.drew w5 → Rv w5 g 3 (iv (mx (pn N K) [] k k)) ∧ Below w.heap.size w w5) := fun w5 h => by
    refine ⟨h.rv (w := w2.drew) HR.out.1 (by omega) (by omega), ?_⟩
    have hs := hb2.size
    have h5 := h.size
    refine ⟨h.os.trans hb2.os, h.tape.trans hb2.tape, h.output.trans hb2.output, by omega, fun k' hk' => (h.block k' (by omega) (by omega) (by omega)).trans (hb2.block k' hk')⟩
  clear hR hb2 HR
  go_region_with (go_at_call 32; refine HDL.out.mono ?_; rintro e5 w5 ⟨s, M', q1, q2, rfl, q4, q5, q6, q7⟩)
  all_goals
    go_wp2
    go_ret3
    exact ⟨s, g, q1, q2, rfl, hgw, (HT.out _ q7).1, (HT.out _ q7).2⟩
end Sv
end Go.Proofs.Ytclgbificccadaa
