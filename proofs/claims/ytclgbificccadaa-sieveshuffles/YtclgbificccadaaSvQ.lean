import Derived.Test.YtclgbificccadaaSvO
namespace Go.Proofs.Ytclgbificccadaa
namespace Sv
open Go.RowKit Go.Shelf
set_option linter.unusedVariables false
attribute [local go_sem] Oper.semAt_some
abbrev DP (N K : Int) (k fan : Nat) (L : List T3) (xa xb : Option Addr) (ga gb : Nat) (Ta Tb : List Value) (w : World) (e : Ending) (w' : World) : Prop :=
  ∃ s M', k ≤ fan ^ s ∧ (∀ t, t < s → fan ^ t < k) ∧ e = .returned (.tuple #[.slice (sw s xa xb) L.length L.length, .bool true]) ∧ M'.length = L.length ∧
        Bx w' (sw s xa xb) (sw s ga gb) (stg (pn N K) k L) (sw s Ta Tb) ∧ Bx w' (sw s xb xa) (sw s gb ga) M' (sw s Tb Ta) ∧ Two ga gb w w'
set_option maxRecDepth 20000 in
set_option maxHeartbeats 8000000 in
theorem shuffle_ok (N K : Int) (k fan : Nat) (hk : 1 ≤ k) (hk2 : k ≤ 512) (hf1 : 2 ≤ fan) (hf2 : fan ≤ 256) (L M : List T3) (hl : L.length * 24 ≤ 140737488355328) (hv : Vx N K L) (hg : Gd N K k L) (hM : M.length = L.length)
    (xa : Option Addr) (ca m cb ga gb : Nat) (Ta Tb : List Value) (hab : ga ≠ gb) (hca : L.length ≤ ca) (hcn : xa = none → ca = 0) (hm : L.length ≤ m) (hmb : m ≤ cb) (w : World) (hga : ga < w.heap.size) (hgb : gb < w.heap.size) (hA : Bx w xa ga L Ta) (hB : Bx w (some ⟨gb, 0, none⟩) gb M Tb) :
    Calls Try.prog 13 #[.slice xa L.length ca, .slice (some ⟨gb, 0, none⟩) m cb, .int .i64 (k : Int), .int .i64 (fan : Int), .func (.func 14) #[rg N K] #[]] w fun e w' =>
      ∃ s M' g, k ≤ fan ^ s ∧ (∀ t, t < s → fan ^ t < k) ∧ e = .returned (.tuple #[.slice (sw s xa (some ⟨gb, 0, none⟩)) L.length L.length, .slice (some ⟨g, 0, none⟩) (k + 1) (k + 1), .int .i64 0]) ∧ M'.length = L.length ∧ w.heap.size ≤ g ∧ Rv w' g 3 (iv (mx (pn N K) L k k)) ∧
        Bx w' (sw s xa (some ⟨gb, 0, none⟩)) (sw s ga gb) (stg (pn N K) k L) (sw s Ta Tb) ∧ Bx w' (sw s (some ⟨gb, 0, none⟩) xa) (sw s gb ga) M' (sw s Tb Ta) ∧ Two ga gb w w' := by
  have HV : Hid (Vx N K L) := hv
  have HG : Hid (Gd N K k L) := hg
  have hml : ¬ (m : Int) < (L.length : Int) := by omega
  clear hv hg
  go_enter Try.func13, Try.ntmps13
  go_wp2_with (fail)
  refine (stages_any (k : Int) (fan : Int) _).mono ?_
  rintro e1 w9 ⟨hst, h9⟩
  subst w9
  obtain ⟨s0, rfl⟩ : ∃ s0 : Nat, e1 = .returned (.tuple #[.int .i64 (s0 : Int), .int .i64 0]) := by
    rcases hst with ⟨a, _⟩ | ⟨_, _, a, _⟩ | ⟨_, _, _, _, s, _, _, rfl⟩
    · omega
    · omega
    · exact ⟨s, rfl⟩
  clear hst
  have hq : ∀ W, Sem.run Try.prog (binOp BinOp.eql 48 (Value.func (Fn.func 14) #[rg N K] #[]) Value.nilFunc) W = .ok (.bool false) W := fun _ => rfl
  go_wp2_with (fail)
  refine (census_any N K xa ca L k hk hk2 hl HV.out w hA.row).mono ?_
  rintro e2 w2 ⟨hb2, hc⟩
  obtain ⟨_, g, hgw, rfl, hR⟩ := hc.resolve_right (fun h => h.1 HG.out)
  clear hc hq
  have hA2 := hA.on hb2
  have hB2 := hB.on hb2
  have hne : g ≠ ga ∧ g ≠ gb := by omega
  go_wp2
  have hlc : (L.length : Int) ≤ (ca : Int) := by omega
  have hlb : (L.length : Int) ≤ (cb : Int) := by omega
  have HDL : Hid (Calls Try.prog 32 #[.slice xa L.length L.length, .slice (some ⟨gb, 0, none⟩) L.length L.length, .slice (some ⟨g, 0, none⟩) (k + 1) (k + 1), .int .i64 (fan : Int), .func (.func 14) #[rg N K] #[]] w2.drew (DP N K k fan L xa (some ⟨gb, 0, none⟩) ga gb Ta Tb w2.drew)) :=
    deal_any N K k fan hk hk2 hf1 hf2 L M hl HV.out HG.out hM xa (some ⟨gb, 0, none⟩) ga gb g Ta Tb hab hne.1 hne.2 w2.drew hR hA2 hB2
  have HR : Hid (Rv w2 g 3 (iv (mx (pn N K) L k k)) ∧ Two ga gb w w2) := ⟨hR, Two.below hb2⟩
  clear hR hA2 hB2 hA hB HV HG
  rcases xa with _ | x
  · obtain rfl := hcn rfl
    obtain rfl : L = [] := by cases L with
      | nil => rfl
      | cons a L => simp at hca
    simp only [List.length_nil] at *
    go_region_with (go_at_call 32; refine HDL.out.mono ?_; rintro e5 w5 ⟨s, M', q1, q2, rfl, q4, q5, q6, q7⟩)
    all_goals
      go_wp2
      go_ret3
      exact ⟨s, M', g, q1, q2, rfl, q4, hgw, q7.rv (w := w2.drew) HR.out.1 hne.1 hne.2, q5, q6, HR.out.2.drew.trans q7⟩
  · go_region_with (go_at_call 32; refine HDL.out.mono ?_; rintro e5 w5 ⟨s, M', q1, q2, rfl, q4, q5, q6, q7⟩)
    all_goals
      go_wp2
      go_ret3
      exact ⟨s, M', g, q1, q2, rfl, q4, hgw, q7.rv (w := w2.drew) HR.out.1 hne.1 hne.2, q5, q6, HR.out.2.drew.trans q7⟩
end Sv
end Go.Proofs.Ytclgbificccadaa
