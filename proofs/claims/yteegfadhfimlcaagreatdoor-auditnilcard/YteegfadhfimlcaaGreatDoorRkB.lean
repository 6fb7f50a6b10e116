import Derived.Test.YteegfadhfimlcaaGreatDoorRkA
namespace Go.Proofs.YteegfadhfimlcaaGreatDoor
namespace Rn
open Go.RowKit
set_option linter.unusedVariables false
set_option maxRecDepth 8000
/-- The errors that the makers answer. -/
def hyE (n k : Int) : Int := if sz n = true ∧ pc k = true then 0 else 2
def spE (n k : Int) : Int := if sz n = true ∧ 1 ≤ k ∧ k ≤ 3 then 0 else 2
def pgE (n d k : Int) : Int := if sz n = true ∧ pc k = true then (if 0 < d ∧ d < 1065353216 then 0 else 150) else 2
set_option maxHeartbeats 2000000 in
theorem hyper_any (n k s : Int) (w : World) : Calls Tryz.prog 90 #[.int .u32 n, .int .i64 k, .int .u64 s] w fun e w' => MK (hyE n k) w e w' := by
  have HZ := hide (size_any n)
  have HP := hide (pace_any k)
  cases hs : sz n
  · rw [hs] at HZ
    have HV : Hid (hyE n k = 2) := by show _ = _; unfold hyE; rw [if_neg]; simp [hs]
    rw [HV.out]
    go_enter Tryz.func90, Tryz.ntmps90
    go_wp2_with (first | (go_at_call 129; refine (HZ.out _).mono ?_; rintro e9 w9 ⟨rfl, hw9⟩; subst w9) | (go_at_call 130; refine (HP.out _).mono ?_; rintro e9 w9 ⟨rfl, hw9⟩; subst w9))
    all_goals go_ret2
    all_goals exact MK.no (by decide) (Below.refl _ _)
  cases hp : pc k
  · rw [hs] at HZ
    rw [hp] at HP
    have HV : Hid (hyE n k = 2) := by show _ = _; unfold hyE; rw [if_neg]; simp [hp]
    rw [HV.out]
    go_enter Tryz.func90, Tryz.ntmps90
    go_wp2_with (first | (go_at_call 129; refine (HZ.out _).mono ?_; rintro e9 w9 ⟨rfl, hw9⟩; subst w9) | (go_at_call 130; refine (HP.out _).mono ?_; rintro e9 w9 ⟨rfl, hw9⟩; subst w9))
    all_goals go_ret2
    all_goals exact MK.no (by decide) (Below.refl _ _)
  · rw [hs] at HZ
    rw [hp] at HP
    have HV : Hid (hyE n k = 0) := by show _ = _; unfold hyE; rw [if_pos ⟨hs, hp⟩]
    rw [HV.out]
    go_enter Tryz.func90, Tryz.ntmps90
    go_wp2_with (first | (go_at_call 129; refine (HZ.out _).mono ?_; rintro e9 w9 ⟨rfl, hw9⟩; subst w9) | (go_at_call 130; refine (HP.out _).mono ?_; rintro e9 w9 ⟨rfl, hw9⟩; subst w9))
    all_goals go_ret2
    all_goals exact MK.yes (by repeat first | exact Below.refl _ _ | refine belowD ?_ | refine belowN ?_ _ | refine bA ?_ (by first | exact Nat.le_refl _ | (simp only [World.size_alloc]; omega)) _)
set_option maxHeartbeats 2000000 in
theorem spmv_any (n k s : Int) (w : World) : Calls Tryz.prog 76 #[.int .u32 n, .int .i64 k, .int .u64 s] w fun e w' => MK (spE n k) w e w' := by
  have HZ := hide (size_any n)
  cases hs : sz n
  · rw [hs] at HZ
    have HV : Hid (spE n k = 2) := by show _ = _; unfold spE; rw [if_neg]; simp [hs]
    rw [HV.out]
    go_enter Tryz.func76, Tryz.ntmps76
    go_wp2_with (first | (go_at_call 129; refine (HZ.out _).mono ?_; rintro e9 w9 ⟨rfl, hw9⟩; subst w9))
    all_goals go_ret2
    all_goals exact MK.no (by decide) (Below.refl _ _)
  rw [hs] at HZ
  by_cases h1 : k < 1
  · have HV : Hid (spE n k = 2) := by show _ = _; unfold spE; rw [if_neg]; omega
    rw [HV.out]
    go_enter Tryz.func76, Tryz.ntmps76
    go_wp2_with (first | (go_at_call 129; refine (HZ.out _).mono ?_; rintro e9 w9 ⟨rfl, hw9⟩; subst w9))
    all_goals go_ret2
    all_goals exact MK.no (by decide) (Below.refl _ _)
  by_cases h2 : 3 < k
  · have HV : Hid (spE n k = 2) := by show _ = _; unfold spE; rw [if_neg]; omega
    rw [HV.out]
    go_enter Tryz.func76, Tryz.ntmps76
    go_wp2_with (first | (go_at_call 129; refine (HZ.out _).mono ?_; rintro e9 w9 ⟨rfl, hw9⟩; subst w9))
    all_goals go_ret2
    all_goals exact MK.no (by decide) (Below.refl _ _)
  · have HV : Hid (spE n k = 0) := by show _ = _; unfold spE; rw [if_pos ⟨hs, by omega, by omega⟩]
    rw [HV.out]
    go_enter Tryz.func76, Tryz.ntmps76
    go_wp2_with (first | (go_at_call 129; refine (HZ.out _).mono ?_; rintro e9 w9 ⟨rfl, hw9⟩; subst w9))
    all_goals go_ret2
    all_goals exact MK.yes (by repeat first | exact Below.refl _ _ | refine belowD ?_ | refine belowN ?_ _ | refine bA ?_ (by first | exact Nat.le_refl _ | (simp only [World.size_alloc]; omega)) _)
set_option maxHeartbeats 2000000 in
theorem page_any (n d k : Int) (hd0 : 0 ≤ d) (hd1 : d < 4294967296) (w : World) : Calls Tryz.prog 70 #[.int .u32 n, .int .u32 d, .int .i64 k] w fun e w' => MK (pgE n d k) w e w' := by
  have HZ := hide (size_any n)
  have HP := hide (pace_any k)
  have HF := hide (float_any d)
  have H0 := hide hd0
  have H1 := hide hd1
  clear hd0 hd1
  cases hs : sz n
  · rw [hs] at HZ
    have HV : Hid (pgE n d k = 2) := by show _ = _; unfold pgE; rw [if_neg]; simp [hs]
    rw [HV.out]
    go_enter Tryz.func70, Tryz.ntmps70
    go_wp2_with (first | (go_at_call 72; refine (HF.out _).mono ?_; rintro e9 w9 ⟨rfl, hw9⟩; subst w9) | (go_at_call 129; refine (HZ.out _).mono ?_; rintro e9 w9 ⟨rfl, hw9⟩; subst w9) | (go_at_call 130; refine (HP.out _).mono ?_; rintro e9 w9 ⟨rfl, hw9⟩; subst w9))
    all_goals go_ret2
    all_goals exact MK.no (by decide) (Below.refl _ _)
  cases hp : pc k
  · rw [hs] at HZ
    rw [hp] at HP
    have HV : Hid (pgE n d k = 2) := by show _ = _; unfold pgE; rw [if_neg]; simp [hp]
    rw [HV.out]
    go_enter Tryz.func70, Tryz.ntmps70
    go_wp2_with (first | (go_at_call 72; refine (HF.out _).mono ?_; rintro e9 w9 ⟨rfl, hw9⟩; subst w9) | (go_at_call 129; refine (HZ.out _).mono ?_; rintro e9 w9 ⟨rfl, hw9⟩; subst w9) | (go_at_call 130; refine (HP.out _).mono ?_; rintro e9 w9 ⟨rfl, hw9⟩; subst w9))
    all_goals go_ret2
    all_goals exact MK.no (by decide) (Below.refl _ _)
  rw [hs] at HZ
  rw [hp] at HP
  have hgt := fcmp_gt d.toNat 0
  have hlt := fcmp_lt d.toNat 1065353216
  by_cases c0 : d = 0 ∨ 2139095040 < d
  · have HV : Hid (pgE n d k = 150) := by show _ = _; unfold pgE; rw [if_pos ⟨hs, hp⟩, if_neg]; omega
    rw [HV.out]
    rw [Fl.le0 d.toNat (by have := H1.out; omega) (by have := H0.out; omega)] at hgt
    clear c0 hs hp
    go_enter Tryz.func70, Tryz.ntmps70
    go_wp2_with (first | (go_at_call 72; refine (HF.out _).mono ?_; rintro e9 w9 ⟨rfl, hw9⟩; subst w9) | (go_at_call 129; refine (HZ.out _).mono ?_; rintro e9 w9 ⟨rfl, hw9⟩; subst w9) | (go_at_call 130; refine (HP.out _).mono ?_; rintro e9 w9 ⟨rfl, hw9⟩; subst w9))
    all_goals go_ret2
    all_goals exact MK.no (by decide) (Below.refl _ _)
  rw [Fl.gt0 d.toNat (by have := H0.out; omega) (by omega), show ((some Ordering.gt == some Ordering.gt : Bool)) = true from rfl] at hgt
  by_cases c1 : d < 1065353216
  · have HV : Hid (pgE n d k = 0) := by show _ = _; unfold pgE; rw [if_pos ⟨hs, hp⟩, if_pos (by have := H0.out; omega)]
    rw [HV.out]
    rw [Fl.lt1 d.toNat (by omega), show ((some Ordering.lt == some Ordering.lt : Bool)) = true from rfl] at hlt
    have hn : 1 ≤ n ∧ n ≤ 2147483647 := by unfold sz at hs; simp at hs; omega
    obtain ⟨x, y, hx, hy⟩ := base_ok d.toNat n (by have := H0.out; omega) hn.1 hn.2
    have hcv := fconv_run n
    have hsb := fsub_run hx
    have hdv := fdiv_run hy
    clear c0 c1 hs hp hn hx hy
    go_enter Tryz.func70, Tryz.ntmps70
    go_wp2_with (first | (go_at_call 72; refine (HF.out _).mono ?_; rintro e9 w9 ⟨rfl, hw9⟩; subst w9) | (go_at_call 129; refine (HZ.out _).mono ?_; rintro e9 w9 ⟨rfl, hw9⟩; subst w9) | (go_at_call 130; refine (HP.out _).mono ?_; rintro e9 w9 ⟨rfl, hw9⟩; subst w9))
    all_goals go_ret2
    all_goals exact MK.yes (by repeat first | exact Below.refl _ _ | refine belowD ?_ | refine belowN ?_ _ | refine bA ?_ (by first | exact Nat.le_refl _ | (simp only [World.size_alloc]; omega)) _)
  · have HV : Hid (pgE n d k = 150) := by show _ = _; unfold pgE; rw [if_pos ⟨hs, hp⟩, if_neg]; omega
    rw [HV.out]
    rw [Fl.ge1 d.toNat (by omega) (by omega)] at hlt
    clear c0 c1 hs hp
    go_enter Tryz.func70, Tryz.ntmps70
    go_wp2_with (first | (go_at_call 72; refine (HF.out _).mono ?_; rintro e9 w9 ⟨rfl, hw9⟩; subst w9) | (go_at_call 129; refine (HZ.out _).mono ?_; rintro e9 w9 ⟨rfl, hw9⟩; subst w9) | (go_at_call 130; refine (HP.out _).mono ?_; rintro e9 w9 ⟨rfl, hw9⟩; subst w9))
    all_goals go_ret2
    all_goals exact MK.no (by decide) (Below.refl _ _)
end Rn
end Go.Proofs.YteegfadhfimlcaaGreatDoor
