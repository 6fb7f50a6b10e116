import Derived.Test.YtbbpnlflihhflaaDoorHxN
namespace Go.Proofs.YtbbpnlflihhflaaDoor
namespace Hx
open Go.RowKit
set_option linter.unusedVariables false
theorem cls_zero (u : Int) (hz : u % 2147483648 = 0) : Cl.cls u = 0 := by unfold Cl.cls; rw [if_pos hz]
theorem tl_len (u : Int) : (tl u).length ≤ 20 := by
  unfold tl
  split
  · have := hx_len16 (u % 8388608).toNat (by omega); simp; omega
  · simp
set_option maxHeartbeats 800000 in
theorem rhex_any (u : Int) (h0 : 0 ≤ u) (h1 : u < 4294967296) (w : World) (ht : Tb w) :
    Calls Tryd.prog 7 #[.int .u32 u] w fun r w' => r = .returned (.string (bs (hexL u))) ∧ Below w.heap.size w w' := by
  have HC : Hid (∀ W, Calls Tryd.prog 17 #[.int .u32 u] W fun r W' => r = .returned (.int .i64 (Cl.cls u)) ∧ W' = W) := fun W => Cl.rclass_any u h0 h1 W
  have HM : Hid (∀ W, Calls Tryd.prog 18 #[.int .u32 u] W fun r W' => r = .returned (.string (bs (sgn u))) ∧ W' = W) := fun W => minus_any u h0 h1 W
  have s2 := bs_size (sgn u)
  have hsl : (sgn u).length ≤ 1 := by unfold sgn; split <;> simp
  by_cases hi : 2139095040 ≤ u % 2147483648
  · have HT : Hid (∀ W, Tb W → Calls Tryd.prog 19 #[.int .u32 u] W fun r W' => r = .returned (.string (bs (tl u))) ∧ Below W.heap.size W W') := fun W hW => tail_any u h0 h1 hi W hW
    have hc := Cl.cls_inf u hi
    have HE : Hid (hexL u = sgn u ++ tl u) := by show hexL u = _; unfold hexL; rw [if_pos hi]
    rw [HE.out]
    have s1 := bs_size (tl u)
    have hl := tl_len u
    clear HE hi h0 h1
    generalize tl u = TL at *
    generalize sgn u = SG at *
    have z1 : (bs TL).size ≤ 20 := by omega
    have z2 : (bs SG).size ≤ 1 := by omega
    clear s1 s2 hl hsl
    generalize Cl.cls u = c at *
    rcases hc with rfl | rfl
    all_goals
      go_enter Tryd.func7, Tryd.ntmps7
      go_wp2_with (first | (go_at_call 17; refine (HC.out _).mono ?_; rintro e9 w9 ⟨rfl, hw9⟩; subst w9) | (go_at_call 18; refine (HM.out _).mono ?_; rintro e9 w9 ⟨rfl, hw9⟩; subst w9) | (go_at_call 19; refine (HT.out _ ht).mono ?_; rintro e9 w3 ⟨rfl, hb3⟩))
      go_ret
      refine ⟨?_, hb3⟩
      rw [bs_append]; rfl
  · by_cases hz : u % 2147483648 = 0
    · have HE : Hid (hexL u = sgn u ++ [48, 120, 48, 112, 43, 48]) := by show hexL u = _; unfold hexL; rw [if_neg hi, if_pos hz]
      rw [HE.out]
      rw [cls_zero u hz] at HC
      clear HE hi h0 h1 hz
      generalize sgn u = SG at *
      have z2 : (bs SG).size ≤ 1 := by omega
      clear s2 hsl
      go_enter Tryd.func7, Tryd.ntmps7
      go_wp2_with (first | (go_at_call 17; refine (HC.out _).mono ?_; rintro e9 w9 ⟨rfl, hw9⟩; subst w9) | (go_at_call 18; refine (HM.out _).mono ?_; rintro e9 w9 ⟨rfl, hw9⟩; subst w9))
      go_ret
      refine ⟨?_, Below.refl _ _⟩
      have e1 : ({ data := #[48, 120, 48, 112, 43, 48] } : ByteArray) = bs [48, 120, 48, 112, 43, 48] := rfl
      rw [e1, bs_append]; rfl
    · exact rhex_fin u h0 h1 (by omega) hz w ht
end Hx
end Go.Proofs.YtbbpnlflihhflaaDoor
