import Derived.Test.YtdphfhpohlodcabDoorClC
namespace Go.Proofs.YtdphfhpohlodcabDoor
namespace Cl
open Go.RowKit
theorem grown_drewN (w : World) (n : Nat) : Grown w (w.drewN n) := by
  induction n with
  | zero => exact Grown.refl _
  | succ n ih => exact Grown.drew ih
set_option maxHeartbeats 1000000 in
theorem walk (u r : Int) (h0 : 0 ≤ u) (h1 : u < 4294967296) (r0 : -9223372036854775808 ≤ r) (r1 : r ≤ 9223372036854775807) (w : World) (ht : TabAt w) :
    Calls Tryd.prog 3 #[.int .u32 u, .int .i64 r] w fun e w' => e = .returned (.bool true) ∧ Grown w w' := by
  obtain ⟨n, rfl⟩ := Int.eq_ofNat_of_zero_le h0
  have H1 : Hid ((n : Int).toNat = n) := Int.toNat_natCast n
  go_enter Tryd.func3, Tryd.ntmps3
  go_wp2_with fail
  refine (float_any n _).mono ?_
  rintro e9 w9 ⟨rfl, hw9⟩
  subst w9
  rw [H1.out]
  go_wp2_with fail
  refine (bits_any n _).mono ?_
  rintro e9 w9 ⟨rfl, hw9⟩
  subst w9
  go_wp2_with fail
  refine (rclass_any n h0 h1 _).mono ?_
  rintro e9 w9 ⟨rfl, hw9⟩
  subst w9
  cases hn : (cls n == 4)
  case false =>
    go_wp2_with (first
      | (go_at_call 6; refine (rclass_any n h0 h1 _).mono ?_; rintro e9 w9 ⟨rfl, hw9⟩; subst w9)
      | (go_at_call 7; refine (ofrank_any r r0 r1 _).mono ?_; rintro e9 w9 ⟨rfl, hw9⟩; subst w9)
      | (go_at_call 8; refine (rofrank_any r r0 r1 _).mono ?_; rintro e9 w9 ⟨rfl, hw9⟩; subst w9)
      | (go_at_call 9; refine (class_any n h0 h1 _).mono ?_; rintro e9 w9 ⟨rfl, hw9⟩; subst w9)
      | (go_at_call 10; refine (rank_any n h0 h1 _).mono ?_; rintro e9 w9 ⟨rfl, hw9⟩; subst w9)
      | (go_at_call 11; refine (rrank_any n h0 h1 _).mono ?_; rintro e9 w9 ⟨rfl, hw9⟩; subst w9)
      | (go_at_call 12; refine (num_any _ _).mono ?_; rintro e9 w9 ⟨rfl, hw9⟩; subst w9)
      | (go_at_call 13; refine (parts_any n h0 h1 _ ht).mono ?_; rintro e9 w9 ⟨rfl, m, hw9⟩; subst w9)
      | (go_at_call 14; refine (rparts_any n h0 h1 _).mono ?_; rintro e9 w9 ⟨rfl, m2, hw9⟩; subst w9))
    go_ret
    exact ⟨by simp, grown_drewN _ _⟩
  case true =>
    have hn2 : cls n = 4 := by simpa using hn
    have hn3 : (cls n != 4) = false := by simp [hn2]
    clear hn2
    go_wp2_with (first
      | (go_at_call 6; refine (rclass_any n h0 h1 _).mono ?_; rintro e9 w9 ⟨rfl, hw9⟩; subst w9)
      | (go_at_call 7; refine (ofrank_any r r0 r1 _).mono ?_; rintro e9 w9 ⟨rfl, hw9⟩; subst w9)
      | (go_at_call 8; refine (rofrank_any r r0 r1 _).mono ?_; rintro e9 w9 ⟨rfl, hw9⟩; subst w9)
      | (go_at_call 9; refine (class_any n h0 h1 _).mono ?_; rintro e9 w9 ⟨rfl, hw9⟩; subst w9)
      | (go_at_call 10; refine (rank_any n h0 h1 _).mono ?_; rintro e9 w9 ⟨rfl, hw9⟩; subst w9)
      | (go_at_call 11; refine (rrank_any n h0 h1 _).mono ?_; rintro e9 w9 ⟨rfl, hw9⟩; subst w9)
      | (go_at_call 12; refine (num_any _ _).mono ?_; rintro e9 w9 ⟨rfl, hw9⟩; subst w9)
      | (go_at_call 13; refine (parts_any n h0 h1 _ ht).mono ?_; rintro e9 w9 ⟨rfl, m, hw9⟩; subst w9)
      | (go_at_call 14; refine (rparts_any n h0 h1 _).mono ?_; rintro e9 w9 ⟨rfl, m2, hw9⟩; subst w9))
    go_ret
    exact ⟨by simp, grown_drewN _ _⟩
end Cl
end Go.Proofs.YtdphfhpohlodcabDoor
