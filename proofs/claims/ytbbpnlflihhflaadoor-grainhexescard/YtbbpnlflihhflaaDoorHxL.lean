import Derived.Test.YtbbpnlflihhflaaDoorHxK
namespace Go.Proofs.YtbbpnlflihhflaaDoor
namespace Hx
open Go.RowKit
set_option linter.unusedVariables false
theorem minus_any (u : Int) (h0 : 0 ≤ u) (h1 : u < 4294967296) (w : World) :
    Calls Tryd.prog 18 #[.int .u32 u] w fun r w' => r = .returned (.string (bs (sgn u))) ∧ w' = w := by
  have HS : Hid (sgn u = if 2147483648 ≤ u then [45] else []) := rfl
  rw [HS.out]
  by_cases hs : 2147483648 ≤ u
  · rw [if_pos hs]
    go_enter Tryd.func18, Tryd.ntmps18
    go_wp2
    go_ret
    exact ⟨rfl, rfl⟩
  · rw [if_neg hs]
    have hs' : u < 2147483648 := by omega
    clear hs
    go_enter Tryd.func18, Tryd.ntmps18
    go_wp2
    go_ret
    exact ⟨rfl, rfl⟩
set_option maxHeartbeats 800000 in
set_option maxRecDepth 100000 in
theorem tail_any (u : Int) (h0 : 0 ≤ u) (h1 : u < 4294967296) (hi : 2139095040 ≤ u % 2147483648) (w : World) (ht : Tb w) :
    Calls Tryd.prog 19 #[.int .u32 u] w fun r w' => r = .returned (.string (bs (tl u))) ∧ Below w.heap.size w w' := by
  have HC : Hid (∀ W, Calls Tryd.prog 17 #[.int .u32 u] W fun r W' => r = .returned (.int .i64 (Cl.cls u)) ∧ W' = W) := fun W => Cl.rclass_any u h0 h1 W
  have hcc := Cl.cls_inf u hi
  obtain ⟨n, hn⟩ : ∃ n : Nat, n = (u % 8388608).toNat := ⟨_, rfl⟩
  have hnr : u % 8388608 = (n : Int) := by omega
  have HF : Hid (∀ W, Tb W → Calls Tryd.prog 21 #[.int .u64 (n : Int), .int .i64 16] W fun r W' => r = .returned (.string (bs (hx n))) ∧ Below W.heap.size W W') := fun W hW => fmt_any n (by omega) W hW.t64
  have hl := hx_len16 n (by omega)
  have hsz := bs_size (hx n)
  have HE : Hid (tl u = if Cl.cls u = 4 then 110 :: 97 :: 110 :: 58 :: hx n else [105, 110, 102]) := by show tl u = _; unfold tl; rw [← hn]
  have hs16 : (bs (hx n)).size ≤ 16 := by omega
  have hn8 : (n : Int) < 8388608 := by omega
  clear hl hsz hn
  obtain ⟨a, ha⟩ : ∃ a : Int, a = (n : Int) := ⟨_, rfl⟩
  rw [← ha] at hnr HF hn8
  have ha0 : 0 ≤ a := by omega
  clear ha hi
  by_cases hc : Cl.cls u = 4
  · have E := HE.out; rw [if_pos hc] at E
    rw [hc] at HC
    rw [E]
    clear HE hc E hcc
    generalize hx n = l at *
    go_enter Tryd.func19, Tryd.ntmps19
    go_wp2_with (first | (go_at_call 17; refine (HC.out _).mono ?_; rintro e9 w9 ⟨rfl, hw9⟩; subst w9) | (go_at_call 21; refine (HF.out _ ht).mono ?_; rintro e9 w1 ⟨rfl, hb⟩))
    go_ret
    refine ⟨?_, hb⟩
    have e2 : ({ data := #[110, 97, 110, 58] } : ByteArray) = bs [110, 97, 110, 58] := rfl
    rw [e2, bs_append]; rfl
  · have E := HE.out; rw [if_neg hc] at E
    have hc3 : Cl.cls u = 3 := by omega
    rw [hc3] at HC
    rw [E]
    clear HE HF hs16 hn8 ha0 hc hc3 hcc E hnr
    go_enter Tryd.func19, Tryd.ntmps19
    go_wp2_with (go_at_call 17; refine (HC.out _).mono ?_; rintro e9 w9 ⟨rfl, hw9⟩; subst w9)
    go_ret
    exact ⟨rfl, Below.refl _ _⟩
theorem dec_ne (n : Nat) : 1 ≤ (Lib.decDigits n).length := by
  rw [Lib.decDigits]; split <;> simp
theorem itoa_pos (n : Int) (h : 0 ≤ n) : Lib.itoa n = Lib.decDigits n.toNat := by unfold Lib.itoa; rw [if_neg (by omega)]
theorem itoa_neg (n : Int) (h : n < 0) : Lib.itoa n = 45 :: Lib.itoa (-n) := by
  rw [itoa_pos (-n) (by omega)]; unfold Lib.itoa; rw [if_pos h]; congr 2; omega
set_option maxHeartbeats 800000 in
theorem plus_any (n : Int) (h0 : -1000 ≤ n) (h1 : n ≤ 1000) (w : World) (ht : Tb w) :
    Calls Tryd.prog 22 #[.int .i64 n, .int .i64 1] w fun r w' => r = .returned (.string (bs (px n))) ∧ Below w.heap.size w w' := by
  by_cases hn : 0 ≤ n
  · have HI : Hid (∀ W, Tb W → Calls Tryd.prog 16 #[.int .i64 n] W fun r W' => r = .returned (.string (bs (Lib.itoa n))) ∧ Below W.heap.size W W') := fun W hW => itoa_any _ (by omega) (by omega) W hW
    have l1 : 1 ≤ (Lib.itoa n).length := by rw [itoa_pos n hn]; exact dec_ne _
    have l2 := itoa_len n (by omega) (by omega)
    have hsz := bs_size (Lib.itoa n)
    have HX : Hid (px n = [43] ++ Lib.itoa n) := by show px n = _; unfold px; rw [if_pos hn]
    rw [HX.out]
    have b1 : 1 ≤ (bs (Lib.itoa n)).size := by omega
    have b2 : (bs (Lib.itoa n)).size ≤ 21 := by omega
    clear HX l1 l2 hsz
    generalize Lib.itoa n = I at *
    go_enter Tryd.func22, Tryd.ntmps22
    go_wp2_with (go_at_call 16; refine (HI.out _ ht).mono ?_; rintro e9 w1 ⟨rfl, hb⟩)
    go_loop [6] (fun x => x = .string (bs I)) (fun _ => 0)
    case atStart => rfl
    case round =>
      subst hrel
      go_wp2
      go_ret
      refine ⟨?_, hb⟩
      rw [m43, bs_append]; rfl
  · have HI : Hid (∀ W, Tb W → Calls Tryd.prog 16 #[.int .i64 (-n)] W fun r W' => r = .returned (.string (bs (Lib.itoa (-n)))) ∧ Below W.heap.size W W') := fun W hW => itoa_any _ (by omega) (by omega) W hW
    have l1 : 1 ≤ (Lib.itoa (-n)).length := by rw [itoa_pos (-n) (by omega)]; exact dec_ne _
    have l2 := itoa_len (-n) (by omega) (by omega)
    have hsz := bs_size (Lib.itoa (-n))
    have HX : Hid (px n = [45] ++ Lib.itoa (-n)) := by show px n = _; unfold px; rw [if_neg hn, itoa_neg n (by omega)]; rfl
    rw [HX.out]
    have b1 : 1 ≤ (bs (Lib.itoa (-n))).size := by omega
    have b2 : (bs (Lib.itoa (-n))).size ≤ 21 := by omega
    have hn' : n < 0 := by omega
    clear HX l1 l2 hsz hn
    generalize Lib.itoa (-n) = I at *
    go_enter Tryd.func22, Tryd.ntmps22
    go_wp2_with (go_at_call 16; refine (HI.out _ ht).mono ?_; rintro e9 w1 ⟨rfl, hb⟩)
    go_loop [6] (fun x => x = .string (bs I)) (fun _ => 0)
    case atStart => rfl
    case round =>
      subst hrel
      go_wp2
      go_ret
      refine ⟨?_, hb⟩
      rw [m45, bs_append]; rfl
end Hx
end Go.Proofs.YtbbpnlflihhflaaDoor
