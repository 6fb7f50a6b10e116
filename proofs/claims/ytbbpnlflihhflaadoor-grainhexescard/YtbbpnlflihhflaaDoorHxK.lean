import Derived.Test.YtbbpnlflihhflaaDoorHxJ
namespace Go.Proofs.YtbbpnlflihhflaaDoor
namespace Hx
open Go.RowKit
set_option linter.unusedVariables false
theorem below_drewN (w : World) (n : Nat) : Below w.heap.size w (w.drewN n) := ⟨rfl, rfl, rfl, Nat.le_refl _, fun _ _ => rfl⟩
theorem itoa_len (n : Int) (h0 : -1000000 ≤ n) (h1 : n ≤ 1000000) : (Lib.itoa n).length ≤ 21 := by
  have hd : ∀ (k m : Nat), m < 10 ^ k → (Lib.decDigits m).length ≤ max k 1 := by
    intro k
    induction k with
    | zero => intro m h; rw [Lib.decDigits, dif_pos (by simp at h; omega)]; simp
    | succ k ih =>
      intro m h
      rw [Lib.decDigits]
      split
      · simp
      · have := ih (m / 10) (by rw [Nat.pow_succ] at h; omega)
        simp
        rcases k with _ | k
        · simp at h; omega
        · omega
  unfold Lib.itoa
  split
  · have := hd 7 n.natAbs (by omega); simp; omega
  · have := hd 7 n.toNat (by omega); omega
theorem Cl_pm_b (u : Int) (h0 : 0 ≤ u) (h1 : u < 4294967296) (hf : u % 2147483648 < 2139095040) (hz : ¬ u % 2147483648 = 0) : 0 < Cl.pm u ∧ Cl.pm u < 16777216 ∧ -149 ≤ Cl.pe u ∧ Cl.pe u ≤ 300 := by
  obtain ⟨-, hm, he, -⟩ := Cl.p_fin u hf hz
  have b1 := Cl.M0_b (u % 2147483648) (by omega) (by omega)
  have b2 := Cl.E0_b (u % 2147483648) (by omega) (by omega)
  obtain ⟨n, hn⟩ := Int.eq_ofNat_of_zero_le (show 0 ≤ Cl.M0 (u % 2147483648) by omega)
  rw [hn] at hm
  obtain ⟨h2, j, hj⟩ := Cl.tz_spec 32 n (by omega) (by omega)
  have hT : (n : Int).toNat = n := by omega
  rw [hT] at hm
  have hp : 0 < 2 ^ Cl.tz n 32 := Nat.two_pow_pos _
  have hd0 : ∀ z, n = 2 ^ z * (2 * j + 1) → n / 2 ^ z = 2 * j + 1 := fun z hz => by rw [hz]; exact Nat.mul_div_cancel_left _ (Nat.two_pow_pos z)
  have hd := hd0 _ hj
  have e : (n : Int) / 2 ^ Cl.tz n 32 = ((n / 2 ^ Cl.tz n 32 : Nat) : Int) := by simp
  rw [e, hd] at hm
  have hle : 2 * j + 1 ≤ n := by rw [← hd]; exact Nat.div_le_self _ _
  have he2 : Cl.tzI (Cl.M0 (u % 2147483648)) = (Cl.tz n 32 : Int) := by unfold Cl.tzI; rw [hn, hT]
  rw [he2] at he
  refine ⟨by omega, by omega, by omega, by omega⟩
theorem frac_len (m : Int) (h0 : 0 < m) (h1 : m < 16777216) : (frac (lead m)).length ≤ 7 := by
  obtain ⟨g0, g1, f0, f1, hF⟩ := lead_b m h0 h1
  have h2 := hx_len 7 (lead m) (by omega)
  have := trim_len ((hx (lead m)).drop 1) 48
  unfold frac
  simp at this ⊢
  omega
theorem m45 : ({ data := #[45] } : ByteArray) = bs [45] := rfl
theorem m43 : ({ data := #[43] } : ByteArray) = bs [43] := rfl
set_option maxHeartbeats 800000 in
theorem hex_any (u : Int) (h0 : 0 ≤ u) (h1 : u < 4294967296) (w : World) (ht : Tb w) :
    Calls Tryd.prog 6 #[.int .u32 u] w fun r w' => r = .returned (.string (bs (hexL u))) ∧ Below w.heap.size w w' := by
  have HP : Hid (∀ W, Tb W → Calls Tryd.prog 13 #[.int .u32 u] W fun r W' => r = .returned (.tuple #[.bool (Cl.pn u), .int .u32 (Cl.pm u), .int .i64 (Cl.pe u), .int .i64 (Cl.pr u)]) ∧ Tb W' ∧ Below W.heap.size W W') := fun W hW => by
    refine (Cl.parts_any u h0 h1 W hW.t32).mono ?_
    rintro e w' ⟨rfl, n, rfl⟩
    exact ⟨rfl, hW.on (below_drewN W n) (Nat.le_refl _), below_drewN W n⟩
  by_cases hi : 2139095040 ≤ u % 2147483648
  · obtain ⟨e1, e2, e3, e4⟩ := Cl.p_inf u hi
    rw [e1, e2, e3, e4] at HP
    have HU : Hid (∀ W, Tb W → Calls Tryd.prog 14 #[.int .u32 u] W fun r W' => r = .returned (.string (bs (hexL u))) ∧ Below W.heap.size W W') := fun W hW => by
      have := unreal_any u h0 h1 W hW
      rwa [show sgn u ++ tl u = hexL u by unfold hexL; rw [if_pos hi]] at this
    clear e1 e2 e3 e4 hi h0 h1
    generalize hexL u = t at *
    go_enter Tryd.func6, Tryd.ntmps6
    go_wp2_with (first | (go_at_call 13; refine (HP.out _ ht).mono ?_; rintro e9 w1 ⟨rfl, ht1, hb⟩) | (go_at_call 14; refine (HU.out _ ht1).mono ?_; rintro e9 w2 ⟨rfl, hb2⟩))
    go_ret
    exact ⟨rfl, hb.trans (hb2.mono hb.size)⟩
  · by_cases hz : u % 2147483648 = 0
    · obtain ⟨e1, e2, e3, e4⟩ := Cl.p_zero u hz
      rw [e1, e2, e3, e4] at HP
      have HI : Hid (∀ W, Tb W → Calls Tryd.prog 16 #[.int .i64 0] W fun r W' => r = .returned (.string ⟨#[48]⟩) ∧ Below W.heap.size W W') := fun W hW => by
        have := itoa_any 0 (by omega) (by omega) W hW
        rwa [show bs (Lib.itoa 0) = ⟨#[48]⟩ by rw [show Lib.itoa 0 = [48] by unfold Lib.itoa; rw [if_neg (by omega), Lib.decDigits, dif_pos (by decide)]; rfl]; rfl] at this
      have HE : Hid (hexL u = sgn u ++ [48, 120, 48, 112, 43, 48]) := by show hexL u = _; unfold hexL; rw [if_neg hi, if_pos hz]
      by_cases hs : 2147483648 ≤ u
      · have E : hexL u = [45, 48, 120, 48, 112, 43, 48] := by rw [HE.out, sgn, if_pos hs]; rfl
        rw [E, decide_eq_true hs] at *
        clear e1 e2 e3 e4 hi hz HE E h0 h1 hs
        go_enter Tryd.func6, Tryd.ntmps6
        go_wp2_with (first | (go_at_call 13; refine (HP.out _ ht).mono ?_; rintro e9 w1 ⟨rfl, ht1, hb⟩) | (go_at_call 16; refine (HI.out _ ht1).mono ?_; rintro e9 w2 ⟨rfl, hb2⟩))
        go_ret
        exact ⟨rfl, hb.trans (hb2.mono hb.size)⟩
      · have E : hexL u = [48, 120, 48, 112, 43, 48] := by rw [HE.out, sgn, if_neg hs]; rfl
        rw [E, decide_eq_false hs] at *
        clear e1 e2 e3 e4 hi hz HE E h0 h1 hs
        go_enter Tryd.func6, Tryd.ntmps6
        go_wp2_with (first | (go_at_call 13; refine (HP.out _ ht).mono ?_; rintro e9 w1 ⟨rfl, ht1, hb⟩) | (go_at_call 16; refine (HI.out _ ht1).mono ?_; rintro e9 w2 ⟨rfl, hb2⟩))
        go_ret
        exact ⟨rfl, hb.trans (hb2.mono hb.size)⟩
    · obtain ⟨e1, e2, e3, e4⟩ := Cl.p_fin u (by omega) hz
      obtain ⟨m0, m1, p0, p1⟩ := Cl_pm_b u h0 h1 (by omega) hz
      rw [e1, e4] at HP
      obtain ⟨g0, g1, -, -, -⟩ := lead_b _ m0 m1
      have HN : Hid (∀ W, Tb W → Calls Tryd.prog 15 #[.int .u32 (Cl.pm u), .int .i64 (Cl.pe u)] W fun r W' => r = .returned (.tuple #[.string (bs (48 :: 120 :: 49 :: dot (frac (lead (Cl.pm u))) ++ [112])), .int .i64 (Cl.pe u + Rd.lg (Cl.pm u))]) ∧ Below W.heap.size W W') := fun W hW => normal_any _ _ m0 m1 (by omega) (by omega) W hW
      have HI : Hid (∀ W, Tb W → Calls Tryd.prog 16 #[.int .i64 (Cl.pe u + Rd.lg (Cl.pm u))] W fun r W' => r = .returned (.string (bs (Lib.itoa (Cl.pe u + Rd.lg (Cl.pm u))))) ∧ Below W.heap.size W W') := fun W hW => itoa_any _ (by omega) (by omega) W hW
      have hil := itoa_len (Cl.pe u + Rd.lg (Cl.pm u)) (by omega) (by omega)
      have HE : Hid (hexL u = sgn u ++ (48 :: 120 :: 49 :: dot (frac (lead (Cl.pm u))) ++ [112] ++ px (Cl.pe u + Rd.lg (Cl.pm u)))) := by show hexL u = _; unfold hexL; rw [if_neg hi, if_neg hz]
      have hfl : (frac (lead (Cl.pm u))).length ≤ 7 := frac_len _ m0 m1
      have hdl : (48 :: 120 :: 49 :: dot (frac (lead (Cl.pm u))) ++ [112]).length ≤ 20 := by
        unfold dot; split <;> simp <;> omega
      have hsz1 := bs_size (48 :: 120 :: 49 :: dot (frac (lead (Cl.pm u))) ++ [112])
      have hsz2 := bs_size (Lib.itoa (Cl.pe u + Rd.lg (Cl.pm u)))
      have hE0 : -1000 ≤ Cl.pe u + Rd.lg (Cl.pm u) := by omega
      have hE1 : Cl.pe u + Rd.lg (Cl.pm u) ≤ 1000 := by omega
      have hmz : ¬ Cl.pm u = 0 := by omega
      have HX : Hid (px (Cl.pe u + Rd.lg (Cl.pm u)) = (if 0 ≤ Cl.pe u + Rd.lg (Cl.pm u) then [43] else []) ++ Lib.itoa (Cl.pe u + Rd.lg (Cl.pm u))) := rfl
      have b1 : (bs (48 :: 120 :: 49 :: dot (frac (lead (Cl.pm u))) ++ [112])).size ≤ 20 := by omega
      have b2 : (bs (Lib.itoa (Cl.pe u + Rd.lg (Cl.pm u)))).size ≤ 21 := by omega
      clear hfl hdl hil hsz1 hsz2 e1 e2 e3 e4 m0 m1 p0 p1 g0 g1 hi hz
      generalize 48 :: 120 :: 49 :: dot (frac (lead (Cl.pm u))) ++ [112] = T at *
      generalize Cl.pe u + Rd.lg (Cl.pm u) = E at *
      generalize Lib.itoa E = I at *
      generalize Cl.pm u = m at *
      generalize Cl.pe u = e at *
      have HS : Hid (sgn u = if 2147483648 ≤ u then [45] else []) := rfl
      rw [HE.out, HX.out, HS.out]
      clear HE HX HS
      generalize hexL u = X at *
      by_cases hs : 2147483648 ≤ u
      · rw [decide_eq_true hs] at HP
        rw [if_pos hs]
        clear hs h0 h1
        by_cases hE : 0 ≤ E
        · rw [if_pos hE]
          go_enter Tryd.func6, Tryd.ntmps6
          go_wp2_with (first | (go_at_call 13; refine (HP.out _ ht).mono ?_; rintro e9 w1 ⟨rfl, ht1, hb⟩) | (go_at_call 15; refine (HN.out _ ht1).mono ?_; rintro e9 w2 ⟨rfl, hb2⟩; have ht2 := ht1.on hb2 (Nat.le_refl _)) | (go_at_call 16; refine (HI.out _ ht2).mono ?_; rintro e9 w3 ⟨rfl, hb3⟩))
          go_ret
          refine ⟨?_, (hb.trans (hb2.mono hb.size)).trans (hb3.mono (hb.trans (hb2.mono hb.size)).size)⟩
          rw [m45, m43, bs_append, bs_append, bs_append]
          simp
        · rw [if_neg hE]
          have hE' : E < 0 := by omega
          clear hE
          go_enter Tryd.func6, Tryd.ntmps6
          go_wp2_with (first | (go_at_call 13; refine (HP.out _ ht).mono ?_; rintro e9 w1 ⟨rfl, ht1, hb⟩) | (go_at_call 15; refine (HN.out _ ht1).mono ?_; rintro e9 w2 ⟨rfl, hb2⟩; have ht2 := ht1.on hb2 (Nat.le_refl _)) | (go_at_call 16; refine (HI.out _ ht2).mono ?_; rintro e9 w3 ⟨rfl, hb3⟩))
          go_ret
          refine ⟨?_, (hb.trans (hb2.mono hb.size)).trans (hb3.mono (hb.trans (hb2.mono hb.size)).size)⟩
          rw [m45, bs_append, bs_append]
          simp
      · rw [decide_eq_false hs] at HP
        rw [if_neg hs]
        clear hs h0 h1
        by_cases hE : 0 ≤ E
        · rw [if_pos hE]
          go_enter Tryd.func6, Tryd.ntmps6
          go_wp2_with (first | (go_at_call 13; refine (HP.out _ ht).mono ?_; rintro e9 w1 ⟨rfl, ht1, hb⟩) | (go_at_call 15; refine (HN.out _ ht1).mono ?_; rintro e9 w2 ⟨rfl, hb2⟩; have ht2 := ht1.on hb2 (Nat.le_refl _)) | (go_at_call 16; refine (HI.out _ ht2).mono ?_; rintro e9 w3 ⟨rfl, hb3⟩))
          go_ret
          refine ⟨?_, (hb.trans (hb2.mono hb.size)).trans (hb3.mono (hb.trans (hb2.mono hb.size)).size)⟩
          rw [m43, bs_append, bs_append]
          simp
        · rw [if_neg hE]
          have hE' : E < 0 := by omega
          clear hE
          go_enter Tryd.func6, Tryd.ntmps6
          go_wp2_with (first | (go_at_call 13; refine (HP.out _ ht).mono ?_; rintro e9 w1 ⟨rfl, ht1, hb⟩) | (go_at_call 15; refine (HN.out _ ht1).mono ?_; rintro e9 w2 ⟨rfl, hb2⟩; have ht2 := ht1.on hb2 (Nat.le_refl _)) | (go_at_call 16; refine (HI.out _ ht2).mono ?_; rintro e9 w3 ⟨rfl, hb3⟩))
          go_ret
          refine ⟨?_, (hb.trans (hb2.mono hb.size)).trans (hb3.mono (hb.trans (hb2.mono hb.size)).size)⟩
          rw [bs_append]
          simp
end Hx
end Go.Proofs.YtbbpnlflihhflaaDoor
