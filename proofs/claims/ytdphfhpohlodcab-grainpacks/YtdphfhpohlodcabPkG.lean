import Derived.Test.YtdphfhpohlodcabPkF
namespace Go.Proofs.Ytdphfhpohlodcab
namespace Pk
open Go.RowKit
set_option linter.unusedVariables false
theorem mix_succ (A L : List Int) (j : Nat) : mix A L (j + 1) = (mix A L j).set j (L.getD j 0) := rfl
set_option maxHeartbeats 800000 in
theorem rpi_err (a : Option Addr) (len cap : Nat) (L : List Int) (at' width v : Int) (w : World) (hr : BRow w a len L) (hs : len ≤ 140737488351232) (a0 : -9223372036854775808 ≤ at') (a1 : at' ≤ 9223372036854775807) (b0 : -9223372036854775808 ≤ width) (b1 : width ≤ 9223372036854775807) (he : ¬ ec len at' width = 0) :
    Calls Try.prog 25 #[.slice a len cap, .int .i64 at', .int .i64 width, .int .i64 v] w fun e w' => ∃ x, e = .returned (.tuple #[x, .int .i64 (ec len at' width)]) ∧ w'.ownsRow w.heap.size 5 1 x len (vals L) ∧ Below w.heap.size w w' := by
  have he' : (ec len at' width != 0) = true := by simpa using he
  go_enter Try.func25, Try.ntmps25
  go_wp2_with fail
  refine (rput_err a len cap L at' width 0 _ hr hs a0 a1 b0 b1 he).mono ?_
  rintro e9 w9 ⟨x, rfl, h8, h9⟩
  go_wp2
  go_ret2
  exact ⟨x, rfl, h8, h9⟩
set_option maxHeartbeats 1000000 in
theorem rpi_big (a : Option Addr) (len cap o k : Nat) (L : List Int) (v : Int) (w : World) (hr : BRow w a len L) (hs : len ≤ 140737488351232) (h1 : 1 ≤ k) (h2 : k ≤ 8) (h3 : o + k ≤ len) (hv0 : -9223372036854775808 ≤ v) (hv1 : v ≤ 9223372036854775807) (hf : ¬ SFit v k) :
    Calls Try.prog 25 #[.slice a len cap, .int .i64 o, .int .i64 k, .int .i64 v] w fun e w' => ∃ g c, e = .returned (.tuple #[.slice (some ⟨g, 0, none⟩) len c, .int .i64 12]) ∧ w.heap.size ≤ g ∧ Own w' g c L ∧ Below w.heap.size w w' := by
  have hk8 : k < 8 := by
    apply Nat.lt_of_not_le; intro hc
    obtain rfl : k = 8 := by omega
    apply hf; unfold SFit; simp only [Nat.reduceMul, Nat.reduceSub, Int.reducePow]; omega
  obtain ⟨p1, p2⟩ := half_le k hk8 h1
  have p0 := half_pos k
  have e7 : (8 * (k : Int) - 1).toNat = 8 * k - 1 := by omega
  have hout : v < -2 ^ (8 * k - 1) ∨ 2 ^ (8 * k - 1) ≤ v := by unfold SFit at hf; omega
  clear hf p2
  have HR : Hid (BRow w a len L) := hr
  go_enter Try.func25, Try.ntmps25
  go_wp2_with fail
  refine (rput_ok a len cap o k L 0 _ hr hs h1 h2 h3 (by omega) (by omega) (by simp)).mono ?_
  rintro e9 w9 ⟨g, c, rfl, hg0, hgo, hb9⟩
  have hcc := hgo.cap
  unfold maxLen at hcc
  have hlen : (putL L o 0 k).length = len := by rw [putL_len]; exact hr.1
  rw [hlen] at hcc
  generalize putL L o 0 k = A at *
  clear hr
  go_wp2
  go_loopw [12] (fun i wz => ∃ j : Nat, j ≤ len ∧ i = .int .i64 j ∧ Own wz g c (mix A L j) ∧ Below w.heap.size w wz) (fun i _ => len - (intOf i).toNat)
  case atStart => exact ⟨0, Nat.zero_le _, rfl, hgo, hb9⟩
  case round =>
    obtain ⟨j, hj, rfl, ho1, hb1⟩ := hrel
    by_cases hlt : j < len
    · obtain ⟨hl, hby, hc⟩ := HR.out
      obtain ⟨ad, rfl, hx, hcell⟩ := hc (by omega)
      have hcx : wr.cell? (ad.add j) = some (.int .u8 (L.getD j 0)) := (hb1.cell (p := ad.add j) (by unfold Addr.add; split <;> exact hx)).trans (hcell j hlt)
      have hcy := ho1.cell (j := j) (by rw [mix_len]; omega)
      have hfz := ho1.frozen j
      have hset := ho1.set j (L.getD j 0)
      have hbs := hb1.setCell (p := ⟨g, j, none⟩) hg0 (.int .u8 (L.getD j 0))
      rw [← mix_succ] at hset
      generalize (mix A L j).getD j 0 = old at *
      generalize L.getD j 0 = x at *
      clear ho1 hb1 hcell hc hgo hb9
      go_wp2
      exact ⟨⟨j + 1, by omega, by go_num, hset, hbs⟩, by simp [intOf]; omega⟩
    · have ho2 : Own wr g c L := by
        have h := ho1
        rw [show j = L.length from by have := HR.out.1; omega, mix_all A L (by have := HR.out.1; omega)] at h; exact h
      have hjl : j = len := by omega
      subst hjl
      clear hgo hb9 ho1
      rcases hout with ho | ho
      · go_wp2
        go_ret2
        exact ⟨g, c, rfl, hg0, ho2, hb1⟩
      · have ho' : -2 ^ (8 * k - 1) ≤ v := by omega
        go_wp2
        go_ret2
        exact ⟨g, c, rfl, hg0, ho2, hb1⟩
set_option maxHeartbeats 1000000 in
theorem rpi_ok (a : Option Addr) (len cap o k : Nat) (L : List Int) (v : Int) (w : World) (hr : BRow w a len L) (hs : len ≤ 140737488351232) (h1 : 1 ≤ k) (h2 : k ≤ 8) (h3 : o + k ≤ len) (hv0 : -9223372036854775808 ≤ v) (hv1 : v ≤ 9223372036854775807) (hf : SFit v k) :
    Calls Try.prog 25 #[.slice a len cap, .int .i64 o, .int .i64 k, .int .i64 v] w fun e w' => ∃ g c, e = .returned (.tuple #[.slice (some ⟨g, 0, none⟩) len c, .int .i64 0]) ∧ w.heap.size ≤ g ∧ Own w' g c (putL L o (IntKind.u64.wrap v) k) ∧ Below w.heap.size w w' := by
  have e7 : (8 * (k : Int) - 1).toNat = 8 * k - 1 := by omega
  have e8 : (8 * (k : Int)).toNat = 8 * k := by omega
  have hw0 := wrap_u64_nonneg v
  have hw1 : IntKind.u64.wrap v < 18446744073709551616 := by rw [IntKind.wrap_u64]; omega
  have HR : Hid (BRow w a len L) := hr
  go_enter Try.func25, Try.ntmps25
  go_wp2_with fail
  refine (rput_ok a len cap o k L 0 _ hr hs h1 h2 h3 (by omega) (by omega) (by simp)).mono ?_
  rintro e9 w9 ⟨g, c, rfl, hg0, hgo, hb9⟩
  have hcc := hgo.cap
  unfold maxLen at hcc
  have hlen : (putL L o 0 k).length = len := by rw [putL_len]; exact hr.1
  rw [hlen] at hcc
  generalize putL L o 0 k = A at *
  clear hr
  go_wp2
  go_loopw [12] (fun i wz => ∃ j : Nat, j ≤ len ∧ i = .int .i64 j ∧ Own wz g c (mix A L j) ∧ Below w.heap.size w wz) (fun i _ => len - (intOf i).toNat)
  case atStart => exact ⟨0, Nat.zero_le _, rfl, hgo, hb9⟩
  case round =>
    obtain ⟨j, hj, rfl, ho1, hb1⟩ := hrel
    by_cases hlt : j < len
    · obtain ⟨hl, hby, hc⟩ := HR.out
      obtain ⟨ad, rfl, hx, hcell⟩ := hc (by omega)
      have hcx : wr.cell? (ad.add j) = some (.int .u8 (L.getD j 0)) := (hb1.cell (p := ad.add j) (by unfold Addr.add; split <;> exact hx)).trans (hcell j hlt)
      have hcy := ho1.cell (j := j) (by rw [mix_len]; omega)
      have hfz := ho1.frozen j
      have hset := ho1.set j (L.getD j 0)
      have hbs := hb1.setCell (p := ⟨g, j, none⟩) hg0 (.int .u8 (L.getD j 0))
      rw [← mix_succ] at hset
      generalize (mix A L j).getD j 0 = old at *
      generalize L.getD j 0 = x at *
      clear ho1 hb1 hcell hc hgo hb9
      go_wp2
      exact ⟨⟨j + 1, by omega, by go_num, hset, hbs⟩, by simp [intOf]; omega⟩
    · have ho2 : Own wr g c L := by
        have h := ho1
        rw [show j = L.length from by have := HR.out.1; omega, mix_all A L (by have := HR.out.1; omega)] at h; exact h
      have hjl : j = len := by omega
      subst hjl
      clear hgo hb9 ho1
      by_cases hk8 : k < 8
      · obtain ⟨p1, p2⟩ := half_le k hk8 h1
        have p0 := half_pos k
        obtain ⟨f1, f2⟩ := hf
        have e9 : IntKind.u64.wrap (2 ^ (8 * k)) = 2 ^ (8 * k) := by rw [IntKind.wrap_u64]; omega
        have q0 := pow8_pos k
        have q2 : ¬ (2 : Int) ^ (8 * k) = 0 := by omega
        have q3 : (2 : Int) ^ (8 * k) ≤ 72057594037927936 := by omega
        have HP : Hid (putL L o (IntKind.u64.wrap v % 2 ^ (8 * k)) k = putL L o (IntKind.u64.wrap v) k) := putL_mod L o _ k k (Nat.le_refl _)
        have m0 : 0 ≤ IntKind.u64.wrap v % 2 ^ (8 * k) := Int.emod_nonneg _ q2
        have m1 : IntKind.u64.wrap v % 2 ^ (8 * k) < 2 ^ (8 * k) := Int.emod_lt_of_pos _ q0
        have M1 : Hid (IntKind.u64.wrap v % 2 ^ (8 * k) / 2 ^ (8 * k) = 0) := Int.ediv_eq_zero_of_lt m0 m1
        clear p2
        go_wp2_with fail
        have hrz := BRow.kept HR.out hb1
        refine (rput_ok a j cap o k L _ _ hrz hs h1 h2 h3 m0 (by omega) M1.out).mono ?_
        rintro e9 w8 ⟨g2, c2, rfl, hg2, hgo2, hb2⟩
        have hsz := hb1.size
        go_wp2
        go_ret2
        exact ⟨g2, c2, rfl, by omega, by rw [HP.out] at hgo2; exact hgo2, hb1.trans (hb2.mono hsz)⟩
      · obtain rfl : k = 8 := by omega
        clear hf
        go_wp2_with fail
        have hrz := BRow.kept HR.out hb1
        refine (rput_ok a j cap o 8 L _ _ hrz hs h1 h2 h3 hw0 hw1 (by simp only [Nat.reduceMul, Int.reducePow]; omega)).mono ?_
        rintro e9 w8 ⟨g2, c2, rfl, hg2, hgo2, hb2⟩
        have hsz := hb1.size
        go_wp2
        go_ret2
        exact ⟨g2, c2, rfl, by omega, hgo2, hb1.trans (hb2.mono hsz)⟩
end Pk
end Go.Proofs.Ytdphfhpohlodcab
