import Derived.Test.YtdphfhpohlodcabPkC
namespace Go.Proofs.Ytdphfhpohlodcab
namespace Pk
open Go.RowKit
set_option linter.unusedVariables false
theorem getD_left (X T : List Int) (i : Nat) (h : i < X.length) : (X ++ T).getD i 0 = X.getD i 0 := by
  rw [List.getD_eq_getElem?_getD, List.getElem?_append_left h, ← List.getD_eq_getElem?_getD]
theorem getD_mark0 (X : List Int) : (X ++ [171, 205]).getD X.length 0 = 171 := by simp
theorem getD_mark1 (X : List Int) : (X ++ [171, 205]).getD (X.length + 1) 0 = 205 := by
  rw [List.getD_eq_getElem?_getD, List.getElem?_append_right (by omega)]; simp
set_option maxHeartbeats 800000 in
theorem kept_any (g len c cx : Nat) (ax : Option Addr) (X : List Int) (w : World) (hs : len ≤ 140737488351232) (hown : Own w g c (X ++ [171, 205])) (hr : BRow w ax len X) :
    Calls Try.prog 21 #[.slice (some ⟨g, 0, none⟩) len c, .slice ax len cx] w fun e w' => e = .returned (.bool true) ∧ ∃ n, w' = w.drewN n := by
  obtain ⟨hl, hby, hc⟩ := hr
  have hcap := hown.cap
  unfold maxLen at hcap
  have hll : (X ++ [171, 205]).length = len + 2 := by simp [hl]
  rw [hll] at hcap
  have c1 : w.cell? ⟨g, len, none⟩ = some (.int .u8 171) := by
    have := hown.cell (j := len) (by omega)
    have e : (X ++ [171, 205]).getD len 0 = (171 : Int) := by rw [← hl]; exact getD_mark0 X
    rw [e] at this; exact this
  have c2 : w.cell? ⟨g, len + 1, none⟩ = some (.int .u8 205) := by
    have := hown.cell (j := len + 1) (by omega)
    have e : (X ++ [171, 205]).getD (len + 1) 0 = (205 : Int) := by rw [← hl]; exact getD_mark1 X
    rw [e] at this; exact this
  have HC : Hid (∀ i, i < len → w.cell? ⟨g, i, none⟩ = some (.int .u8 (X.getD i 0))) := fun i hi => by
    have := hown.cell (j := i) (by omega)
    rw [getD_left X _ i (by omega)] at this; exact this
  clear hown hll
  go_enter Try.func21, Try.ntmps21
  go_wp2
  go_loopw [5] (fun i wr => ∃ j : Nat, j ≤ len ∧ i = .int .i64 j ∧ ∃ m, wr = w.drewN m) (fun i _ => len - (intOf i).toNat)
  case atStart => exact ⟨0, Nat.zero_le _, rfl, 0, rfl⟩
  case round =>
    obtain ⟨j, hj, rfl, m, rfl⟩ := hrel
    by_cases hlt : j < len
    · have g1 := HC.out j hlt
      obtain ⟨ad, rfl, _, hcell⟩ := hc (by omega)
      have g2 := hcell j hlt
      clear hcell hc
      go_wp2
      go_quiet (fail)
      go_wp2
      exact ⟨⟨j + 1, by omega, by go_num, _, rfl⟩, by simp [intOf]; omega⟩
    · have hjk : j = len := by omega
      subst hjk
      clear hc HC
      go_wp2
      go_ret
      exact ⟨rfl, _, rfl⟩
theorem get_err (a : Option Addr) (len cap : Nat) (at' width : Int) (w : World) (hs : len ≤ 140737488351232) (a0 : -9223372036854775808 ≤ at') (a1 : at' ≤ 9223372036854775807) (b0 : -9223372036854775808 ≤ width) (b1 : width ≤ 9223372036854775807) (he : ¬ ec len at' width = 0) :
    Calls Try.prog 22 #[.slice a len cap, .int .i64 at', .int .i64 width] w fun e w' => e = .returned (.tuple #[.int .u64 0, .int .i64 (ec len at' width)]) ∧ w' = w := by
  have he' : (ec len at' width != 0) = true := by simpa using he
  go_enter Try.func22, Try.ntmps22
  go_wp2_with fail
  refine (room_any a len cap at' width _ hs a0 a1 b0 b1).mono ?_
  rintro e9 w9 ⟨rfl, hw9⟩
  subst w9
  go_wp2
  go_ret2
  exact ⟨rfl, rfl⟩
set_option maxHeartbeats 800000 in
theorem get_ok (a : Option Addr) (len cap o k : Nat) (L : List Int) (w : World) (hr : BRow w a len L) (hs : len ≤ 140737488351232) (h1 : 1 ≤ k) (h2 : k ≤ 8) (h3 : o + k ≤ len) :
    Calls Try.prog 22 #[.slice a len cap, .int .i64 o, .int .i64 k] w fun e w' => e = .returned (.tuple #[.int .u64 (getL L o k), .int .i64 0]) ∧ w' = w := by
  obtain ⟨hl, hby, hc⟩ := hr
  obtain ⟨ad, rfl, _, hcell⟩ := hc (by omega)
  have HC : Hid (∀ i, i < len → w.cell? (ad.add i) = some (.int .u8 (L.getD i 0))) := hcell
  have he := ec_ok len o k h1 h2 h3
  clear hc hcell
  go_enter Try.func22, Try.ntmps22
  go_wp2_with fail
  refine (room_any _ len cap o k _ hs (by omega) (by omega) (by omega) (by omega)).mono ?_
  rintro e9 w9 ⟨rfl, hw9⟩
  subst w9
  rw [he]
  clear he
  go_wp2
  go_loop [9, 19] (fun v i => ∃ j : Nat, j ≤ k ∧ i = .int .i64 j ∧ v = .int .u64 (getL L o j)) (fun _ i => k - (intOf i).toNat)
  case atStart => exact ⟨0, Nat.zero_le _, rfl, rfl⟩
  case round =>
    obtain ⟨j, hj, rfl, rfl⟩ := hrel
    by_cases hlt : j < k
    · have g1 := HC.out (o + j) (by omega)
      have hs1 := get_step L o j hby (by omega)
      have hb := getD_b L hby (o + j)
      have eo : ((o : Int) + (j : Int)).toNat = o + j := by omega
      have e8 : (8 * (j : Int)).toNat = 8 * j := by omega
      generalize L.getD (o + j) 0 = x at *
      go_wp2
      exact ⟨⟨j + 1, by omega, by go_num, rfl⟩, by simp [intOf]; omega⟩
    · have hjk : j = k := by omega
      subst hjk
      go_wp2
      go_ret2
      exact ⟨rfl, rfl⟩
theorem rget_err (a : Option Addr) (len cap : Nat) (at' width : Int) (w : World) (hs : len ≤ 140737488351232) (a0 : -9223372036854775808 ≤ at') (a1 : at' ≤ 9223372036854775807) (b0 : -9223372036854775808 ≤ width) (b1 : width ≤ 9223372036854775807) (he : ¬ ec len at' width = 0) :
    Calls Try.prog 23 #[.slice a len cap, .int .i64 at', .int .i64 width] w fun e w' => e = .returned (.tuple #[.int .u64 0, .int .i64 (ec len at' width)]) ∧ w' = w := by
  by_cases h1 : width < 1
  · have H : Hid (ec len at' width = 11) := by show _ = _; unfold ec; rw [if_pos (Or.inl h1)]
    clear he
    go_enter Try.func23, Try.ntmps23
    go_wp2
    go_ret2
    exact ⟨ret_two rfl H.out.symm, rfl⟩
  have h1' : 1 ≤ width := by omega
  by_cases h2 : 8 < width
  · have H : Hid (ec len at' width = 11) := by show _ = _; unfold ec; rw [if_pos (Or.inr h2)]
    clear he
    go_enter Try.func23, Try.ntmps23
    go_wp2
    go_ret2
    exact ⟨ret_two rfl H.out.symm, rfl⟩
  have h2' : width ≤ 8 := by omega
  have H : Hid (ec len at' width = 10) := by show _ = _; unfold ec at *; rw [if_neg (by omega)] at *; split <;> simp_all
  have hd : decide (ec len at' width = 0) = false := by simpa using he
  clear he
  go_enter Try.func23, Try.ntmps23
  go_wp2_with fail
  refine (there_any len at' width _ hs a0 a1 h1' h2').mono ?_
  rintro e9 w9 ⟨rfl, hw9⟩
  subst w9
  rw [hd]
  clear hd
  go_wp2
  go_ret2
  exact ⟨ret_two rfl H.out.symm, rfl⟩
set_option maxHeartbeats 800000 in
theorem rget_ok (a : Option Addr) (len cap o k : Nat) (L : List Int) (w : World) (hr : BRow w a len L) (hs : len ≤ 140737488351232) (h1 : 1 ≤ k) (h2 : k ≤ 8) (h3 : o + k ≤ len) :
    Calls Try.prog 23 #[.slice a len cap, .int .i64 o, .int .i64 k] w fun e w' => e = .returned (.tuple #[.int .u64 (getL L o k), .int .i64 0]) ∧ w' = w := by
  obtain ⟨hl, hby, hc⟩ := hr
  obtain ⟨ad, rfl, _, hcell⟩ := hc (by omega)
  have HC : Hid (∀ i, i < len → w.cell? (ad.add i) = some (.int .u8 (L.getD i 0))) := hcell
  have hd : decide (ec len (o : Int) (k : Int) = 0) = true := by simpa using ec_ok len o k h1 h2 h3
  clear hc hcell
  go_enter Try.func23, Try.ntmps23
  go_wp2_with fail
  refine (there_any len o k _ hs (by omega) (by omega) (by omega) (by omega)).mono ?_
  rintro e9 w9 ⟨rfl, hw9⟩
  subst w9
  rw [hd]
  clear hd
  go_wp2
  go_loop [9, 10] (fun v i => ∃ m j : Nat, m + j = k ∧ i = .int .i64 ((j : Int) - 1) ∧ v = .int .u64 (revL L o k m)) (fun _ i => (intOf i + 1).toNat)
  case atStart => exact ⟨0, k, Nat.zero_add _, rfl, rfl⟩
  case round =>
    obtain ⟨m, j, hj, rfl, rfl⟩ := hrel
    have hrb := rev_b L o k m hby (by omega)
    by_cases hlt : m < k
    · obtain ⟨p, rfl⟩ : ∃ p, j = p + 1 := ⟨j - 1, by omega⟩
      have g1 := HC.out (o + p) (by omega)
      have hb := getD_b L hby (o + p)
      have eo : ((o : Int) + (p : Int)).toNat = o + p := by omega
      have e9 : (((p + 1 : Nat) : Int) - 1) = (p : Int) := by omega
      have HS : Hid (revL L o k (m + 1) = revL L o k m * 256 + L.getD (o + p) 0) := by
        show _ = _; rw [revL_succ, show k - 1 - m = p from by omega]
      have h56 : (2 : Int) ^ (8 * m) ≤ 72057594037927936 := by
        have h1 : 2 ^ (8 * m) ≤ 2 ^ 56 := Nat.pow_le_pow_right (by omega) (by omega)
        have h2 : ((2 ^ (8 * m) : Nat) : Int) ≤ ((2 ^ 56 : Nat) : Int) := by exact_mod_cast h1
        simpa using h2
      have hr2 : revL L o k m < 72057594037927936 := by omega
      have hr1 := hrb.1
      simp only [e9]
      generalize L.getD (o + p) 0 = x at *
      generalize revL L o k m = y at *
      clear hrb h56
      go_wp2
      exact ⟨⟨m + 1, p, by omega, rfl, by rw [HS.out]⟩, by simp [intOf]⟩
    · have hmk : m = k := by omega
      subst hmk
      obtain rfl : j = 0 := by omega
      have HV : Hid (revL L o m m = getL L o m) := rev_all L o m
      go_wp2
      go_ret2
      exact ⟨ret_two HV.out rfl, rfl⟩
end Pk
end Go.Proofs.Ytdphfhpohlodcab
