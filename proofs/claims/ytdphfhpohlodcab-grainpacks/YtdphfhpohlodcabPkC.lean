import Derived.Test.YtdphfhpohlodcabPkB
namespace Go.Proofs.Ytdphfhpohlodcab
namespace Pk
open Go.RowKit
set_option linter.unusedVariables false
theorem putL_succ (L : List Int) (o : Nat) (v : Int) (k : Nat) : putL L o v (k + 1) = (putL L o v k).set (o + k) (byteAt v k) := rfl
theorem addo (g o i : Nat) : (⟨g, o, none⟩ : Addr).add i = ⟨g, o + i, none⟩ := by unfold Addr.add; split <;> simp_all
set_option maxHeartbeats 800000 in
theorem lay_any (g o k c cap : Nat) (v : Int) (L : List Int) (w : World) (hown : Own w g cap L) (hk : k ≤ 8) (ho : o + k ≤ L.length) (hv0 : 0 ≤ v) (hv1 : v < 18446744073709551616) :
    Calls Try.prog 39 #[.slice (some ⟨g, o, none⟩) k c, .int .u64 v] w fun e w' => e = .returned (.tuple #[]) ∧ Own w' g cap (putL L o v k) ∧ Below g w w' := by
  go_enter Try.func39, Try.ntmps39
  go_wp2
  go_loopw [7] (fun i wr => ∃ j : Nat, j ≤ k ∧ i = .int .i64 j ∧ Own wr g cap (putL L o v j) ∧ Below g w wr) (fun i _ => k - (intOf i).toNat)
  case atStart => exact ⟨0, Nat.zero_le _, rfl, hown, Below.refl _ _⟩
  case round =>
    obtain ⟨j, hj, rfl, ho1, hb1⟩ := hrel
    by_cases hlt : j < k
    · have hc := ho1.cell (j := o + j) (by rw [putL_len]; omega)
      have hf := ho1.frozen (o + j)
      have hset := ho1.set (o + j) (byteAt v j)
      have hbs : Below g w (wr.setCell ⟨g, o + j, none⟩ (.int .u8 (byteAt v j))) := hb1.setCell (Nat.le_refl _) _
      rw [← putL_succ] at hset
      have e8 : (8 * (j : Int)).toNat = 8 * j := by omega
      have HB : Hid (byteAt v j = v / 2 ^ (8 * j) % 256) := rfl
      generalize (putL L o v j).getD (o + j) 0 = old at *
      clear ho1 hb1
      go_wp2
      exact ⟨⟨j + 1, by omega, by go_num, hset, hbs⟩, by simp [intOf]; omega⟩
    · have hjk : j = k := by omega
      subst hjk
      go_wp2
      go_returns
      exact ⟨rfl, ho1, hb1⟩
theorem ec_ok (len o k : Nat) (h1 : 1 ≤ k) (h2 : k ≤ 8) (h3 : o + k ≤ len) : ec len (o : Int) (k : Int) = 0 := by
  unfold ec; rw [if_neg (by omega), if_neg (by omega)]
theorem put_err (a : Option Addr) (len cap : Nat) (at' width v : Int) (w : World) (hs : len ≤ 140737488351232) (a0 : -9223372036854775808 ≤ at') (a1 : at' ≤ 9223372036854775807) (b0 : -9223372036854775808 ≤ width) (b1 : width ≤ 9223372036854775807) (he : ¬ ec len at' width = 0) :
    Calls Try.prog 19 #[.slice a len cap, .int .i64 at', .int .i64 width, .int .u64 v] w fun e w' => e = .returned (.int .i64 (ec len at' width)) ∧ w' = w := by
  have he' : (ec len at' width != 0) = true := by simpa using he
  go_enter Try.func19, Try.ntmps19
  go_wp2_with fail
  refine (room_any a len cap at' width _ hs a0 a1 b0 b1).mono ?_
  rintro e9 w9 ⟨rfl, hw9⟩
  subst w9
  go_wp2
  go_ret
  exact ⟨rfl, rfl⟩
set_option maxHeartbeats 600000 in
theorem put_ok (g len cap o k : Nat) (v : Int) (L : List Int) (w : World) (hs : len ≤ 140737488351232) (hown : Own w g cap L) (hll : len ≤ L.length) (h1 : 1 ≤ k) (h2 : k ≤ 8) (h3 : o + k ≤ len) (hv0 : 0 ≤ v) (hv1 : v < 18446744073709551616) (hf : v / 2 ^ (8 * k) = 0) :
    Calls Try.prog 19 #[.slice (some ⟨g, 0, none⟩) len cap, .int .i64 o, .int .i64 k, .int .u64 v] w fun e w' => e = .returned (.int .i64 0) ∧ Own w' g cap (putL L o v k) ∧ Below g w w' := by
  have he := ec_ok len o k h1 h2 h3
  have hcap := hown.cap
  unfold maxLen at hcap
  have hf' : (v / 2 ^ (8 * k) != 0) = false := by simpa using hf
  have hoc : ¬ cap = o := by omega
  clear hf
  go_enter Try.func19, Try.ntmps19
  go_wp2_with fail
  refine (room_any _ len cap o k _ hs (by omega) (by omega) (by omega) (by omega)).mono ?_
  rintro e9 w9 ⟨rfl, hw9⟩
  subst w9
  rw [he]
  clear he
  go_wp2_with fail
  refine (lay_any g o k (cap - o) cap v L _ hown h2 (by omega) hv0 hv1).mono ?_
  rintro e9 w9 ⟨rfl, h8, h9⟩
  go_wp2
  go_ret
  exact ⟨rfl, h8, h9⟩
theorem put_big (g len cap o k : Nat) (v : Int) (w : World) (hs : len ≤ 140737488351232) (h1 : 1 ≤ k) (h2 : k ≤ 8) (h3 : o + k ≤ len) (hv0 : 0 ≤ v) (hv1 : v < 18446744073709551616) (hf : ¬ v / 2 ^ (8 * k) = 0) :
    Calls Try.prog 19 #[.slice (some ⟨g, 0, none⟩) len cap, .int .i64 o, .int .i64 k, .int .u64 v] w fun e w' => e = .returned (.int .i64 12) ∧ w' = w := by
  have he := ec_ok len o k h1 h2 h3
  have hf' : (v / 2 ^ (8 * k) != 0) = true := by simpa using hf
  clear hf
  go_enter Try.func19, Try.ntmps19
  go_wp2_with fail
  refine (room_any _ len cap o k _ hs (by omega) (by omega) (by omega) (by omega)).mono ?_
  rintro e9 w9 ⟨rfl, hw9⟩
  subst w9
  rw [he]
  clear he
  go_wp2
  go_ret
  exact ⟨rfl, rfl⟩
end Pk
end Go.Proofs.Ytdphfhpohlodcab
