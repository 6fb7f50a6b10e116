import Derived.Test.YtgoigcpdfecfhaaGreatDoorCtM
import Derived.Test.YtgoigcpdfecfhaaGreatDoorCtB
import Derived.Test.YtgoigcpdfecfhaaGreatDoorMgH
import Derived.Test.YtgoigcpdfecfhaaGreatDoorRxB
namespace Go.Proofs.YtgoigcpdfecfhaaGreatDoor
namespace Cl
set_option maxRecDepth 8000
open Go.RowKit
set_option linter.unusedVariables false
theorem tab_at64 (t : Nat) (h : t < 64) : idx64 t < 64 ∧ tab64.getD (idx64 t) 0 = (t : Int) := tab_idx64 ⟨t, h⟩
theorem tz_facts64 (u : Int) (h0 : 0 < u) (h1 : u < 18446744073709551616) : ∃ t i : Nat, (tzx u.toNat : Int) = (t : Int) ∧ t < 64 ∧ bits .and .u64 u (IntKind.u64.wrap (-u)) = 2 ^ t ∧ IntKind.u64.wrap ((2 : Int) ^ t * 285870213051353865) / 288230376151711744 = (i : Int) ∧ i < 64 ∧ tab64.getD i 0 = (t : Int) := by
  have e1 := and_neg64 u h0 h1
  have hs := (tz_spec 64 u.toNat (by omega) (by omega)).1
  obtain ⟨i1, i2⟩ := tab_at64 _ hs
  refine ⟨tz u.toNat 64, idx64 (tz u.toNat 64), ?_, hs, e1, ?_, i1, i2⟩
  · unfold tzx; rw [if_neg (by omega)]
  generalize tz u.toNat 64 = t
  unfold idx64
  rw [IntKind.wrap_u64]
  simp
def TabAt64 (w : World) : Prop := ∀ i, i < 64 → w.cell? ⟨1, i, none⟩ = some (.int .u8 (tab64.getD i 0))
theorem ret_i {k : IntKind} {a b : Int} (h : a = b) : Ending.returned (.int k a) = .returned (.int k b) := by rw [h]
theorem tz64_any (u : Int) (h0 : 0 ≤ u) (h1 : u < 18446744073709551616) (w : World) (ht : TabAt64 w) : Calls Tryz.prog 102 #[.int .u64 u] w fun e w' => e = .returned (.int .i64 (tzx u.toNat : Int)) ∧ w' = w := by
  by_cases h : u = 0
  · have hz : (u == 0) = true := by simp [h]
    have HV : Hid ((tzx u.toNat : Int) = 64) := by show _ = _; rw [h]; rfl
    clear ht
    go_enter Tryz.func102, Tryz.ntmps102
    go_wp2
    go_ret
    exact ⟨ret_i HV.out.symm, rfl⟩
  · have hz : (u == 0) = false := by simp; omega
    obtain ⟨t, i, hv, hs, e1, e2, hi1, hi2⟩ := tz_facts64 u (by omega) h1
    have hc := ht i hi1
    rw [hi2] at hc
    have HV : Hid ((tzx u.toNat : Int) = (t : Int)) := hv
    clear hi2 ht hv
    go_enter Tryz.func102, Tryz.ntmps102
    go_wp2
    go_ret
    exact ⟨ret_i HV.out.symm, rfl⟩
end Cl
namespace Au
set_option maxRecDepth 8000
open Go.RowKit
set_option linter.unusedVariables false
/-- A vertex's osn set. -/
def osn (z : Int) : Int := (Cl.nu (z / 16).toNat : Int) * 2 ^ (4 * (z % 16)).toNat
theorem nu_z (z : Int) : ∃ k : Nat, Cl.nu (z / 16).toNat = k ∧ 1 ≤ k ∧ k ≤ 15 := ⟨_, rfl, Cl.nu_b _⟩
theorem sh_b (k : Nat) (r : Int) (hk : k ≤ 15) (h0 : 0 ≤ r) (h1 : r < 16) : 0 ≤ (k : Int) * 2 ^ (4 * r).toNat ∧ (k : Int) * 2 ^ (4 * r).toNat < 18446744073709551616 := by
  have h : (4 * r).toNat ≤ 60 := by omega
  have a1 : 2 ^ (4 * r).toNat ≤ 2 ^ 60 := Nat.pow_le_pow_right (by omega) h
  have e : (k : Int) * 2 ^ (4 * r).toNat = ((k * 2 ^ (4 * r).toNat : Nat) : Int) := by simp
  rw [e]
  have a2 : k * 2 ^ (4 * r).toNat ≤ 15 * 2 ^ 60 := Nat.mul_le_mul hk a1
  omega
theorem osn_b (z : Int) : 0 ≤ osn z ∧ osn z < 18446744073709551616 := sh_b _ _ (Cl.nu_b _).2 (by omega) (by omega)
theorem osn_any (z : Int) (h0 : 0 ≤ z) (h1 : z < 18446744073709551616) (w : World) (ht : Cl.TabAt64 w) : Calls Tryz.prog 47 #[.int .u64 z] w fun e w' => e = .returned (.int .u64 (osn z)) ∧ w' = w := by
  have HT := hide (Cl.tz64_any (z / 16) (by omega) (by omega) w ht)
  have HO : Hid (∀ k : Nat, k = min (1 + Cl.tzx (z / 16).toNat) 15 → IntKind.u64.wrap ((k : Int) * 2 ^ (4 * (z % 16)).toNat) = osn z) := fun k hk => by
    have hs := sh_b k (z % 16) (by omega) (by omega) (by omega)
    rw [wu _ hs.1 hs.2]
    unfold osn Cl.nu
    rw [hk]
  have hb := Cl.tzx_b (z / 16).toNat (by omega)
  generalize Cl.tzx (z / 16).toNat = t at *
  have hm : z.tmod 16 = z % 16 := Int.tmod_eq_emod_of_nonneg h0
  have hm0 : 0 ≤ z % 16 := by omega
  have hm1 : z % 16 < 16 := by omega
  clear ht
  go_enter Tryz.func47, Tryz.ntmps47
  go_wp2_with (fail)
  refine HT.out.mono ?_
  rintro e9 w9 ⟨rfl, hw9⟩
  subst w9
  go_wp2
  all_goals go_ret
  all_goals first
    | exact ⟨ret_int (HO.out (1 + t) (by omega)), rfl⟩
    | exact ⟨ret_int (HO.out 15 (by omega)), rfl⟩
    | (refine ⟨ret_int (Eq.trans ?_ (HO.out (1 + t) (by omega))), rfl⟩; rw [show ((1 + t : Nat) : Int) = 1 + (t : Int) by omega])
set_option maxHeartbeats 1000000 in
theorem rosn_any (s v : Int) (h0 : 0 ≤ s) (h1 : s < 18446744073709551616) (v0 : 0 ≤ v) (v1 : v < 4294967296) (w : World) : Calls Tryz.prog 104 #[.int .u64 s, .int .u32 v] w fun e w' => e = .returned (.int .u64 (osn (Rx.mix s v))) ∧ w' = w := by
  have HM := hide (Rx.rmix_any s v h0 h1 v0 v1 w)
  have mb := Rx.mix_b s v
  generalize Rx.mix s v = z at *
  obtain ⟨z0, z1⟩ := mb
  have hm : z.tmod 16 = z % 16 := Int.tmod_eq_emod_of_nonneg z0
  have hm0 : 0 ≤ z % 16 := by omega
  have hm1 : z % 16 < 16 := by omega
  have HO : Hid (∀ k : Nat, k = Cl.nu (z / 16).toNat → IntKind.u64.wrap ((k : Int) * 2 ^ (4 * (z % 16)).toNat) = osn z) := fun k hk => by
    have hs := sh_b k (z % 16) (by rw [hk]; exact (Cl.nu_b _).2) (by omega) (by omega)
    rw [wu _ hs.1 hs.2]
    unfold osn
    rw [hk]
  obtain ⟨X, hX⟩ : ∃ X : Nat, (X : Int) = z / 16 := ⟨(z / 16).toNat, by omega⟩
  have hXb : X < 18446744073709551616 := by omega
  rw [show (z / 16).toNat = X by omega] at HO
  have hX2 : z / 16 = (X : Int) := hX.symm
  clear hX
  go_enter Tryz.func104, Tryz.ntmps104
  go_wp2_with (fail)
  refine HM.out.mono ?_
  rintro e9 w9 ⟨rfl, hw9⟩
  subst w9
  go_wp2
  clear hX2
  go_loop [6, 7] (fun x r => ∃ (y k : Nat), 1 ≤ k ∧ k ≤ 15 ∧ X = 2 ^ (k - 1) * y ∧ x = .int .u64 (y : Int) ∧ r = .int .u64 (k : Int)) (fun _ r => 15 - (intOf r).toNat)
  case atStart => exact ⟨X, 1, by omega, by omega, by simp, rfl, rfl⟩
  case round =>
    obtain ⟨y, k, hk1, hk2, hy, rfl, rfl⟩ := hrel
    have hp : 0 < 2 ^ (k - 1) := Nat.two_pow_pos _
    have hyX : y ≤ X := by rw [hy]; exact Nat.le_mul_of_pos_left _ hp
    have HY := hide hy
    have hyb : y < 18446744073709551616 := by omega
    have ht : ((y : Int)).tmod 2 = ((y % 2 : Nat) : Int) := by rw [Int.tmod_eq_emod_of_nonneg (by omega)]; omega
    have hq : ((y : Int)).tdiv 2 = ((y / 2 : Nat) : Int) := by rw [Int.tdiv_eq_ediv_of_nonneg (by omega)]; omega
    clear hy hyX hp
    by_cases c1 : y % 2 = 0
    · have e1 : (((y % 2 : Nat) : Int) == 0) = true := by simp [c1]
      by_cases c2 : k < 15
      · have wk : IntKind.u64.wrap ((k : Int) + 1) = (k : Int) + 1 := wu _ (by omega) (by omega)
        have c3 : (k : Int) < 15 := by omega
        have HN : Hid (X = 2 ^ (k + 1 - 1) * (y / 2)) := by
          show X = _
          have hh : (2 : Nat) ^ (k + 1 - 1) = 2 ^ (k - 1) * 2 := by rw [← Nat.pow_succ]; congr 1; omega
          rw [hh, Nat.mul_assoc, show 2 * (y / 2) = y by omega]; exact HY.out
        clear HY
        go_wp2
        exact ⟨⟨y / 2, k + 1, by omega, by omega, HN.out, rfl, by go_num⟩, by simp [intOf]; omega⟩
      · have hk : k = 15 := by omega
        subst hk
        have HU := hide (HO.out 15 (Cl.nu_end X 15 y hk1 hk2 hXb HY.out (Or.inl rfl)).symm)
        clear HY HO
        go_wp2
        all_goals go_ret
        all_goals exact ⟨ret_int HU.out, rfl⟩
    · have e1 : (((y % 2 : Nat) : Int) == 0) = false := by simp; omega
      have HU := hide (HO.out k (Cl.nu_end X k y hk1 hk2 hXb HY.out (Or.inr (by omega))).symm)
      clear HY HO
      go_wp2
      all_goals go_ret
      all_goals exact ⟨ret_int HU.out, rfl⟩
theorem nmax_add (x y k m : Nat) (hk : k < 16) (hm : m = max (x / 16 ^ k % 16) (y / 16 ^ k % 16)) : IntKind.u64.wrap ((Nb.nmax x y k : Int) + IntKind.u64.wrap ((m : Int) * 2 ^ (4 * k))) = (Nb.nmax x y (k + 1) : Int) := by
  have hb := nmax_b x y (k + 1)
  have hb0 := nmax_b x y k
  have e : (2 : Int) ^ (4 * k) = ((16 ^ k : Nat) : Int) := by rw [Int.pow_mul]; simp
  have hp : 16 ^ (k + 1) ≤ 16 ^ 16 := Nat.pow_le_pow_right (by omega) (by omega)
  have hn : Nb.nmax x y (k + 1) = m * 16 ^ k + Nb.nmax x y k := by rw [hm, Nb.nmax]; omega
  rw [e, ← Int.natCast_mul, hn]
  rw [hn] at hb
  generalize m * 16 ^ k = A at *
  generalize Nb.nmax x y k = B at *
  have h16 : (16 : Nat) ^ 16 = 18446744073709551616 := by decide
  rw [wu (A : Int) (by omega) (by omega), wu _ (by omega) (by omega)]
  omega
theorem rjoin_any (x y : Nat) (hx : x < 18446744073709551616) (hy : y < 18446744073709551616) (w : World) :
    Calls Tryz.prog 105 #[.int .u64 x, .int .u64 y] w fun e w' => e = .returned (.int .u64 (Nb.nmax x y 16)) ∧ w' = w := by
  go_enter Tryz.func105, Tryz.ntmps105
  go_wp2
  go_loop [5, 6] (fun z i => ∃ k : Nat, k ≤ 16 ∧ i = .int .i64 k ∧ z = .int .u64 (Nb.nmax x y k)) (fun _ i => 16 - (intOf i).toNat)
  case atStart => exact ⟨0, by omega, rfl, rfl⟩
  case round =>
    obtain ⟨k, hk, rfl, rfl⟩ := hrel
    by_cases hlt : k < 16
    · have q4 : (4 * (k : Int)).toNat = 4 * k := by omega
      have t1 := Ty.nib_at x k
      have t2 := Ty.nib_at y k
      have HT : Hid ((if ((x : Int) / 2 ^ (4 * k)).tmod 16 < ((y : Int) / 2 ^ (4 * k)).tmod 16 then ((y : Int) / 2 ^ (4 * k)).tmod 16 else ((x : Int) / 2 ^ (4 * k)).tmod 16) = ((max (x / 16 ^ k % 16) (y / 16 ^ k % 16) : Nat) : Int)) := by
        show _ = _
        rw [t1, t2]; split <;> omega
      clear t1 t2
      go_wp2
      rw [HT.out, nmax_add x y k _ hlt rfl]
      exact ⟨⟨k + 1, by omega, by go_num, rfl⟩, by simp [intOf]; omega⟩
    · obtain rfl : k = 16 := by omega
      go_wp2
      go_ret
      exact ⟨rfl, rfl⟩
theorem index59 (a : Int) (b c d e f g h : Value) (w : World) : (Instr.index 59 (.agg #[.int .u64 a, b, c, d, e, f, g, h]) (.int .i64 0)).run Tryz.prog w = .ok (.int .u64 a) w := by kernel_rfl
theorem united_any (x y : Nat) (hx : x < 18446744073709551616) (hy : y < 18446744073709551616) (w : World) :
    Calls Tryz.prog 50 #[.int .u64 (x : Int), .int .u64 (y : Int)] w fun e w' => e = .returned (.int .u64 (Nb.nmax x y 16)) ∧ Below w.heap.size w w' := by
  have HM : Hid (Calls Tryz.prog 103 #[.int .i64 8, .agg #[.int .u64 (x : Int), .int .u64 0, .int .u64 0, .int .u64 0, .int .u64 0, .int .u64 0, .int .u64 0, .int .u64 0], .int .i64 0, .int .u64 (y : Int)] w fun e w' => e = .returned (.agg #[.int .u64 (Nb.nmax x y 16 : Nat), .int .u64 0, .int .u64 0, .int .u64 0, .int .u64 0, .int .u64 0, .int .u64 0, .int .u64 0]) ∧ Below w.heap.size w w') := Ty.pmon_8 (fun i => if i = 0 then (x : Int) else 0) 0 x y (by omega) rfl hx hy w
  go_enter Tryz.func50, Tryz.ntmps50
  go_wp2_with (fail)
  refine HM.out.mono ?_
  rintro e9 w9 ⟨rfl, hw9⟩
  have hi := index59
  go_wp2
  all_goals go_ret
  all_goals exact ⟨rfl, hw9⟩
end Au
end Go.Proofs.YtgoigcpdfecfhaaGreatDoor
