import Derived.Test.YtbnmjmlcedkoaabGreatDoorTyNr
import Derived.Test.YtbnmjmlcedkoaabGreatDoorTyFi
namespace Go.Proofs.YtbnmjmlcedkoaabGreatDoor
namespace Ty
open Go.RowKit
set_option linter.unusedVariables false
theorem mg_form (z : Int) (h : 0 ≤ z) : ∃ (K : Int) (d : Nat), z = (d : Int) * 8388608 + K ∧ 0 ≤ K ∧ K < 16777216 ∧ (0 < d → 8388608 ≤ K) := by
  by_cases e : z / 8388608 = 0
  · exact ⟨z, 0, by omega, h, by omega, fun h => by omega⟩
  · exact ⟨z % 8388608 + 8388608, (z / 8388608 - 1).toNat, by omega, by omega, by omega, fun h => by omega⟩
theorem mg_step (z : Int) (h : 0 ≤ z) : mg z < mg (z + 1) := by
  obtain ⟨K, d, e, k0, k1, k2⟩ := mg_form z h
  have m1 := mg_of K d k0 (by omega) k2
  have m2 := mg_of (K + 1) d (by omega) (by omega) (fun hd => by have := k2 hd; omega)
  rw [e, m1, Int.add_assoc, m2]
  exact mul_lt' (by omega) (pw d)
theorem mg_mono (a : Int) (ha : 0 ≤ a) : ∀ k : Nat, mg a ≤ mg (a + k)
  | 0 => by simp
  | k + 1 => by
    have h1 := mg_mono a ha k
    have h2 := mg_step (a + k) (by omega)
    have e : a + ((k + 1 : Nat) : Int) = a + k + 1 := by omega
    rw [e]; omega
theorem mg_le (a b : Int) (ha : 0 ≤ a) (h : a ≤ b) : mg a ≤ mg b := by
  have h1 := mg_mono a ha (b - a).toNat
  rw [show a + ((b - a).toNat : Int) = b from by omega] at h1; exact h1
theorem mg_zero : mg 0 = 0 := by
  have h := mg_of 0 0 (by omega) (by omega) (fun h => absurd h (by omega))
  simpa using h
theorem mg_pos (z : Int) (h : 0 < z) : 0 < mg z := by
  have h1 := mg_step 0 (by omega)
  have h2 := mg_le 1 z (by omega) (by omega)
  rw [mg_zero] at h1
  have e : (0 : Int) + 1 = 1 := rfl
  rw [e] at h1
  omega
theorem mg_top (z : Int) (h0 : 0 ≤ z) (h1 : z < 2139095040) : mg z < 2 ^ 277 := by
  have h2 := mg_le z 2139095039 h0 (by omega)
  have h3 := mg_of 16777215 253 (by omega) (by omega) (fun _ => by omega)
  have e : ((253 : Nat) : Int) * 8388608 + 16777215 = 2139095039 := by omega
  rw [e] at h3
  rw [h3] at h2
  have h4 : (2 : Int) ^ 277 = 16777216 * 2 ^ 253 := by rw [show (16777216 : Int) = 2 ^ 24 from rfl, ← Int.pow_add]
  have h5 := pw 253
  rw [h4]
  generalize (2 : Int) ^ 253 = P at *
  omega
/-- Bits of a finite number. -/
theorem un_cases (u : Int) (h0 : 0 ≤ u) (h1 : u < 4294967296) (hf : u % 2147483648 < 2139095040) :
    Sg (un u) ∧ ab (un u) = mg (u % 2147483648) ∧ rU (decide (un u < 0)) (u % 2147483648) = if u = 2147483648 then 0 else u := by
  have hz0 : 0 ≤ u % 2147483648 := by omega
  have hm0 := mg_nn _ hz0
  have hm1 := mg_top _ hz0 hf
  have hp : (2 : Int) ^ 277 ≤ 2 ^ 383 := pow_mono 277 383 (by omega)
  have e : un u = if 2147483648 ≤ u then -mg (u % 2147483648) else mg (u % 2147483648) := by unfold un; rw [mag_mg]
  have hr : ∀ n : Bool, rU n (u % 2147483648) = u % 2147483648 + if n then 2147483648 else 0 := fun n => by unfold rU; exact if_neg (by omega)
  rw [hr]
  by_cases hs : 2147483648 ≤ u
  · rw [if_pos hs] at e
    by_cases hz : u % 2147483648 = 0
    · rw [hz, mg_zero] at e
      rw [hz, mg_zero, e]
      have hu : u = 2147483648 := by omega
      rw [if_pos hu]
      refine ⟨?_, ?_, ?_⟩
      · unfold Sg; omega
      · unfold ab; rw [if_neg (by omega)]; rfl
      · simp
    · have hp := mg_pos _ (show 0 < u % 2147483648 by omega)
      have e2 : (if u = 2147483648 then 0 else u) = u := if_neg (by omega)
      have e3 : decide (-mg (u % 2147483648) < 0) = true := by simp; omega
      rw [e2, e, e3]
      refine ⟨?_, ?_, ?_⟩
      · unfold Sg; omega
      · unfold ab; rw [if_pos (by omega)]; omega
      · simp; omega
  · rw [if_neg hs] at e
    have e2 : (if u = 2147483648 then 0 else u) = u := if_neg (by omega)
    have e3 : decide (mg (u % 2147483648) < 0) = false := by simp; omega
    rw [e2, e, e3]
    refine ⟨?_, ?_, ?_⟩
    · unfold Sg; omega
    · unfold ab; rw [if_neg (by omega)]
    · simp; omega
theorem aw_off (m : Int) (n l : Bool) : aw m n l false false = false := by unfold aw; simp
theorem alone (A m : Int) (L : Nat) (z : Int) (h : Sg A) (hz : 0 ≤ z) (ha : ab A = mg z) (hL : IsLen (ab A / 1) L) : sz A 1 m L = z := by
  obtain ⟨b1, b2, b3⟩ := beside A 1 L h (by omega) hL
  have hn := zz_nn A 1 L h (by omega)
  rw [Int.mul_one, ha] at b1 b2 b3
  have e : zz A 1 L = z := by
    rcases Int.lt_trichotomy (zz A 1 L) z with h1 | h1 | h1
    · have := mg_le (zz A 1 L + 1) z (by omega) (by omega); omega
    · exact h1
    · have := mg_le (z + 1) (zz A 1 L) (by omega) (by omega)
      have := mg_step z hz; omega
  have hix : ix A 1 L = false := b3.1 (by rw [e])
  have e2 : sz A 1 m L = zz A 1 L + b2i (aw m (decide (A < 0)) (ab A / 1 / 2 ^ dr L % 2 == 1) (hlf (ab A / 1) (ab A % 1) 1 (dr L)) (mor (ab A / 1) (ab A % 1) 1 (dr L))) := rfl
  unfold ix at hix
  obtain ⟨i1, i2⟩ := Bool.or_eq_false_iff.1 hix
  rw [e2, e, i1, i2, aw_off]
  simp [b2i]
theorem one_round (u mode : Int) (h0 : 0 ≤ u) (h1 : u < 4294967296) (hf : u % 2147483648 < 2139095040) (m0 : 0 ≤ mode) (m1 : mode ≤ 3) (w : World) :
    Calls Tryz.prog 20 #[.agg (sm (un u)), .int .i64 mode] w fun e w' => e = .returned (.tuple #[.float .f32 (if u = 2147483648 then 0 else u).toNat, .int .i64 0]) ∧ Below w.heap.size w w' := by
  obtain ⟨s1, s2, s3⟩ := un_cases u h0 h1 hf
  have hm0 := mg_nn (u % 2147483648) (by omega)
  have hm1 := mg_top (u % 2147483648) (by omega) hf
  have hp : (2 : Int) ^ 277 ≤ 2 ^ 384 := pow_mono 277 384 (by omega)
  have ed : ab (un u) / 1 = ab (un u) := Int.ediv_one _
  obtain ⟨L, hl, hL⟩ := len_ex (ab (un u) / 1) (by rw [ed, s2]; exact hm0) 384 (by rw [ed, s2]; omega)
  have hz := alone (un u) mode L (u % 2147483648) s1 (by omega) s2 hL
  refine round_any (un u) mode _ 0 w (fun w => ?_)
  have h := over_any (un u) 1 mode L s1 (by omega) (by omega) m0 m1 hL hl w
  rw [hz, s3] at h
  have he : rE (u % 2147483648) = 0 := by unfold rE; exact if_neg (by omega)
  rw [he] at h; exact h
theorem of_one' (u : Int) (h0 : 0 ≤ u) (h1 : u < 4294967296) (W : World) (t : TypeId) (ht : Cl.TabAt W) :
    Calls Tryz.prog 17 #[.slice (some ⟨W.heap.size, 0, none⟩) 1 1] (W.alloc (.cells #[.float .f32 u.toNat] t)) fun e w' => e = .returned (.tuple #[.agg (sm (addV 0 [u] 1)), .int .i64 (addE [u] 1)]) ∧ Below W.heap.size W w' := by
  have hb : Below W.heap.size W (W.alloc (.cells #[.float .f32 u.toNat] t)) := (Below.refl _ _).alloc (Nat.le_refl _) _
  have h := of_any (some ⟨W.heap.size, 0, none⟩) 1 1 [u] (W.alloc (.cells #[.float .f32 u.toNat] t)) (tab_on ht hb) ⟨⟨by simp, by omega⟩, fun _ => ⟨_, rfl, by simp, fun i hi => by
    match i, hi with
    | 0, _ => simp [Addr.add]⟩, fun i hi => by
    match i, hi with
    | 0, _ => exact ⟨h0, h1⟩⟩
  exact h.mono fun e w' ⟨h1, h2⟩ => ⟨h1, below_chain hb h2 (by simp)⟩
theorem of_fin (u : Int) (hf : u % 2147483648 < 2139095040) : addV 0 [u] 1 = un u ∧ addE [u] 1 = 0 := by
  have h := add_all (A := 0) (zs := [u]) (n := 1) (fun i hi => by
    match i, hi with
    | 0, _ => exact hf)
  refine ⟨h.1.trans ?_, h.2⟩
  show pt 0 u = un u
  unfold pt; rw [if_pos hf]; omega
theorem of_bad (u : Int) (hf : ¬ u % 2147483648 < 2139095040) : addV 0 [u] 1 = 0 ∧ addE [u] 1 = 16 := add_bad (A := 0) (zs := [u]) (n := 1) (k := 0) (by omega) hf
theorem finite_one (u : Int) (h0 : 0 ≤ u) (h1 : u < 4294967296) (W : World) (t : TypeId) :
    Calls Tryz.prog 16 #[.slice (some ⟨W.heap.size, 0, none⟩) 1 1] (W.alloc (.cells #[.int .u32 u] t)) fun e w' => (∃ a n c, e = .returned (.slice a n c) ∧ (n = 0 ↔ ¬ u % 2147483648 < 2139095040)) ∧ Below W.heap.size W w' := by
  have hb : Below W.heap.size W (W.alloc (.cells #[.int .u32 u] t)) := (Below.refl _ _).alloc (Nat.le_refl _) _
  have h := finite_any (some ⟨W.heap.size, 0, none⟩) 1 1 [u] (W.alloc (.cells #[.int .u32 u] t)) ⟨⟨by simp, by omega⟩, fun _ => ⟨_, rfl, by simp, fun i hi => by
    match i, hi with
    | 0, _ => simp [Addr.add]⟩, fun i hi => by
    match i, hi with
    | 0, _ => exact ⟨h0, h1⟩⟩ (by omega)
  refine h.mono ?_
  rintro e w' ⟨v, rfl, hu, hbw⟩
  refine ⟨?_, below_chain hb hbw (by simp)⟩
  have hfz : fz [u] 1 = if u / 8388608 % 256 = 255 then [] else [u] := by
    by_cases e : u / 8388608 % 256 = 255
    · rw [if_pos e]; simp [fz, e]
    · rw [if_neg e]; simp [fz, e]
  have hiff : u / 8388608 % 256 = 255 ↔ ¬ u % 2147483648 < 2139095040 := by omega
  rw [hfz] at hu
  obtain ⟨g1, g2⟩ := hu
  by_cases e : u / 8388608 % 256 = 255
  · rw [if_pos e] at g2
    rcases g2 with ⟨rfl, g0⟩ | ⟨g, cap, cur, rfl, g3, g4, g5, g6, g7⟩
    · exact ⟨none, 0, 0, rfl, ⟨fun _ => hiff.1 e, fun _ => rfl⟩⟩
    · exact ⟨_, _, _, rfl, ⟨fun _ => hiff.1 e, fun _ => rfl⟩⟩
  · rw [if_neg e] at g2
    have hf : u % 2147483648 < 2139095040 := by omega
    rcases g2 with ⟨rfl, g0⟩ | ⟨g, cap, cur, rfl, g3, g4, g5, g6, g7⟩
    · simp at g0
    · refine ⟨_, _, _, rfl, ⟨fun h => ?_, fun h => absurd hf h⟩⟩
      simp at h
end Ty
end Go.Proofs.YtbnmjmlcedkoaabGreatDoor
