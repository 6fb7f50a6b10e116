import Derived.Test.YtbbpnlflihhflaaDoorHxP
namespace Go.Proofs.YtbbpnlflihhflaaDoor
namespace Hx
open Go.RowKit
set_option linter.unusedVariables false
theorem ca_hit (c : UInt8) (A B : List UInt8) (h : ∀ b ∈ A, b ≠ c) : ca c (A ++ c :: B) = A ∧ cb c (A ++ c :: B) = B := by
  induction A with
  | nil => simp [ca, cb]
  | cons a A ih =>
    obtain ⟨e1, e2⟩ := ih (fun b hb => h b (List.mem_cons_of_mem _ hb))
    have ha : a ≠ c := h a (by simp)
    simp [ca, cb, ha, e1, e2]
theorem ca_miss (c : UInt8) (A : List UInt8) (h : ∀ b ∈ A, b ≠ c) : ca c A = A ∧ cb c A = [] := by
  induction A with
  | nil => simp [ca, cb]
  | cons a A ih =>
    obtain ⟨e1, e2⟩ := ih (fun b hb => h b (List.mem_cons_of_mem _ hb))
    have ha : a ≠ c := h a (by simp)
    simp [ca, cb, ha, e1, e2]
theorem dg_ne_all : ∀ d : Fin 16, dg d.val ≠ 112 ∧ dg d.val ≠ 46 ∧ dg d.val ≠ 45 := by decide +kernel
theorem dg_ne (d : Nat) (h : d < 16) : dg d ≠ 112 ∧ dg d ≠ 46 ∧ dg d ≠ 45 := dg_ne_all ⟨d, h⟩
theorem pre_sgn (u : Int) (c : UInt8) (r : List UInt8) (h : c ≠ 45) : Lib.hasPrefix (sgn u ++ c :: r) [45] = decide (2147483648 ≤ u) ∧ Lib.trimPrefix (sgn u ++ c :: r) [45] = c :: r := by
  unfold sgn
  by_cases hs : 2147483648 ≤ u
  · rw [if_pos hs]
    simp [Lib.trimPrefix, Lib.hasPrefix, hs]
  · rw [if_neg hs]
    have e : Lib.hasPrefix (c :: r) [45] = false := by
      show ((45 : UInt8) == c && List.isPrefixOf [] r) = false
      rw [beq_eq_false_iff_ne.2 (Ne.symm h)]; rfl
    rw [List.nil_append]
    unfold Lib.trimPrefix
    rw [e]
    simp [hs]
theorem sg_dec (u : Int) (h0 : 0 ≤ u) (h1 : u < 4294967296) : Rd.sg (decide (2147483648 ≤ u)) + u % 2147483648 = u := by
  unfold Rd.sg
  by_cases hs : 2147483648 ≤ u
  · simp [hs]; omega
  · simp [hs]; omega
theorem m0_e0 (s : Int) (h0 : 0 < s) (h1 : s < 2139095040) : (Cl.E0 s + 149) * 8388608 + Cl.M0 s = s ∧ -149 ≤ Cl.E0 s ∧ Cl.E0 s ≤ 104 ∧ (Cl.E0 s = -149 ∨ 8388608 ≤ Cl.M0 s) ∧ 0 < Cl.M0 s ∧ Cl.M0 s < 16777216 := by
  by_cases h : s / 8388608 = 0
  · have e1 : Cl.E0 s = -149 := by unfold Cl.E0; rw [if_pos h]
    have e2 : Cl.M0 s = s := by unfold Cl.M0; rw [if_pos h]
    rw [e1, e2]
    exact ⟨by omega, by omega, by omega, .inl rfl, by omega, by omega⟩
  · have e1 : Cl.E0 s = s / 8388608 - 150 := by unfold Cl.E0; rw [if_neg h]
    have e2 : Cl.M0 s = s % 8388608 + 8388608 := by unfold Cl.M0; rw [if_neg h]
    rw [e1, e2]
    exact ⟨by omega, by omega, by omega, .inr (by omega), by omega, by omega⟩
theorem pm_pe (u : Int) (hf : u % 2147483648 < 2139095040) (hz : 0 < u % 2147483648) : ∃ z : Nat, Cl.M0 (u % 2147483648) = Cl.pm u * 2 ^ z ∧ Cl.E0 (u % 2147483648) = Cl.pe u - z := by
  obtain ⟨-, hm, he, -⟩ := Cl.p_fin u hf (by omega)
  obtain ⟨_, _, _, _, b1, b2⟩ := m0_e0 _ hz hf
  obtain ⟨n, hn⟩ := Int.eq_ofNat_of_zero_le (show 0 ≤ Cl.M0 (u % 2147483648) by omega)
  rw [hn] at hm
  obtain ⟨h2, j, hj⟩ := Cl.tz_spec 32 n (by omega) (by omega)
  have hT : (n : Int).toNat = n := by omega
  rw [hT] at hm
  have hd0 : ∀ z, n = 2 ^ z * (2 * j + 1) → n / 2 ^ z = 2 * j + 1 := fun z hz => by rw [hz]; exact Nat.mul_div_cancel_left _ (Nat.two_pow_pos z)
  have hd := hd0 _ hj
  have e : (n : Int) / 2 ^ Cl.tz n 32 = ((n / 2 ^ Cl.tz n 32 : Nat) : Int) := by simp
  rw [e, hd] at hm
  have he2 : Cl.tzI (Cl.M0 (u % 2147483648)) = (Cl.tz n 32 : Int) := by unfold Cl.tzI; rw [hn, hT]
  rw [he2] at he
  refine ⟨Cl.tz n 32, ?_, by omega⟩
  rw [hn, hm]
  have : (n : Int) = ((2 ^ Cl.tz n 32 * (2 * j + 1) : Nat) : Int) := by rw [← hj]
  rw [this]; push_cast; exact Int.mul_comm _ _
/-- The digits of a number that is no whole power: what reading them gives. -/
theorem fin_read (u : Int) (h0 : 0 ≤ u) (h1 : u < 4294967296) (hf : u % 2147483648 < 2139095040) (hz : 0 < u % 2147483648) :
    ∃ (es : List Nat) (k : Nat), frac (lead (Cl.pm u)) = es.map dg ∧ (∀ d ∈ es, d < 16) ∧ es.length + k = 6 ∧ vl 1 es < 33554432 ∧ -200 ≤ Cl.pe u + Rd.lg (Cl.pm u) ∧ Cl.pe u + Rd.lg (Cl.pm u) ≤ 200 ∧
      ∀ neg, Rd.rnd neg (vl 1 es : Int) (Cl.pe u + Rd.lg (Cl.pm u) - 4 * (es.length : Int)) = Rd.sg neg + u % 2147483648 := by
  obtain ⟨p0, p1, _, _⟩ := Cl_pm_b u h0 h1 hf (by omega)
  obtain ⟨g0, g1, f0, f1, hF⟩ := lead_b (Cl.pm u) p0 p1
  obtain ⟨es, k, e1, e2, e3, e4⟩ := frac_digs _ f0 f1
  obtain ⟨z, hz1, hz2⟩ := pm_pe u hf hz
  obtain ⟨a1, a2, a3, a4, a5, a6⟩ := m0_e0 _ hz hf
  have hlM : Rd.lg (Cl.M0 (u % 2147483648)) = Rd.lg (Cl.pm u) + z := by rw [hz1]; exact lg_mulI _ _ p0
  have hl23 := lg_23 _ a5 a6
  generalize Cl.M0 (u % 2147483648) = m at *
  generalize Cl.E0 (u % 2147483648) = e at *
  generalize Rd.lg m = g at *
  obtain ⟨q, hq⟩ : ∃ q : Nat, (q : Int) = 24 - g := ⟨(24 - g).toNat, by omega⟩
  have hk16 : 16 ^ k = 2 ^ (4 * k) := by rw [Nat.pow_mul]
  have hmain : (vl 1 es : Int) * 2 ^ (4 * k) = m * 2 ^ q := by
    have h9 : ((vl 1 es * 16 ^ k : Nat) : Int) = Cl.pm u * 2 ^ (24 - Rd.lg (Cl.pm u)).toNat := by rw [e4, hF]
    rw [hk16] at h9
    push_cast at h9
    rw [h9, hz1, Int.mul_assoc, ← Int.pow_add]
    congr 2
    omega
  have hp : ∀ t : Nat, (0 : Int) < 2 ^ t := fun t => by exact_mod_cast Nat.two_pow_pos t
  have hvl : vl 1 es < 33554432 := by
    have h8 : vl 1 es ≤ vl 1 es * 16 ^ k := Nat.le_mul_of_pos_right _ (Nat.pow_pos (by omega))
    omega
  refine ⟨es, k, e1, e2, e3, hvl, by omega, by omega, fun neg => ?_⟩
  rw [← a1]
  by_cases h4 : 4 * k ≤ q
  · refine rnd_exact neg m e _ _ (q - 4 * k) a5 a6 a2 a3 a4 (.inl ⟨?_, by omega, by omega⟩)
    have e9 : m * 2 ^ q = m * 2 ^ (q - 4 * k) * 2 ^ (4 * k) := by rw [Int.mul_assoc, ← Int.pow_add]; congr 2; omega
    rw [e9] at hmain
    exact Int.eq_of_mul_eq_mul_right (by have := hp (4 * k); omega) hmain
  · refine rnd_exact neg m e _ _ (4 * k - q) a5 a6 a2 a3 a4 (.inr ⟨?_, by omega, by omega⟩)
    have e9 : (vl 1 es : Int) * 2 ^ (4 * k) = (vl 1 es : Int) * 2 ^ (4 * k - q) * 2 ^ q := by rw [Int.mul_assoc, ← Int.pow_add]; congr 2; omega
    rw [e9] at hmain
    exact (Int.eq_of_mul_eq_mul_right (by have := hp q; omega) hmain).symm
end Hx
end Go.Proofs.YtbbpnlflihhflaaDoor
