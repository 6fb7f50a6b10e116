import Derived.Test.YtbbpnlflihhflaaDoorHxO
import Derived.Test.YtbbpnlflihhflaaDoorHxQ
namespace Go.Proofs.YtbbpnlflihhflaaDoor
namespace Hx
open Go.RowKit
set_option linter.unusedVariables false
theorem at_b (l : List UInt8) : -9223372036854775808 ≤ at_ l ∧ at_ l ≤ 9223372036854775807 := by
  unfold at_
  cases h : Lib.atoiAll l with
  | «syntax» => simp
  | range => simp only [Lib.atoiSat]; split <;> omega
  | ok v =>
    simp only
    unfold Lib.atoiAll at h
    cases l with
    | nil => simp at h
    | cons c r =>
      simp only at h
      split at h
      · cases h
      · cases h
      · rename_i u _
        split at h
        · cases h
        · split at h
          · cases h
          · injection h with h
            split at h <;> omega
theorem dec_to (d : Nat) (h : d < 10) : (UInt8.ofNat (48 + d)).toNat = 48 + d := by simp; omega
theorem pu_step (acc d : Nat) (r : List UInt8) (hd : d < 10) (ha : acc < 1000000) : Lib.parseUint10 acc (UInt8.ofNat (48 + d) :: r) = Lib.parseUint10 (acc * 10 + d) r := by
  rw [Lib.parseUint10, dec_to d hd, if_pos (by omega), if_neg (by omega), if_neg (by omega), show 48 + d - 48 = d by omega]
theorem dd_lt (n : Nat) (h : n < 10) : Lib.decDigits n = [UInt8.ofNat (48 + n)] := by rw [Lib.decDigits, dif_pos h]
theorem dd_ge (n : Nat) (h : ¬ n < 10) : Lib.decDigits n = Lib.decDigits (n / 10) ++ [UInt8.ofNat (48 + n % 10)] := by rw [Lib.decDigits, dif_neg h]
theorem mag_dec (n : Nat) (h : n < 1000) : Lib.parseMag (Lib.decDigits n) = .ok n := by
  unfold Lib.parseMag
  by_cases h1 : n < 10
  · rw [dd_lt n h1, if_neg (by simp), pu_step 0 n _ h1 (by omega), Lib.parseUint10]; congr 1; omega
  · by_cases h2 : n < 100
    · rw [dd_ge n h1, dd_lt _ (by omega), if_neg (by simp)]
      simp only [List.cons_append, List.nil_append]
      rw [pu_step 0 _ _ (by omega) (by omega), pu_step _ _ _ (by omega) (by omega), Lib.parseUint10]; congr 1; omega
    · rw [dd_ge n h1, dd_ge (n / 10) (by omega), dd_lt _ (by omega), if_neg (by simp)]
      simp only [List.cons_append, List.nil_append]
      rw [pu_step 0 _ _ (by omega) (by omega), pu_step _ _ _ (by omega) (by omega), pu_step _ _ _ (by omega) (by omega), Lib.parseUint10]; congr 1; omega
theorem at_px (e : Int) (h0 : -1000 < e) (h1 : e < 1000) : at_ (px e) = e := by
  unfold px
  by_cases h : 0 ≤ e
  · rw [if_pos h, itoa_pos e h]
    have hm := mag_dec e.toNat (by omega)
    unfold at_ Lib.atoiAll
    simp [hm]
    rw [if_neg (by omega)]
    simp
    omega
  · rw [if_neg h, List.nil_append]
    have hm := mag_dec e.natAbs (by omega)
    have hi : Lib.itoa e = 45 :: Lib.decDigits e.natAbs := by unfold Lib.itoa; rw [if_pos (by omega)]
    rw [hi]
    unfold at_ Lib.atoiAll
    simp [hm]
    rw [if_neg (by omega)]
    simp
    omega
/-- The number of hexadecimal digits. -/
def vl (acc : Nat) (ds : List Nat) : Nat := ds.foldl (fun a d => a * 16 + d) acc
theorem vl_app (acc : Nat) (ds es : List Nat) : vl acc (ds ++ es) = vl (vl acc ds) es := by simp [vl]
theorem vl_ge (acc : Nat) (ds : List Nat) : acc ≤ vl acc ds := by
  induction ds generalizing acc with
  | nil => exact Nat.le_refl _
  | cons d ds ih => have := ih (acc * 16 + d); simp only [vl, List.foldl_cons] at this ⊢; omega
theorem vl_zeros (acc k : Nat) : vl acc (List.replicate k 0) = acc * 16 ^ k := by
  induction k generalizing acc with
  | zero => simp [vl]
  | succ k ih =>
    rw [List.replicate_succ]
    have := ih (acc * 16 + 0)
    simp only [vl, List.foldl_cons] at this ⊢
    rw [this, Nat.add_zero, Nat.pow_succ, Nat.mul_assoc, Nat.mul_comm 16]
theorem hv_all : ∀ d : Fin 16, hv (dg d.val) = some d.val := by decide +kernel
theorem hv_dg (d : Nat) (h : d < 16) : hv (dg d) = some d := hv_all ⟨d, h⟩
theorem pv_digs (M : Nat) (ds : List Nat) (acc : Nat) (hd : ∀ d ∈ ds, d < 16) (h1 : vl acc ds < 1152921504606846976) (h2 : vl acc ds ≤ M) : pv M acc (ds.map dg) = (vl acc ds, 0) := by
  induction ds generalizing acc with
  | nil => simp [vl, pv]
  | cons d ds ih =>
    have hg := vl_ge (acc * 16 + d) ds
    have e : vl acc (d :: ds) = vl (acc * 16 + d) ds := rfl
    rw [e] at h1 h2 ⊢
    rw [List.map_cons, pv_go M acc d _ _ (hv_dg d (hd d (by simp))) (by omega)]
    exact ih _ (fun x hx => hd x (List.mem_cons_of_mem _ hx)) h1 h2
theorem hx_digs (n : Nat) : ∃ ds : List Nat, hx n = ds.map dg ∧ (∀ d ∈ ds, d < 16) ∧ vl 0 ds = n ∧ ds ≠ [] := by
  induction n using Nat.strongRecOn with
  | _ n ih =>
    by_cases h : n < 16
    · exact ⟨[n], by rw [hx_lt n h]; rfl, by simpa using h, by simp [vl], by simp⟩
    · obtain ⟨ds, h1, h2, h3, h4⟩ := ih (n / 16) (by omega)
      refine ⟨ds ++ [n % 16], by rw [hx_ge n h, h1]; simp, fun d hd => ?_, ?_, by simp⟩
      · rcases List.mem_append.1 hd with hd | hd
        · exact h2 d hd
        · simp at hd; omega
      · rw [vl_app, h3]; simp [vl]; omega
theorem pn_hx (M n : Nat) (h1 : n ≤ M) (h2 : n < 1152921504606846976) : pn M (hx n) = n := by
  obtain ⟨ds, e, hd, hv, hne⟩ := hx_digs n
  rw [e, pn, if_neg (by simpa using hne), pv_digs M ds 0 hd (by omega) (by omega), hv]
theorem dg_zero_all : ∀ d : Fin 16, dg d.val = 48 → d.val = 0 := by decide +kernel
theorem dg_zero (d : Nat) (h : d < 16) (e : dg d = 48) : d = 0 := dg_zero_all ⟨d, h⟩ e
theorem trim_digs (n : Nat) : ∀ ds : List Nat, ds.length = n → (∀ d ∈ ds, d < 16) → ∃ (es : List Nat) (k : Nat), Lib.trimRightB (ds.map dg) 48 = es.map dg ∧ ds = es ++ List.replicate k 0 := by
  induction n with
  | zero => intro ds h _; obtain rfl := List.length_eq_zero_iff.1 h; exact ⟨[], 0, rfl, rfl⟩
  | succ n ih =>
    intro ds h hd
    rcases List.eq_nil_or_concat ds with rfl | ⟨xs, d, rfl⟩
    · simp at h
    · simp only [List.concat_eq_append] at *
      have hx : ∀ d ∈ xs, d < 16 := fun x hx => hd x (List.mem_append_left _ hx)
      by_cases h0 : d = 0
      · subst h0
        obtain ⟨es, k, e1, e2⟩ := ih xs (by simpa using h) hx
        refine ⟨es, k + 1, ?_, ?_⟩
        · rw [List.map_append, show [0].map dg = [48] by decide, trim_snoc]; exact e1
        · rw [List.replicate_succ', ← List.append_assoc, ← e2]
      · refine ⟨xs ++ [d], 0, ?_, by simp⟩
        rw [List.map_append]
        exact trim_keep _ _ _ (fun e => h0 (dg_zero d (hd d (by simp)) e))
/-- The digits behind the point. -/
theorem frac_digs (F : Nat) (h0 : 16777216 ≤ F) (h1 : F < 33554432) : ∃ (es : List Nat) (k : Nat), frac F = es.map dg ∧ (∀ d ∈ es, d < 16) ∧ es.length + k = 6 ∧ vl 1 es * 16 ^ k = F := by
  obtain ⟨f, rfl⟩ : ∃ f, F = 16777216 + f := ⟨F - 16777216, by omega⟩
  have hf : f < 16777216 := by omega
  unfold frac
  rw [hx_seven f hf]
  have e : six f = [f / 1048576 % 16, f / 65536 % 16, f / 4096 % 16, f / 256 % 16, f / 16 % 16, f % 16].map dg := rfl
  have hd : ∀ d ∈ [f / 1048576 % 16, f / 65536 % 16, f / 4096 % 16, f / 256 % 16, f / 16 % 16, f % 16], d < 16 := fun d hd => by
    simp at hd
    omega
  obtain ⟨es, k, e1, e2⟩ := trim_digs 6 _ rfl hd
  rw [e]
  refine ⟨es, k, e1, fun d h => hd d (by rw [e2]; exact List.mem_append_left _ h), ?_, ?_⟩
  · have := congrArg List.length e2
    simp at this
    omega
  · rw [← vl_zeros, ← vl_app, ← e2]
    simp [vl]
    omega
end Hx
end Go.Proofs.YtbbpnlflihhflaaDoor
