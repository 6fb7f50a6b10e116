import Derived.Test.YtbbpnlflihhflaaDoorHxH
import Derived.Laws.Strings3
namespace Go.Proofs.YtbbpnlflihhflaaDoor
namespace Hx
open Go.RowKit
set_option linter.unusedVariables false
theorem hx_len1 (n : Nat) : 1 ≤ (hx n).length := by
  by_cases h : n < 16
  · rw [hx_lt n h]; simp
  · rw [hx_ge n h]; simp
theorem hx_len (k n : Nat) (h : n < 16 ^ k) : (hx n).length ≤ max k 1 := by
  induction k generalizing n with
  | zero => rw [hx_lt n (by simp at h; omega)]; simp
  | succ k ih =>
    by_cases h2 : n < 16
    · rw [hx_lt n h2]; simp
    · rw [hx_ge n h2]
      have := ih (n / 16) (by rw [Nat.pow_succ] at h; omega)
      simp
      rcases k with _ | k
      · simp at h; omega
      · omega
theorem trim_len (l : List UInt8) (c : UInt8) : (Lib.trimRightB l c).length ≤ l.length := by
  unfold Lib.trimRightB
  rw [List.length_reverse]
  have := (List.dropWhile_sublist (l := l.reverse) (· == c)).length_le
  simpa using this
theorem empty_iff (t : List UInt8) : (bs t).toList.isEmpty = decide (t = []) := by
  rw [← decide_eq_emptyBytes]
  congr 1
  exact propext ⟨fun h => by have := congrArg (fun x => x.data.toList) h; simpa [bs_data] using this, fun h => by rw [h]; rfl⟩
set_option maxHeartbeats 800000 in
theorem normal_any (m e : Int) (h0 : 0 < m) (h1 : m < 16777216) (e0 : -1000 ≤ e) (e1 : e ≤ 1000) (w : World) (ht : Tb w) :
    Calls Tryd.prog 15 #[.int .u32 m, .int .i64 e] w fun r w' => r = .returned (.tuple #[.string (bs (48 :: 120 :: 49 :: dot (frac (lead m)) ++ [112])), .int .i64 (e + Rd.lg m)]) ∧ Below w.heap.size w w' := by
  obtain ⟨g0, g1, f0, f1, hF⟩ := lead_b m h0 h1
  have HL : Hid (∀ W, Calls Tryd.prog 33 #[.int .u32 m] W fun r W' => r = .returned (.int .i64 (Rd.lg m + 1)) ∧ W' = W) := fun W => by
    have := len32_any m (by omega) (by omega) W
    rwa [show Rd.len m = Rd.lg m + 1 by unfold Rd.len; rw [if_neg (by omega)]] at this
  have hx1 := hx_len1 (lead m)
  have hx7 : (hx (lead m)).length ≤ 7 := by have := hx_len 7 (lead m) (by omega); omega
  have HF : Hid (∀ W, Tb W → Calls Tryd.prog 21 #[.int .u64 (lead m : Int), .int .i64 16] W fun r W' => r = .returned (.string (bs (hx (lead m)))) ∧ Below W.heap.size W W') := fun W hW => fmt_any (lead m) (by omega) W hW.t64
  have HT : Hid (∀ W, Calls Tryd.prog 34 #[.string ((bs (hx (lead m))).extract 1 (bs (hx (lead m))).size), .string ⟨#[48]⟩] W fun r W' => r = .returned (.string (bs (frac (lead m)))) ∧ W' = W) := fun W => by
    rw [bs_ext2]
    exact trimR _ (by simp; omega) W
  have hsz := bs_size (hx (lead m))
  have htl : (frac (lead m)).length ≤ 7 := by
    have := trim_len ((hx (lead m)).drop 1) 48
    unfold frac
    simp at this ⊢
    omega
  have hts := bs_size (frac (lead m))
  have hte := empty_iff (frac (lead m))
  generalize frac (lead m) = t at *
  generalize bs (hx (lead m)) = s at *
  have hs1 : 1 ≤ s.size := by omega
  have hshl : IntKind.u64.wrap (m * 2 ^ (24 - Rd.lg m).toNat) = (lead m : Int) := by rw [← hF, IntKind.wrap_u64]; omega
  generalize (lead m : Int) = F at *
  generalize Rd.lg m = g at *
  clear hF f0 f1 hx1 hx7 hsz
  have hts7 : (bs t).size ≤ 7 := by omega
  clear hts htl
  by_cases h8 : t = []
  · have hE : (bs t).toList.isEmpty = true := by rw [hte]; exact decide_eq_true h8
    have H8 : Hid (t = []) := h8
    clear hte h8
    go_enter Tryd.func15, Tryd.ntmps15
    go_wp2_with (first | (go_at_call 33; refine (HL.out _).mono ?_; rintro e9 w9 ⟨rfl, hw9⟩; subst w9) | (go_at_call 21; refine (HF.out _ ht).mono ?_; rintro e9 w1 ⟨rfl, hb⟩) | (go_at_call 34; refine (HT.out _).mono ?_; rintro e9 w9 ⟨rfl, hw9⟩; subst w9))
    go_ret2
    exact ⟨by rw [H8.out]; rfl, hb⟩
  · have hE : (bs t).toList.isEmpty = false := by rw [hte]; exact decide_eq_false h8
    clear hte
    go_enter Tryd.func15, Tryd.ntmps15
    go_wp2_with (first | (go_at_call 33; refine (HL.out _).mono ?_; rintro e9 w9 ⟨rfl, hw9⟩; subst w9) | (go_at_call 21; refine (HF.out _ ht).mono ?_; rintro e9 w1 ⟨rfl, hb⟩) | (go_at_call 34; refine (HT.out _).mono ?_; rintro e9 w9 ⟨rfl, hw9⟩; subst w9))
    go_ret2
    refine ⟨?_, hb⟩
    have e1 : ({ data := #[48, 120, 49, 46] } : ByteArray) = bs [48, 120, 49, 46] := rfl
    have e2 : ({ data := #[112] } : ByteArray) = bs [112] := rfl
    rw [e1, e2, bs_append, bs_append, dot, if_neg h8]; rfl
end Hx
end Go.Proofs.YtbbpnlflihhflaaDoor
