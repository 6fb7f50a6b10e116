import Derived.Test.YtbbpnlflihhflaaDoorHxR
namespace Go.Proofs.YtbbpnlflihhflaaDoor
namespace Hx
open Go.RowKit
set_option linter.unusedVariables false
theorem bs_toList (l : List UInt8) : (bs l).toList = l := by
  rw [ByteArray.toList_eq]; exact bs_data l
theorem tp_len (l p : List UInt8) : (Lib.trimPrefix l p).length ≤ l.length := by
  unfold Lib.trimPrefix
  split
  · rw [List.length_drop]; omega
  · exact Nat.le_refl _
theorem ca_len (c : UInt8) (l : List UInt8) : (ca c l).length ≤ l.length ∧ (cb c l).length ≤ l.length ∧ (ca c l).length + (cb c l).length ≤ l.length := by
  rcases cut_all c l with ⟨_, h1, h2⟩ | ⟨h, _⟩
  · rw [h1, h2]; simp
  · have := congrArg List.length h
    simp at this
    omega
theorem pv_le (M acc : Nat) (l : List UInt8) (h : acc ≤ M) : (pv M acc l).1 ≤ M := by
  induction l generalizing acc with
  | nil => simpa [pv] using h
  | cons c l ih =>
    rw [pv]
    cases hv c with
    | none => simp
    | some d =>
      simp only
      split
      · simp
      · exact ih _ (by omega)
theorem pn_le (M : Nat) (l : List UInt8) : pn M l ≤ M := by
  unfold pn; split
  · omega
  · exact pv_le M 0 l (by omega)
theorem or_inf (s : Int) (hs : s = 0 ∨ s = 2147483648) : bits .or .u32 s 2139095040 = s + 2139095040 := Rd.or_u32 s 2139095040 hs (by omega) (by omega)
theorem or_nan (s f : Int) (hs : s = 0 ∨ s = 2147483648) (h0 : 0 ≤ f) (h1 : f < 8388608) : bits .or .u32 (s + 2139095040) f = s + 2139095040 + f := by
  refine bits_join .u32 32 (by decide) (fun n a b => by rw [IntKind.wrap_u32]; omega) 23 (s + 2139095040) f ?_ ?_ ?_ h0 (by omega) (by omega) <;> rcases hs with rfl | rfl <;> decide
/-- What likelyHex answers. -/
def lk (l : List UInt8) : Int :=
  if Lib.trimPrefix l [45] = [105, 110, 102] then Rd.sg (Lib.hasPrefix l [45]) + 2139095040
  else if Lib.hasPrefix (Lib.trimPrefix l [45]) [110, 97, 110, 58] = true then Rd.sg (Lib.hasPrefix l [45]) + 2139095040 + (pn 8388607 (Lib.trimPrefix (Lib.trimPrefix l [45]) [110, 97, 110, 58]) : Int)
  else Rd.rnd (Lib.hasPrefix l [45]) (pn 18446744073709551615 (ca 46 (ca 112 (Lib.trimPrefix (Lib.trimPrefix l [45]) [48, 120])) ++ cb 46 (ca 112 (Lib.trimPrefix (Lib.trimPrefix l [45]) [48, 120]))) : Int)
    (wrap64 (at_ (cb 112 (Lib.trimPrefix (Lib.trimPrefix l [45]) [48, 120])) - 4 * ((cb 46 (ca 112 (Lib.trimPrefix (Lib.trimPrefix l [45]) [48, 120]))).length : Int)))
set_option maxRecDepth 100000 in
set_option maxHeartbeats 1000000 in
theorem likely_any (l : List UInt8) (hl : l.length ≤ 140737488351232) (w : World) (ht : Tb w) :
    Calls Tryd.prog 9 #[.string (bs l)] w fun r w' => r = .returned (.int .u32 (lk l)) ∧ Below w.heap.size w w' := by
  have HL : Hid (lk l = lk l) := rfl
  unfold lk
  have HC : Hid (∀ W, Calls Tryd.prog 23 #[.string (bs l), .string ⟨#[45]⟩] W fun e w' => e = .returned (.tuple #[.string (bs (Lib.trimPrefix l [45])), .bool (Lib.hasPrefix l [45])]) ∧ w' = W) := fun W => cutP l [45] W
  have hbl := tp_len l [45]
  generalize Lib.trimPrefix l [45] = b at *
  generalize Lib.hasPrefix l [45] = n at *
  have hss : Rd.sg n = 0 ∨ Rd.sg n = 2147483648 := by cases n <;> simp [Rd.sg]
  by_cases h1 : b = [105, 110, 102]
  · rw [if_pos h1]
    have hq : ((bs b).toList == [105, 110, 102]) = true := by rw [bs_toList, h1]; rfl
    clear HL hl hbl hss h1
    cases n
    · rw [show Rd.sg false + 2139095040 = 2139095040 from rfl]
      have o0 : bits BinOp.or IntKind.u32 0 2139095040 = 2139095040 := or_inf 0 (.inl rfl)
      go_enter Tryd.func9, Tryd.ntmps9
      go_wp2_with (fail)
      refine (HC.out _).mono ?_
      rintro e1 w1 ⟨rfl, h1⟩
      subst w1
      clear HC
      go_wp2
      go_ret
      exact ⟨rfl, Below.refl _ _⟩
    · rw [show Rd.sg true + 2139095040 = 4286578688 from rfl]
      have o0 : bits BinOp.or IntKind.u32 2147483648 2139095040 = 4286578688 := or_inf 2147483648 (.inr rfl)
      go_enter Tryd.func9, Tryd.ntmps9
      go_wp2_with (fail)
      refine (HC.out _).mono ?_
      rintro e1 w1 ⟨rfl, h1⟩
      subst w1
      clear HC
      go_wp2
      go_ret
      exact ⟨rfl, Below.refl _ _⟩
  · rw [if_neg h1]
    have hq : ((bs b).toList == [105, 110, 102]) = false := by
      rw [bs_toList, beq_eq_false_iff_ne]; exact h1
    have HC2 : Hid (∀ W, Calls Tryd.prog 23 #[.string (bs b), .string ⟨#[110, 97, 110, 58]⟩] W fun e w' => e = .returned (.tuple #[.string (bs (Lib.trimPrefix b [110, 97, 110, 58])), .bool (Lib.hasPrefix b [110, 97, 110, 58])]) ∧ w' = W) := fun W => cutP b [110, 97, 110, 58] W
    by_cases h2 : Lib.hasPrefix b [110, 97, 110, 58] = true
    · rw [if_pos h2]
      rw [h2] at HC2
      have hdl := tp_len b [110, 97, 110, 58]
      generalize Lib.trimPrefix b [110, 97, 110, 58] = d at *
      have HP : Hid (∀ W, Tb W → Calls Tryd.prog 24 #[.string (bs d), .int .i64 16, .int .i64 23] W fun e w' => ∃ q, e = .returned (.tuple #[.int .u64 (pn 8388607 d), q]) ∧ Below W.heap.size W w') := fun W hW => parse23 d (by omega) W hW
      have hle := pn_le 8388607 d
      generalize pn 8388607 d = f at *
      have wf : IntKind.u32.wrap (f : Int) = (f : Int) := by rw [IntKind.wrap_u32]; omega
      have HT : Hid (Tb w) := ht
      clear HL hl hbl hss h1 h2 hdl ht
      cases n
      · rw [show Rd.sg false + 2139095040 = 2139095040 from rfl]
        have o0 : bits BinOp.or IntKind.u32 0 2139095040 = 2139095040 := or_inf 0 (.inl rfl)
        have o1 : bits BinOp.or IntKind.u32 2139095040 (f : Int) = 2139095040 + (f : Int) := or_nan 0 (f : Int) (.inl rfl) (by omega) (by omega)
        go_enter Tryd.func9, Tryd.ntmps9
        go_wp2_with (fail)
        refine (HC.out _).mono ?_
        rintro e1 w1 ⟨rfl, h1⟩
        subst w1
        clear HC
        go_wp2_with (fail)
        refine (HC2.out _).mono ?_
        rintro e1 w1 ⟨rfl, h1⟩
        subst w1
        clear HC2
        go_wp2_with (fail)
        refine (HP.out _ HT.out).mono ?_
        rintro e1 w1 ⟨q, rfl, hb1⟩
        clear HP HT
        go_wp2
        go_ret
        exact ⟨rfl, hb1⟩
      · rw [show Rd.sg true + 2139095040 = 4286578688 from rfl]
        have o0 : bits BinOp.or IntKind.u32 2147483648 2139095040 = 4286578688 := or_inf 2147483648 (.inr rfl)
        have o1 : bits BinOp.or IntKind.u32 4286578688 (f : Int) = 4286578688 + (f : Int) := or_nan 2147483648 (f : Int) (.inr rfl) (by omega) (by omega)
        go_enter Tryd.func9, Tryd.ntmps9
        go_wp2_with (fail)
        refine (HC.out _).mono ?_
        rintro e1 w1 ⟨rfl, h1⟩
        subst w1
        clear HC
        go_wp2_with (fail)
        refine (HC2.out _).mono ?_
        rintro e1 w1 ⟨rfl, h1⟩
        subst w1
        clear HC2
        go_wp2_with (fail)
        refine (HP.out _ HT.out).mono ?_
        rintro e1 w1 ⟨q, rfl, hb1⟩
        clear HP HT
        go_wp2
        go_ret
        exact ⟨rfl, hb1⟩
    · rw [if_neg h2]
      rw [show Lib.hasPrefix b [110, 97, 110, 58] = false by simpa using h2] at HC2
      have htl := tp_len b [48, 120]
      have HC3 : Hid (∀ W, Calls Tryd.prog 26 #[.string (bs b), .string ⟨#[48, 120]⟩] W fun e w' => e = .returned (.string (bs (Lib.trimPrefix b [48, 120]))) ∧ w' = W) := fun W => trimP b [48, 120] W
      generalize Lib.trimPrefix b [48, 120] = t at *
      have c1 := ca_len 112 t
      have HC4 : Hid (∀ W, Calls Tryd.prog 25 #[.string (bs t), .string ⟨#[112]⟩] W fun e w' => (∃ p : Bool, e = .returned (.tuple #[.string (bs (ca 112 t)), .string (bs (cb 112 t)), .bool p])) ∧ Below W.heap.size W w') := fun W => cut_any t 112 (by omega) W
      generalize ca 112 t = x at *
      generalize cb 112 t = y at *
      have c2 := ca_len 46 x
      have HC5 : Hid (∀ W, Calls Tryd.prog 25 #[.string (bs x), .string ⟨#[46]⟩] W fun e w' => (∃ p : Bool, e = .returned (.tuple #[.string (bs (ca 46 x)), .string (bs (cb 46 x)), .bool p])) ∧ Below W.heap.size W w') := fun W => cut_any x 46 (by omega) W
      generalize ca 46 x = x1 at *
      generalize cb 46 x = x2 at *
      have HP : Hid (∀ W, Tb W → Calls Tryd.prog 24 #[.string (bs (x1 ++ x2)), .int .i64 16, .int .i64 64] W fun e w' => ∃ q, e = .returned (.tuple #[.int .u64 (pn 18446744073709551615 (x1 ++ x2)), q]) ∧ Below W.heap.size W w') := fun W hW => parse64 (x1 ++ x2) (by rw [List.length_append]; omega) W hW
      have hle := pn_le 18446744073709551615 (x1 ++ x2)
      generalize pn 18446744073709551615 (x1 ++ x2) = M at *
      have HA : Hid (∀ W, Tb W → Calls Tryd.prog 27 #[.string (bs y)] W fun e w' => ∃ q, e = .returned (.tuple #[.int .i64 (at_ y), q]) ∧ Below W.heap.size W w') := fun W hW => atoi_any y (by omega) W hW
      have hab := at_b y
      generalize at_ y = E at *
      have hx2 : x2.length ≤ 140737488351232 := by omega
      have hsz := bs_size x2
      have hwb : ∀ z : Int, -9223372036854775808 ≤ wrap64 z ∧ wrap64 z ≤ 9223372036854775807 := fun z => by simp only [wrap64]; omega
      have HRD : Hid (∀ W, Calls Tryd.prog 28 #[.bool n, .int .u64 (M : Int), .int .i64 (wrap64 (E - 4 * (x2.length : Int)))] W fun e' w' => e' = .returned (.int .u32 (Rd.rnd n M (wrap64 (E - 4 * (x2.length : Int))))) ∧ ∃ k, w' = W.drewN k) := fun W => Rd.round_any n M _ (by omega) (by omega) (hwb _).1 (hwb _).2 W
      have e12 : bs x1 ++ bs x2 = bs (x1 ++ x2) := bs_append x1 x2
      have HT : Hid (Tb w) := ht
      have s1 := bs_size x1
      have s0 : (bs x1).size + (bs x2).size ≤ 140737488351232 := by omega
      have hx3 : (x2.length : Int) ≤ 140737488351232 := by omega
      clear HL hl hbl hss h1 h2 htl ht c1 c2 hab hle hwb hx2 s1
      generalize Rd.rnd n (M : Int) (wrap64 (E - 4 * (x2.length : Int))) = RES at *
      cases n
      · go_enter Tryd.func9, Tryd.ntmps9
        go_wp2_with (fail)
        refine (HC.out _).mono ?_
        rintro e1 w1 ⟨rfl, h1⟩
        subst w1
        clear HC
        go_wp2_with (fail)
        refine (HC2.out _).mono ?_
        rintro e1 w1 ⟨rfl, h1⟩
        subst w1
        clear HC2
        go_wp2_with (fail)
        refine (HC3.out _).mono ?_
        rintro e1 w1 ⟨rfl, h1⟩
        subst w1
        clear HC3
        go_wp2_with (fail)
        refine (HC4.out _).mono ?_
        rintro e1 w4 ⟨⟨p4, rfl⟩, hb4⟩
        clear HC4
        go_wp2_with (fail)
        refine (HC5.out _).mono ?_
        rintro e1 w5 ⟨⟨p5, rfl⟩, hb5⟩
        clear HC5
        replace hb5 := hb4.trans (hb5.mono hb4.size)
        replace HT : Hid (Tb w5) := HT.out.on hb5 (Nat.le_refl _)
        clear hb4
        go_wp2_with (fail)
        refine (HP.out _ HT.out).mono ?_
        rintro e1 w6 ⟨q6, rfl, hb6⟩
        clear HP
        replace HT : Hid (Tb w6) := HT.out.on hb6 (Nat.le_refl _)
        replace hb6 := hb5.trans (hb6.mono hb5.size)
        clear hb5
        go_wp2_with (fail)
        refine (HA.out _ HT.out).mono ?_
        rintro e1 w7 ⟨q7, rfl, hb7⟩
        clear HA HT
        replace hb7 := hb6.trans (hb7.mono hb6.size)
        clear hb6
        go_wp2_with (fail)
        refine (HRD.out _).mono ?_
        rintro e1 w8 ⟨rfl, k8, h8⟩
        subst h8
        clear HRD
        go_wp2
        go_ret
        exact ⟨rfl, ⟨hb7.os, hb7.tape, hb7.output, hb7.size, hb7.block⟩⟩
      · go_enter Tryd.func9, Tryd.ntmps9
        go_wp2_with (fail)
        refine (HC.out _).mono ?_
        rintro e1 w1 ⟨rfl, h1⟩
        subst w1
        clear HC
        go_wp2_with (fail)
        refine (HC2.out _).mono ?_
        rintro e1 w1 ⟨rfl, h1⟩
        subst w1
        clear HC2
        go_wp2_with (fail)
        refine (HC3.out _).mono ?_
        rintro e1 w1 ⟨rfl, h1⟩
        subst w1
        clear HC3
        go_wp2_with (fail)
        refine (HC4.out _).mono ?_
        rintro e1 w4 ⟨⟨p4, rfl⟩, hb4⟩
        clear HC4
        go_wp2_with (fail)
        refine (HC5.out _).mono ?_
        rintro e1 w5 ⟨⟨p5, rfl⟩, hb5⟩
        clear HC5
        replace hb5 := hb4.trans (hb5.mono hb4.size)
        replace HT : Hid (Tb w5) := HT.out.on hb5 (Nat.le_refl _)
        clear hb4
        go_wp2_with (fail)
        refine (HP.out _ HT.out).mono ?_
        rintro e1 w6 ⟨q6, rfl, hb6⟩
        clear HP
        replace HT : Hid (Tb w6) := HT.out.on hb6 (Nat.le_refl _)
        replace hb6 := hb5.trans (hb6.mono hb5.size)
        clear hb5
        go_wp2_with (fail)
        refine (HA.out _ HT.out).mono ?_
        rintro e1 w7 ⟨q7, rfl, hb7⟩
        clear HA HT
        replace hb7 := hb6.trans (hb7.mono hb6.size)
        clear hb6
        go_wp2_with (fail)
        refine (HRD.out _).mono ?_
        rintro e1 w8 ⟨rfl, k8, h8⟩
        subst h8
        clear HRD
        go_wp2
        go_ret
        exact ⟨rfl, ⟨hb7.os, hb7.tape, hb7.output, hb7.size, hb7.block⟩⟩
end Hx
end Go.Proofs.YtbbpnlflihhflaaDoor
