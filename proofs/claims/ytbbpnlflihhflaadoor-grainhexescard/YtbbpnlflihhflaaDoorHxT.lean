import Derived.Test.YtbbpnlflihhflaaDoorHxS
namespace Go.Proofs.YtbbpnlflihhflaaDoor
namespace Hx
open Go.RowKit
set_option linter.unusedVariables false
theorem no_inf (r : List UInt8) (c : UInt8) (h : c ≠ 105) : ¬ (c :: r = [105, 110, 102]) := fun e => h (List.cons.inj e).1
theorem no_nan (r : List UInt8) (c : UInt8) (h : (110 : UInt8) ≠ c) : ¬ (Lib.hasPrefix (c :: r) [110, 97, 110, 58] = true) := by
  have e : Lib.hasPrefix (c :: r) [110, 97, 110, 58] = false := by
    show ((110 : UInt8) == c && List.isPrefixOf [97, 110, 58] r) = false
    rw [beq_eq_false_iff_ne.2 h]; rfl
  rw [e]; exact Bool.false_ne_true
theorem tp_0x (t : List UInt8) : Lib.trimPrefix (48 :: 120 :: t) [48, 120] = t := by
  unfold Lib.trimPrefix
  have e : Lib.hasPrefix (48 :: 120 :: t) [48, 120] = true := by
    show ((48 : UInt8) == 48 && ((120 : UInt8) == 120 && List.isPrefixOf [] t)) = true
    cases t <;> rfl
  rw [e]; rfl
theorem tp_nan (t : List UInt8) : Lib.trimPrefix (110 :: 97 :: 110 :: 58 :: t) [110, 97, 110, 58] = t ∧ Lib.hasPrefix (110 :: 97 :: 110 :: 58 :: t) [110, 97, 110, 58] = true := by
  have e : Lib.hasPrefix (110 :: 97 :: 110 :: 58 :: t) [110, 97, 110, 58] = true := by
    show ((110 : UInt8) == 110 && ((97 : UInt8) == 97 && ((110 : UInt8) == 110 && ((58 : UInt8) == 58 && List.isPrefixOf [] t)))) = true
    cases t <;> rfl
  unfold Lib.trimPrefix
  rw [e]; exact ⟨rfl, rfl⟩
/-- What hexL is behind its sign. -/
def body (u : Int) : List UInt8 := if 2139095040 ≤ u % 2147483648 then tl u else if u % 2147483648 = 0 then [48, 120, 48, 112, 43, 48] else 48 :: 120 :: 49 :: dot (frac (lead (Cl.pm u))) ++ [112] ++ px (Cl.pe u + Rd.lg (Cl.pm u))
theorem hexL_body (u : Int) : hexL u = sgn u ++ body u := rfl
theorem body_fin (u : Int) (hf : u % 2147483648 < 2139095040) (hz : ¬ u % 2147483648 = 0) : body u = 48 :: 120 :: ((49 :: dot (frac (lead (Cl.pm u)))) ++ 112 :: px (Cl.pe u + Rd.lg (Cl.pm u))) := by
  unfold body
  rw [if_neg (by omega), if_neg hz]
  simp
theorem pn_one (es : List Nat) (hd : ∀ d ∈ es, d < 16) (h : vl 1 es < 33554432) : pn 18446744073709551615 (49 :: es.map dg) = vl 1 es := by
  have e : (49 : UInt8) :: es.map dg = (1 :: es).map dg := by rw [List.map_cons]; rfl
  have e2 : vl 0 (1 :: es) = vl 1 es := rfl
  rw [e, pn, if_neg (by simp), pv_digs _ (1 :: es) 0 (fun d h => by
    rcases List.mem_cons.1 h with rfl | h
    · omega
    · exact hd d h) (by rw [e2]; omega) (by rw [e2]; omega)]
  exact e2
theorem dot_cut (es : List Nat) (hd : ∀ d ∈ es, d < 16) : ca 46 (49 :: dot (es.map dg)) ++ cb 46 (49 :: dot (es.map dg)) = 49 :: es.map dg ∧ cb 46 (49 :: dot (es.map dg)) = es.map dg := by
  unfold dot
  by_cases h : es.map dg = []
  · rw [if_pos h, h]
    obtain ⟨a, b⟩ := ca_miss 46 [49] (by decide)
    rw [a, b]; exact ⟨rfl, rfl⟩
  · rw [if_neg h]
    obtain ⟨a, b⟩ := ca_hit 46 [49] (es.map dg) (by decide)
    simp only [List.cons_append, List.nil_append] at a b
    rw [a, b]; exact ⟨rfl, rfl⟩
theorem dot_112 (es : List Nat) (hd : ∀ d ∈ es, d < 16) : ∀ b ∈ (49 : UInt8) :: dot (es.map dg), b ≠ 112 := by
  intro b hb
  rcases List.mem_cons.1 hb with rfl | hb
  · decide
  · unfold dot at hb
    split at hb
    · simp at hb
    · rcases List.mem_cons.1 hb with rfl | hb
      · decide
      · obtain ⟨d, hd1, rfl⟩ := List.mem_map.1 hb
        exact (dg_ne d (hd d hd1)).1
theorem wrap64_small (z : Int) (h0 : -1000000 ≤ z) (h1 : z ≤ 1000000) : wrap64 z = z := by unfold wrap64; omega
/-- The only float32 whose text may be hexL u is u. -/
theorem lk_hex (u : Int) (h0 : 0 ≤ u) (h1 : u < 4294967296) : lk (hexL u) = u := by
  have hsd := sg_dec u h0 h1
  rw [hexL_body]
  by_cases hi : 2139095040 ≤ u % 2147483648
  · by_cases hc : Cl.cls u = 4
    · have hb : body u = 110 :: 97 :: 110 :: 58 :: hx (u % 8388608).toNat := by unfold body; rw [if_pos hi]; unfold tl; rw [if_pos hc]
      obtain ⟨e1, e2⟩ := pre_sgn u 110 (97 :: 110 :: 58 :: hx (u % 8388608).toNat) (by decide)
      obtain ⟨e3, e4⟩ := tp_nan (hx (u % 8388608).toNat)
      unfold lk
      rw [hb, e1, e2, if_neg (no_inf _ _ (by decide)), if_pos e4, e3, pn_hx 8388607 _ (by omega) (by omega)]
      omega
    · have hb : body u = 105 :: [110, 102] := by unfold body; rw [if_pos hi]; unfold tl; rw [if_neg hc]
      obtain ⟨e1, e2⟩ := pre_sgn u 105 [110, 102] (by decide)
      have hu : u % 2147483648 = 2139095040 := by
        unfold Cl.cls at hc
        rw [if_neg (by omega), if_neg (by omega), if_neg (by omega)] at hc
        by_cases h : u % 2147483648 = 2139095040
        · exact h
        · rw [if_neg h] at hc; exact absurd rfl hc
      unfold lk
      rw [hb, e1, e2, if_pos rfl]
      omega
  · by_cases hz : u % 2147483648 = 0
    · have hb : body u = 48 :: 120 :: ([48] ++ 112 :: [43, 48]) := by unfold body; rw [if_neg hi, if_pos hz]; rfl
      obtain ⟨e1, e2⟩ := pre_sgn u 48 (120 :: ([48] ++ 112 :: [43, 48])) (by decide)
      obtain ⟨e3, e4⟩ := ca_hit 112 [48] [43, 48] (by decide)
      obtain ⟨e5, e6⟩ := ca_miss 46 [48] (by decide)
      have e7 : pn 18446744073709551615 ([48] ++ []) = 0 := by
        have := pn_hx 18446744073709551615 0 (by omega) (by omega)
        rw [hx_lt 0 (by omega)] at this
        exact this
      unfold lk
      rw [hb, e1, e2, if_neg (no_inf _ _ (by decide)), if_neg (no_nan _ _ (by decide)), tp_0x, e3, e4, e5, e6, e7]
      unfold Rd.rnd
      rw [if_pos (.inl rfl)]
      omega
    · obtain ⟨es, k, f1, f2, f3, f4, f5, f6, f7⟩ := fin_read u h0 h1 (by omega) (by omega)
      have hb := body_fin u (by omega) hz
      rw [f1] at hb
      obtain ⟨e1, e2⟩ := pre_sgn u 48 (120 :: ((49 :: dot (es.map dg)) ++ 112 :: px (Cl.pe u + Rd.lg (Cl.pm u)))) (by decide)
      obtain ⟨e3, e4⟩ := ca_hit 112 (49 :: dot (es.map dg)) (px (Cl.pe u + Rd.lg (Cl.pm u))) (dot_112 es f2)
      obtain ⟨e5, e6⟩ := dot_cut es f2
      unfold lk
      rw [hb, e1, e2, if_neg (no_inf _ _ (by decide)), if_neg (no_nan _ _ (by decide)), tp_0x, e3, e4, e5, e6, at_px _ (by omega) (by omega), pn_one es f2 f4, List.length_map, wrap64_small _ (by omega) (by omega), f7]
      exact hsd
theorem rnd_b (neg : Bool) (m e : Int) : 0 ≤ Rd.rnd neg m e ∧ Rd.rnd neg m e < 4294967296 := by
  have hs := Rd.sg_b neg
  unfold Rd.rnd
  split
  · omega
  · split
    · omega
    · rw [IntKind.wrap_u64]; omega
theorem lk_b (l : List UInt8) : 0 ≤ lk l ∧ lk l < 4294967296 := by
  unfold lk
  have hs := Rd.sg_b (Lib.hasPrefix l [45])
  split
  · omega
  · split
    · have := pn_le 8388607 (Lib.trimPrefix (Lib.trimPrefix l [45]) [110, 97, 110, 58])
      omega
    · exact rnd_b _ _ _
set_option maxHeartbeats 1000000 in
theorem readhex_any (l : List UInt8) (hl : l.length ≤ 140737488351232) (w : World) (ht : Tb w) :
    Calls Tryd.prog 4 #[.string (bs l)] w fun r w' => (r = .returned (.tuple (if hexL (lk l) = l then #[.int .u32 (lk l), .int .i64 0] else #[.int .u32 0, .int .i64 15]))) ∧ Below w.heap.size w w' := by
  have hb := lk_b l
  have HL : Hid (∀ W, Tb W → Calls Tryd.prog 9 #[.string (bs l)] W fun r w' => r = .returned (.int .u32 (lk l)) ∧ Below W.heap.size W w') := fun W hW => likely_any l hl W hW
  have HX : Hid (∀ W, Tb W → Calls Tryd.prog 6 #[.int .u32 (lk l)] W fun r w' => r = .returned (.string (bs (hexL (lk l)))) ∧ Below W.heap.size W w') := fun W hW => hex_any (lk l) hb.1 hb.2 W hW
  have HT : Hid (Tb w) := ht
  generalize lk l = v at *
  have t1 := bs_toList l
  have t2 := bs_toList (hexL v)
  clear ht hl hb
  by_cases h : hexL v = l
  · rw [if_pos h]
    have hq : ((bs (hexL v)).toList == (bs l).toList) = true := by rw [t1, t2, h]; simp
    clear t1 t2 h
    generalize hexL v = x at *
    go_enter Tryd.func4, Tryd.ntmps4
    go_wp2_with (fail)
    refine (HL.out _ HT.out).mono ?_
    rintro e1 w1 ⟨rfl, hb1⟩
    have ht1 := HT.out.on hb1 (Nat.le_refl _)
    go_wp2_with (fail)
    refine (HX.out _ ht1).mono ?_
    rintro e2 w2 ⟨rfl, hb2⟩
    clear ht1 HL HX HT
    go_wp2
    go_ret2
    exact ⟨rfl, hb1.trans (hb2.mono hb1.size)⟩
  · rw [if_neg h]
    have hq : ((bs (hexL v)).toList == (bs l).toList) = false := by rw [t1, t2, beq_eq_false_iff_ne]; exact h
    clear t1 t2 h
    generalize hexL v = x at *
    go_enter Tryd.func4, Tryd.ntmps4
    go_wp2_with (fail)
    refine (HL.out _ HT.out).mono ?_
    rintro e1 w1 ⟨rfl, hb1⟩
    have ht1 := HT.out.on hb1 (Nat.le_refl _)
    go_wp2_with (fail)
    refine (HX.out _ ht1).mono ?_
    rintro e2 w2 ⟨rfl, hb2⟩
    clear ht1 HL HX HT
    go_wp2
    go_ret2
    exact ⟨rfl, hb1.trans (hb2.mono hb1.size)⟩
end Hx
end Go.Proofs.YtbbpnlflihhflaaDoor
