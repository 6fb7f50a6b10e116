import Derived.Test.YtiljdiagabepbaaDoorPbU
namespace Go.Proofs.YtiljdiagabepbaaDoor
namespace Pb
open Go.RowKit
set_option linter.unusedVariables false
set_option maxHeartbeats 4000000 in
set_option maxRecDepth 8000 in
theorem back_walk (a : Option Addr) (len cap : Nat) (cut : Int) (D : Nat → Value) (F : Nat → List Value) (W : World) (h : PR W a len D F) (c0 : -9223372036854775808 ≤ cut) (c1 : cut ≤ 9223372036854775807) :
    Calls Tryd.prog 4 #[.slice a len cap, .int .i64 cut] W fun e w' => e = .returned (.bool true) ∧ Below W.heap.size W w' := by
  have HP : Hid (PR W a len D F) := h
  have hsm := h.small
  have htt := h.tot
  clear h
  go_enter Tryd.func4, Tryd.ntmps4
  go_wp2
  go_loop [6, 5] (fun i t => ∃ k : Nat, i = .int .i64 k ∧ t = .int .i64 (ct F k).length ∧ k ≤ len) (fun i _ => len - (intOf i).toNat)
  case atStart => exact ⟨0, rfl, rfl, by omega⟩
  case round =>
    obtain ⟨k, rfl, rfl, hk⟩ := hrel
    by_cases hkl : k < len
    · obtain ⟨p, rfl, hc⟩ := HP.out.at' k hkl
      obtain ⟨dp, dc, hd⟩ := HP.out.slice k hkl
      rw [hd] at hc
      have hm := ct_mono F (i := k + 1) (n := len) (by omega)
      rw [ct_len] at hm
      go_wp2
      refine ⟨⟨k + 1, rfl, ?_, by omega⟩, ?_⟩
      · rw [ct_len]
        simp
      · simp [intOf]
        omega
    · obtain rfl : k = len := by omega
      by_cases ht : 1048576 < (ct F k).length
      · go_wp2
        go_ret
        exact ⟨rfl, Below.refl _ _⟩
      · obtain ⟨T, hT⟩ : ∃ T : Nat, (ct F k).length = T := ⟨_, rfl⟩
        have HT : Hid ((ct F k).length = T) := hT
        rw [hT] at ht htt ⊢
        clear hT
        obtain ⟨v1, hv1, bel1, g1, p1, n1⟩ := new_facts W T
        have HN : Hid (Calls Tryd.prog 6 #[.int .i64 T, .slice none 0 0] W fun e w' => e = .returned (.tuple #[.pointer (some ⟨W.heap.size + 1 + 1 + 1, 0, none⟩), .int .i64 0]) ∧ w' = v1) := (new_q T (by omega) (by omega) W).mono (by rintro e w' ⟨rfl, rfl⟩; exact ⟨rfl, hv1⟩)
        obtain ⟨g, hg⟩ : ∃ g, g = W.heap.size + 1 + 1 + 1 := ⟨_, rfl⟩
        rw [← hg] at HN g1
        have HCR : Hid (Calls Tryd.prog 8 #[.pointer (some ⟨g, 0, none⟩), .string ⟨#[102]⟩] v1 fun e w' => e = .returned (.int .i64 0) ∧ ∃ gf ch, DS W w' g W.heap.size (W.heap.size + 1) (W.heap.size + 1 + 1) gf T 1 0 ch (fl (.slice none 0 0) 0 0 0 0 0 0)) := create_f W g _ _ _ T 0 0 v1 (by omega) (by omega) bel1 (by omega) (by omega) (by omega) g1 p1 n1
        obtain ⟨gp, hgp⟩ : ∃ gp, gp = W.heap.size := ⟨_, rfl⟩
        obtain ⟨gn, hgn⟩ : ∃ gn, gn = W.heap.size + 1 := ⟨_, rfl⟩
        obtain ⟨gd, hgd⟩ : ∃ gd, gd = W.heap.size + 1 + 1 := ⟨_, rfl⟩
        rw [← hgd, ← hgn, ← hgp] at HCR
        clear hv1 bel1 g1 p1 n1 hg hgp hgn hgd
        go_wp2_with (fail)
        refine HN.out.mono ?_
        rintro e1 w1 ⟨rfl, hw1⟩
        subst w1
        go_wp2_with ((go_at_call 7; refine (num_any _ _).mono ?_; rintro e9 w9 ⟨rfl, hw9⟩; subst w9))
        refine HCR.out.mono ?_
        rintro e2 w2 ⟨rfl, gf, ch, hD⟩
        have h2 := L2.start F hD
        clear HN HCR hD
        go_wp2_with ((go_at_call 7; refine (num_any _ _).mono ?_; rintro e9 w9 ⟨rfl, hw9⟩; subst w9))
        go_loopw [10, 9, 11] (fun i al _ wr => ∃ (j : Nat) (bv : Value) (p : Option Addr) (n c : Nat), i = .int .i64 j ∧ al = .slice p n c ∧ j ≤ k ∧ L2 W wr g gp gn gd gf T ch F j (.slice p n c) bv) (fun i _ _ _ => k - (intOf i).toNat)
        case atStart => exact ⟨0, _, _, _, _, rfl, rfl, by omega, h2⟩
        case round =>
          clear h2
          obtain ⟨j, bv, ap, an, ac, rfl, rfl, hj, h3⟩ := hrel
          by_cases hjl : j < k
          · obtain ⟨p, rfl, hc0⟩ := HP.out.at' j hjl
            obtain ⟨dp, dc, hd⟩ := HP.out.slice j hjl
            have src := HP.out.src j hjl h3.st.bel g gf h3.st.bg h3.st.bf
            rw [hd] at hc0 src
            have hc := (h3.st.bel.cell (World.block_lt_of_cell? _ _ hc0)).trans hc0
            clear hc0
            have hm : (ct F (j + 1)).length ≤ T := by have := ct_mono F (i := j + 1) (n := k) (by omega); have := HT.out; omega
            have HA : Hid (Calls Tryd.prog 11 #[.pointer (some ⟨g, 0, none⟩), .string ⟨#[102]⟩, .slice dp (F j).length dc] wr fun e w' => e = .returned (.int .i64 0) ∧ ∃ bv', L3 W w' g gp gn gd gf T ch F j (.slice ap an ac) bv') := h3.app _ src hm (by omega) (by omega)
            clear src h3
            go_wp2_with (fail)
            refine HA.out.mono ?_
            rintro e4 w4 ⟨rfl, bv4, h4⟩
            have src := HP.out.src j hjl h4.st.bel g gf h4.st.bg h4.st.bf
            rw [hd] at src
            obtain ⟨bp, bn, bc, w5, R5, h5⟩ := h4.grow _ src hm (by omega)
            obtain ⟨q, hq, hc1⟩ := HP.out.at' j hjl
            injection hq with hq
            subst hq
            rw [hd] at hc1
            have hc4 := (h4.st.bel.cell (World.block_lt_of_cell? _ _ hc1)).trans hc1
            clear src h4 hc HA hc1
            go_wp2_with (first | (go_at_call 7; refine (num_any _ _).mono ?_; rintro e9 w9 ⟨rfl, hw9⟩; subst w9) | (at_builtin; refine wpList_append_eq rfl _ _ rfl (.slice ap an ac) (.slice dp (F j).length dc) (.slice bp bn bc) (by rfl) (by rfl) R5 ?_))
            refine ⟨⟨j + 1, bv4, bp, bn, bc, by first | rfl | simp, rfl, by omega, h5⟩, ?_⟩
            simp [intOf]
            omega
          · obtain rfl : j = k := by omega
            have HX : Hid (∀ c, Calls Tryd.prog 11 #[.pointer (some ⟨g, 0, none⟩), .string ⟨#[102]⟩, .slice (some ⟨wr.heap.size, 0, none⟩) 1 c] (wr.alloc (.cells #[.int .u8 120] 5 (1, 2))) fun e w' => e = .returned (.int .i64 33) ∧ L4 W w' g gp gn gd gf T ch (ct F j) j (.slice ap an ac) bv) := h3.full HT.out (by omega) (by omega)
            have hcv := fun c => Lib.run_convert_bytes_const (P := Tryd.prog) wr 37 5 #[.int .u8 120] 1 c Tryd.underlying37 Tryd.underlying5
            clear h3
            go_wp2_with (fail)
            refine (HX.out _).mono ?_
            rintro e4 w4 ⟨rfl, h4⟩
            have h5 := h4.start HT.out
            clear h4 HX hcv
            go_wp2_with ((go_at_call 7; refine (num_any _ _).mono ?_; rintro e9 w9 ⟨rfl, hw9⟩; subst w9))
            obtain ⟨m, hm, hm1, hm2⟩ : ∃ m : Nat, (1 + min (max cut 0) 1048576 : Int) = m ∧ 1 ≤ m ∧ m ≤ 1048577 := ⟨(1 + min (max cut 0) 1048576).toNat, by omega, by omega, by omega⟩
            rw [hm]
            clear hm
            obtain ⟨xs, hxs⟩ : ∃ xs, ct F j = xs := ⟨_, rfl⟩
            have hby : Hid (Bys xs) := hxs ▸ ct_bys HP.out j (by omega)
            rw [hxs] at h5 HT
            have H5 : Hid (L5 W w4 g gp gn gd gf T ch xs j (.slice ap an ac) bv (.slice none 0 0) 0 0) := h5
            clear h5 hxs
            go_loopw [14, 13, 15, 16, 17] (fun at' gv _ _ _ wr => ∃ (k r : Nat) (p : Option Addr) (n c : Nat), at' = .int .i64 k ∧ gv = .slice p n c ∧ k ≤ T ∧ Hid (L5 W wr g gp gn gd gf T ch xs j (.slice ap an ac) bv (.slice p n c) k r)) (fun at' _ _ _ _ _ => T - (intOf at').toNat)
            case atStart => exact ⟨0, 0, none, 0, 0, rfl, rfl, by omega, H5⟩
            case round =>
              clear H5
              obtain ⟨k, r, op, on, oc, rfl, rfl, hkT, h6⟩ := hrel
              by_cases hkl2 : k < T
              · obtain ⟨w7, cur, mk, hb, hcur, h7, ho⟩ := h6.out.made m (by omega)
                obtain ⟨n, hn⟩ : ∃ n : Nat, ((xs.drop k).take m).length = n := ⟨_, rfl⟩
                have hnn : n = min m (T - k) := by rw [← hn, List.length_take, List.length_drop, HT.out]
                have hRD := h7.read wr.heap.size m cur hb hcur ho (h6.out.st.bel.size) (by omega) (by omega) (by omega) hby.out
                rw [hn] at hRD
                have HRD : Hid (Calls Tryd.prog 12 #[.pointer (some ⟨g, 0, none⟩), .string ⟨#[102]⟩, .int .i64 k, .slice (some ⟨wr.heap.size, 0, none⟩) m m] w7 fun e w' => e = .returned (.tuple #[.int .i64 n, .int .i64 0]) ∧ L6 W w' g gp gn gd gf T ch xs j (.slice ap an ac) bv (.slice op on oc) k r n ∧ Src w' g gf (.slice (some ⟨wr.heap.size, 0, none⟩) n m) ((xs.drop k).take m)) := hRD
                have hrk : Hid (r ≤ k) := h7.rk
                have n1 : 1 ≤ n := by omega
                have n2 : n ≤ m := by omega
                have n3 : k + n ≤ T := by omega
                have HN : Hid (((xs.drop k).take m).length = n) := hn
                obtain ⟨gb, hgb⟩ : ∃ gb, gb = wr.heap.size := ⟨_, rfl⟩
                rw [← hgb] at mk HRD
                clear hRD hb hcur h7 ho hnn hn h6 hgb
                go_wp2_with (fail)
                refine HRD.out.mono ?_
                rintro e8 w8 ⟨rfl, h8, src⟩
                obtain ⟨bp, bn, bc, w9, R9, h9⟩ := h8.grow HN.out.symm n1 hkT hrk.out HT.out (by omega) _ src
                have H9 : Hid (L5 W w9 g gp gn gd gf T ch xs j (.slice ap an ac) bv (.slice bp bn bc) (k + n) (r + 1)) := h9
                clear h8 src h9 HRD mk
                go_wp2_with (first | (go_at_call 7; refine (num_any _ _).mono ?_; rintro e9 w9 ⟨rfl, hw9⟩; subst w9) | (at_builtin; refine wpList_append_eq rfl _ _ rfl (.slice op on oc) (.slice (some ⟨gb, 0, none⟩) n m) (.slice bp bn bc) (by rfl) (by rfl) R9 ?_))
                refine ⟨⟨k + n, r + 1, bp, bn, bc, by first | rfl | simp, rfl, by omega, H9⟩, ?_⟩
                simp [intOf]
                omega
              · have hkk : k = T := by omega
                subst hkk
                obtain ⟨w7, cur, mk0, hb, hcur, h7, ho⟩ := h6.out.made 3 (by omega)
                have mk : (Instr.makeSlice 37 (.int .i64 3) (.int .i64 3)).run Tryd.prog wr = .ok (.slice (some ⟨wr.heap.size, 0, none⟩) 3 3) w7 := mk0
                have hn : ((xs.drop k).take 3).length = 0 := by rw [List.length_take, List.length_drop, HT.out]; omega
                have hRD := h7.read wr.heap.size 3 cur hb hcur ho (h6.out.st.bel.size) (by omega) (by omega) (by omega) hby.out
                rw [hn] at hRD
                have HRD : Hid (Calls Tryd.prog 12 #[.pointer (some ⟨g, 0, none⟩), .string ⟨#[102]⟩, .int .i64 k, .slice (some ⟨wr.heap.size, 0, none⟩) 3 3] w7 fun e w' => e = .returned (.tuple #[.int .i64 0, .int .i64 0]) ∧ L6 W w' g gp gn gd gf k ch xs j (.slice ap an ac) bv (.slice op on oc) k r 0) := hRD.mono (fun e w' h => ⟨h.1, h.2.1⟩)
                have hrk : Hid (r ≤ k) := h7.rk
                obtain ⟨gb, hgb⟩ : ∃ gb, gb = wr.heap.size := ⟨_, rfl⟩
                rw [← hgb] at mk HRD
                clear hRD hb hcur h7 ho hn h6 hgb mk0
                go_wp2_with (fail)
                refine HRD.out.mono ?_
                rintro e8 w8 ⟨rfl, h8⟩
                have HF : Hid (Calls Tryd.prog 12 #[.pointer (some ⟨g, 0, none⟩), .string ⟨#[102]⟩, .int .i64 ((k : Int) + 1), .slice none 0 0] w8 fun e w' => e = .returned (.tuple #[.int .i64 0, .int .i64 34]) ∧ L7 W w' g gp gn gd gf k ch xs j (.slice ap an ac) bv (.slice op on oc) r) := h8.far rfl HT.out (by omega) (by omega) hrk.out
                clear h8 HRD mk
                go_wp2_with (fail)
                refine HF.out.mono ?_
                rintro e9 w9 ⟨rfl, h9⟩
                have HS : Hid (Calls Tryd.prog 10 #[.pointer (some ⟨g, 0, none⟩)] w9 fun e w' => ∃ b cap, e = .returned (.slice (some ⟨b, 0, none⟩) 1 cap) ∧ L8 W w' xs (.slice ap an ac) (.slice op on oc) b k) := h9.stats HT.out (by omega)
                clear h9 HF
                go_wp2_with (fail)
                refine HS.out.mono ?_
                rintro e10 w10 ⟨sb, scap, rfl, hA⟩
                have HB := hA.begins (by have := HT.out; omega) hby.out
                have l1 := own_len hA.ow
                have l2 := own_len hA.og
                clear HS
                go_wp2_with (fail)
                refine HB.mono ?_
                rintro e11 w11 ⟨rfl, hC⟩
                have c4 := hC.c4
                have c7 := hC.c7
                have HBL : Hid (Below W.heap.size W w11) := hC.bel
                clear hA hC HB
                go_wp2_with ((go_at_call 7; refine (num_any _ _).mono ?_; rintro e9 w9 ⟨rfl, hw9⟩; subst w9))
                go_ret
                exact ⟨rfl, HBL.out⟩
end Pb
end Go.Proofs.YtiljdiagabepbaaDoor
