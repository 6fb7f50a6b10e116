import Derived.Test.YtiljdiagabepbaaDoorPqK
import Derived.Laws.Cover1
namespace Go.Proofs.YtiljdiagabepbaaDoor
namespace Pq
open Go.RowKit Pb
set_option linter.unusedVariables false
set_option maxHeartbeats 4000000 in
set_option maxRecDepth 100000 in
theorem fresh_walk (a : Option Addr) (len cap : Nat) (S : Nat → ByteArray) (W : World) (h : NR W a len S) :
    Calls Tryd.prog 3 #[.slice a len cap] W fun e w' => e = .returned (.bool true) ∧ Below W.heap.size W w' := by
  have HP : Hid (NR W a len S) := h
  have hsm := h.small
  clear h
  obtain ⟨v1, hv1, bel1, g1, p1, n1⟩ := new_facts W 1000
  have HN : Hid (Calls Tryd.prog 6 #[.int .i64 1000, .slice none 0 0] W fun e w' => e = .returned (.tuple #[.pointer (some ⟨W.heap.size + 1 + 1 + 1, 0, none⟩), .int .i64 0]) ∧ w' = v1) := (new_q 1000 (by omega) (by omega) W).mono (by rintro e w' ⟨rfl, rfl⟩; exact ⟨rfl, hv1⟩)
  obtain ⟨g, hg⟩ : ∃ g, g = W.heap.size + 1 + 1 + 1 := ⟨_, rfl⟩
  rw [← hg] at HN g1
  have HCR : Hid (Calls Tryd.prog 8 #[.pointer (some ⟨g, 0, none⟩), .string ⟨#[97, 48]⟩] v1 fun e w' => e = .returned (.int .i64 0) ∧ ∃ ch c D, M1 W w' g W.heap.size (W.heap.size + 1) (W.heap.size + 1 + 1) 0 ch c D) := create_first (fd_new bel1 (by omega) (by omega) g1 p1 n1 (by omega))
  obtain ⟨gp, hgp⟩ : ∃ gp, gp = W.heap.size := ⟨_, rfl⟩
  obtain ⟨gn, hgn⟩ : ∃ gn, gn = W.heap.size + 1 := ⟨_, rfl⟩
  obtain ⟨gd, hgd⟩ : ∃ gd, gd = W.heap.size + 1 + 1 := ⟨_, rfl⟩
  rw [← hgd, ← hgn, ← hgp] at HCR
  clear hv1 bel1 g1 p1 n1 hg hgp hgn hgd
  go_enter Tryd.func3, Tryd.ntmps3
  go_wp2_with (fail)
  refine HN.out.mono ?_
  rintro e1 w1 ⟨rfl, hw1⟩
  subst w1
  go_wp2_with ((go_at_call 7; refine (num_any _ _).mono ?_; rintro e9 w9 ⟨rfl, hw9⟩; subst w9))
  refine HCR.out.mono ?_
  rintro e2 w2 ⟨rfl, ch, c, D, h2⟩
  have H2 : Hid (M1 W w2 g gp gn gd 0 ch c D) := h2
  clear HN HCR h2
  go_wp2_with ((go_at_call 7; refine (num_any _ _).mono ?_; rintro e9 w9 ⟨rfl, hw9⟩; subst w9))
  go_loopw [5] (fun i wr => ∃ k : Nat, i = .int .i64 k ∧ k ≤ len ∧ k ≤ 100 ∧ Hid (∃ ch c D, M1 W wr g gp gn gd k ch c D)) (fun i _ => len - (intOf i).toNat)
  case atStart => exact ⟨0, rfl, by omega, by omega, ⟨ch, c, D, H2.out⟩⟩
  case round =>
    clear H2
    obtain ⟨k, rfl, hk, hk1, h3⟩ := hrel
    by_cases hkl : k < len ∧ k < 100
    · obtain ⟨hk2, hk3⟩ := hkl
      obtain ⟨p, rfl, hc0⟩ := HP.out.at' k hk2
      obtain ⟨ch', c', D', h4⟩ := h3.out
      have hc := (h4.fd.bel.cell (World.block_lt_of_cell? _ _ hc0)).trans hc0
      have HA : Hid (Calls Tryd.prog 8 #[.pointer (some ⟨g, 0, none⟩), .string (S k)] wr fun e w' => ∃ E, e = .returned (.int .i64 E) ∧ ∃ ch' c' D', M1 W w' g gp gn gd (k + 1) ch' c' D') := h4.create (S k) (HP.out.sz k hk2) (by omega)
      clear hc0 h3 h4
      go_wp2_with (fail)
      refine HA.out.mono ?_
      rintro e4 w4 ⟨E, rfl, h5⟩
      have H5 : Hid (∃ ch c D, M1 W w4 g gp gn gd (k + 1) ch c D) := h5
      clear h5 HA hc
      go_wp2
      refine ⟨⟨k + 1, by first | rfl | simp, by omega, by omega, H5⟩, ?_⟩
      simp [intOf]
      omega
    · obtain ⟨ch', c', D', h4⟩ := h3.out
      obtain ⟨m, hm⟩ : ∃ m, (SS D').length = m := ⟨_, rfl⟩
      have hl := h4.len
      have hc4 := h4.hc
      rw [hm] at hl
      obtain ⟨hm1, hm2⟩ := hl
      have hm3 : m ≤ 101 := by omega
      have HM : Hid ((SS D').length = m) := hm
      have HL : Hid (Calls Tryd.prog 9 #[.pointer (some ⟨g, 0, none⟩)] wr fun e w' => ∃ b1 cap1, e = .returned (.tuple #[.slice (some ⟨b1, 0, none⟩) m cap1, .int .i64 0]) ∧ Ml W wr w' g gp gn gd (1 + k + 1) ch' c' D' m b1 cap1) := h4.fd.list (by omega) (by omega) (by omega) hm hm1
      have HC : Hid (c' ≤ 1000) := by show c' ≤ 1000; omega
      clear h3 h4 hm hm2 hc4
      rcases (by omega : (k < len ∧ ¬ k < 100) ∨ ¬ k < len) with ⟨hq, hq2⟩ | hq
      all_goals
        clear hkl
        go_wp2_with (fail)
        refine HL.out.mono ?_
        rintro e5 w5 ⟨b1, cap1, rfl, h5⟩
        have HS : Hid (Calls Tryd.prog 10 #[.pointer (some ⟨g, 0, none⟩)] w5 fun e w' => ∃ b2, e = .returned (.slice (some ⟨b2, 0, none⟩) m m) ∧ M2 W w' g gp gn gd (1 + k + 1) ch' c' D' m b1 cap1 b2) := by
          refine (h5.fd.stats HC.out HM.out hm1).mono ?_
          rintro e w' ⟨b2, rfl, q1, q2, q3, q4⟩
          exact ⟨b2, rfl, ⟨q1, row_frm h5.r1 q4 (fun _ _ e => e), q2⟩⟩
        clear h5 HL
        go_wp2_with (fail)
        refine HS.out.mono ?_
        rintro e6 w6 ⟨b2, rfl, h6⟩
        have H6 : Hid (M2 W w6 g gp gn gd (1 + k + 1) ch' c' D' m b1 cap1 b2) := h6
        clear h6 HS
        go_wp2_with ((go_at_call 7; refine (num_any _ _).mono ?_; rintro e9 w9 ⟨rfl, hw9⟩; subst w9))
        go_loopw [10, 9] (fun i wv wr => ∃ (j : Nat) (p : Option Addr) (c2 : Nat), i = .int .i64 j ∧ wv = .slice p j c2 ∧ j ≤ m ∧ Hid (M3 W wr g gp gn gd (1 + k + 1) ch' c' D' m b1 cap1 b2 j (.slice p j c2))) (fun i _ _ => m - (intOf i).toNat)
        case atStart => exact ⟨0, none, 0, rfl, rfl, by omega, H6.out.start⟩
        case round =>
          clear H6
          obtain ⟨j, wp, wc, rfl, rfl, hj, h7⟩ := hrel
          by_cases hjm : j < m
          · have hjl : j < (SS D').length := by rw [HM.out]; exact hjm
            obtain ⟨s, hs⟩ : ∃ s, nm (SS D')[j] = s := ⟨_, rfl⟩
            obtain ⟨bp, bl, bc, w8, R8, h8, rfl⟩ := h7.out.grow HM.out hjm hm3 s hs
            obtain ⟨x1, x2⟩ := h7.out.cells HM.out j hjm
            obtain ⟨y1, y2⟩ := h8.cells HM.out j hjm
            rw [hs] at x1 x2 y1 y2
            have H8 : Hid (M3 W w8 g gp gn gd (1 + k + 1) ch' c' D' m b1 cap1 b2 (j + 1) (.slice bp (j + 1) bc)) := h8
            have hss : (s.toList == s.toList) = true := by simp
            rcases Nat.eq_zero_or_pos j with hj0 | hj0
            · clear h8 hs hjl
              subst hj0
              go_wp2_with (at_builtin; refine wpList_append_eqT rfl _ _ 22 rfl rfl (.slice wp 0 wc) _ (.slice bp (0 + 1) bc) (by rfl) (by rfl) R8 ?_)
              go_quiet (fail)
              go_wp2
              refine ⟨⟨0 + 1, bp, bc, by first | rfl | simp, rfl, by omega, H8.out.drewN _⟩, ?_⟩
              simp [intOf]
              omega
            · have hi : j - 1 + 1 = j := by omega
              obtain ⟨z1, -⟩ := h8.cells HM.out (j - 1) (by omega)
              obtain ⟨s', hs'⟩ : ∃ s', nm ((SS D')[j - 1]'(by omega)) = s' := ⟨_, rfl⟩
              have hlt : Op.bytesLess s'.toList s.toList = true := by
                have := SS_lt h8.two.fd.hn (j - 1) (by omega)
                rw [hs'] at this
                rw [← hs]
                simpa only [hi] using this
              rw [hs'] at z1
              have e4 : IntKind.i64.wrap ((j - 1 : Nat) : Int) = ((j - 1 : Nat) : Int) := by rw [IntKind.wrap_i64]; omega
              have e7 : IntKind.i64.wrap ((j : Int) - 1) = ((j - 1 : Nat) : Int) := by rw [IntKind.wrap_i64]; omega
              have e5 : ((j - 1 : Nat) : Int) < (m : Int) := by omega
              have e6 : j - 1 < m := by omega
              clear h8 hs hs' hjl hi
              go_wp2_with (at_builtin; refine wpList_append_eqT rfl _ _ 22 rfl rfl (.slice wp j wc) _ (.slice bp (j + 1) bc) (by rfl) (by rfl) R8 ?_)
              go_quiet (fail)
              go_wp2
              refine ⟨⟨j + 1, bp, bc, by first | rfl | simp, rfl, by omega, H8.out.drewN _⟩, ?_⟩
              simp [intOf]
              omega
          · have hjj : m = j := by omega
            subst hjj
            have h8 := h7.out.done HM.out
            obtain ⟨wb, hwb⟩ : ∃ wb, wp = some ⟨wb, 0, none⟩ := by
              rcases h8.rw'.2 with ⟨_, e0⟩ | ⟨wb, cap', cur, e0, _⟩
              · omega
              · injection e0 with e1 e2 e3
                exact ⟨wb, e1⟩
            subst hwb
            have H8 : Hid (M4 W wr g gp gn gd (1 + k + 1) ch' c' D' m b1 cap1 b2 (.slice (some ⟨wb, 0, none⟩) m wc)) := h8
            clear h7 h8 hjm
            go_wp2
            go_loopw [11] (fun i wr => ∃ j : Nat, i = .int .i64 j ∧ j ≤ m ∧ Hid (M4 W wr g gp gn gd (1 + k + 1) ch' c' D' m b1 cap1 b2 (.slice (some ⟨wb, 0, none⟩) m wc))) (fun i _ => m - (intOf i).toNat)
            case atStart => exact ⟨0, rfl, by omega, H8⟩
            case round =>
              clear H8
              obtain ⟨j, rfl, hj, h9⟩ := hrel
              by_cases hjm : j < m
              · obtain ⟨n12, ⟨x1, q1, f1⟩, ⟨x2, q2, f2⟩, ⟨x3, q3, f3⟩⟩ := h9.out.at j hjm
                have n21 : b2 ≠ b1 := Ne.symm n12
                have HS : Hid (∀ x y z, M4 W (((wr.setCell ⟨b1, j, none⟩ x).setCell ⟨b2, j * 8, none⟩ y).setCell ⟨b2, j * 8 + 1, none⟩ z) g gp gn gd (1 + k + 1) ch' c' D' m b1 cap1 b2 (.slice (some ⟨wb, 0, none⟩) m wc)) := fun x y z => ((h9.out.set b1 j (.inl rfl) x).set b2 (j * 8) (.inr rfl) y).set b2 (j * 8 + 1) (.inr rfl) z
                clear h9
                go_wp2
                refine ⟨⟨j + 1, by first | rfl | simp, by omega, HS.out _ _ _⟩, ?_⟩
                simp [intOf]
                omega
              · have hjj : m = j := by omega
                subst hjj
                obtain ⟨ap, ac, w10, R10, h10⟩ := h9.out.more hm3 ⟨#[109, 111, 114, 101]⟩ ⟨#[97, 110, 100]⟩ ⟨#[109, 111, 114, 101]⟩
                have HL : Hid (Calls Tryd.prog 9 #[.pointer (some ⟨g, 0, none⟩)] w10 fun e w' => ∃ b3 cap3, e = .returned (.tuple #[.slice (some ⟨b3, 0, none⟩) m cap3, .int .i64 0]) ∧ M5 W w' g gp gn gd (1 + k + 1 + 1) ch' c' D' m (.slice (some ⟨wb, 0, none⟩) m wc) ∧ w'.ownsRow W.heap.size 9 1 (.slice (some ⟨b3, 0, none⟩) m cap3) m ((SS D').map Go.Proofs.encStr)) := h10.list HC.out (by omega) (by omega) HM.out hm1
                clear h9 h10 hjm
                go_wp2_with (at_builtin; refine wpList_append_eqT rfl _ _ 22 rfl rfl (.slice (some ⟨b1, 0, none⟩) m cap1) _ (.slice ap (m + 3) ac) (by rfl) (by rfl) R10 ?_)
                refine HL.out.mono ?_
                rintro e11 w11 ⟨b3, cap3, rfl, h11, r11⟩
                have HS : Hid (Calls Tryd.prog 10 #[.pointer (some ⟨g, 0, none⟩)] w11 fun e w' => ∃ b4, e = .returned (.slice (some ⟨b4, 0, none⟩) m m) ∧ M6 W w' D' m b3 cap3 b4 (.slice (some ⟨wb, 0, none⟩) m wc)) := h11.stats r11 HC.out HM.out hm1
                clear HL R10 h11 r11
                go_wp2_with (fail)
                refine HS.out.mono ?_
                rintro e12 w12 ⟨b4, rfl, h12⟩
                have H12 : Hid (M6 W w12 D' m b3 cap3 b4 (.slice (some ⟨wb, 0, none⟩) m wc)) := h12
                clear HS h12
                go_wp2_with ((go_at_call 7; refine (num_any _ _).mono ?_; rintro e9 w9 ⟨rfl, hw9⟩; subst w9))
                go_loopw [15] (fun i wr => ∃ j : Nat, i = .int .i64 j ∧ j ≤ m ∧ Hid (M6 W wr D' m b3 cap3 b4 (.slice (some ⟨wb, 0, none⟩) m wc))) (fun i _ => m - (intOf i).toNat)
                case atStart => exact ⟨0, rfl, by omega, H12⟩
                case round =>
                  clear H12
                  obtain ⟨j, rfl, hj, h13⟩ := hrel
                  by_cases hjm : j < m
                  · obtain ⟨q1, q2, q3, q4⟩ := h13.out.cells HM.out j hjm
                    obtain ⟨s, hs⟩ : ∃ s, nm ((SS D')[j]'(by rw [HM.out]; exact hjm)) = s := ⟨_, rfl⟩
                    rw [hs] at q1 q2 q3
                    have hss : (s.toList == s.toList) = true := by simp
                    clear hs
                    go_wp2
                    go_quiet (fail)
                    go_wp2
                    refine ⟨⟨j + 1, by first | rfl | simp, by omega, h13.out.drewN _⟩, ?_⟩
                    simp [intOf]
                    omega
                  · have hjj : m = j := by omega
                    subst hjj
                    have HB : Hid (Below W.heap.size W wr) := h13.out.bel
                    clear h13
                    go_wp2
                    go_ret
                    exact ⟨rfl, HB.out⟩
end Pq
end Go.Proofs.YtiljdiagabepbaaDoor
