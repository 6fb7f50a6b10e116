import Derived.Test.YtbbpnlflihhflaaDoorHxD
import Derived.Lib.Walk
import Derived.Lib.AtoiErrMem
import Derived.Laws.Strings3
import Derived.Laws.Closers25
import Derived.Laws.Closers25b
import Derived.BigCall
import Derived.BigGuard
namespace Go.Proofs.YtbbpnlflihhflaaDoor
namespace Hx
open Go.RowKit
set_option linter.unusedVariables false
theorem bw_below (w : World) (s : ByteArray) : Below w.heap.size w (Lib.bytesWorld w 5 s) :=
  Lib.bytesWorld_below w 5 s
theorem pend {q : Nat × Nat} {v r x k : Nat} {a b : Value} {w w' : World} (h1 : q = (v, r)) (h2 : q = (x, k)) (h3 : Ending.returned (.tuple #[a, b]) = .returned (.tuple #[.int .u64 x, ev k])) (hb : Below w.heap.size w w') : Ending.returned (.tuple #[a, b]) = .returned (.tuple #[.int .u64 v, ev r]) ∧ Below w.heap.size w w' := by
  rw [h1] at h2; injection h2 with e1 e2; subst e1 e2; exact ⟨h3, hb⟩
theorem lw_letter_all : ∀ n : Fin 256, 97 ≤ lw (UInt8.ofNat n.val) → 57 < n.val := by decide +kernel
theorem lw_letter (c : UInt8) (h : 97 ≤ lw c) : 57 < c.toNat := by
  have h2 := lw_letter_all ⟨c.toNat, c.toNat_lt⟩
  simp at h2
  exact h2 h
theorem lw_95_all : ∀ n : Fin 256, lw (UInt8.ofNat n.val) ≤ 102 → n.val ≠ 95 := by decide +kernel
theorem lw_95 (c : UInt8) (h : lw c ≤ 102) : c.toNat ≠ 95 := by
  have h2 := lw_95_all ⟨c.toNat, c.toNat_lt⟩
  simp at h2
  exact h2 h
theorem low95 (w : World) : Calls Tryd.prog 57 #[.int .u8 95] w fun e w' => e = .returned (.int .u8 127) ∧ w' = w := lower_any 95 w
set_option maxHeartbeats 32000000 in
set_option maxRecDepth 100000 in
theorem ip64 (l : List UInt8) (v r : Nat) (hp : pv 18446744073709551615 0 l = (v, r)) (h0 : l ≠ []) (hl : l.length ≤ 140737488355328) (w : World) :
    Calls Tryd.prog 39 #[.string (bs l), .int .i64 16, .int .i64 64] w fun e w' => e = .returned (.tuple #[.int .u64 v, ev r]) ∧ Below w.heap.size w w' := by
  have HP : Hid (pv 18446744073709551615 0 l = (v, r)) := hp
  clear hp
  have hsz := bs_size l
  have hdt := bs_data l
  generalize bs l = t at hsz hdt ⊢
  have hne : t.size ≠ 0 := by rw [hsz]; intro h; exact h0 (List.length_eq_zero_iff.1 h)
  have hemp : t.toList.isEmpty = false := by
    rw [← decide_eq_emptyBytes]
    exact decide_eq_false (fun h => hne (by rw [h]; rfl))
  have hcv := Lib.run_convert_string_bytes (P := Tryd.prog) w 9 80 5 t (u := .string) Tryd.underlying9 Tryd.underlying80 Tryd.underlying5
  have hB : ∀ j, j < t.size → (Lib.bytesWorld w 5 t).cell? ⟨w.heap.size, j, none⟩ = some (.int .u8 (t.data.toList.getD j 0).toNat) := fun j hj => Lib.bytesWorld_cell w 5 t j hj
  have hBW : Hid (Below w.heap.size w (Lib.bytesWorld w 5 t)) := bw_below w t
  obtain ⟨W1, hW1⟩ : ∃ W1, W1 = Lib.bytesWorld w 5 t := ⟨_, rfl⟩
  rw [← hW1] at hcv hB hBW
  clear hW1
  rw [hdt] at hB
  have hLn : l.length = t.size := hsz.symm
  have hmax : t.size ≤ 140737488355328 := by omega
  clear hdt hsz h0 hl
  have hmv : IntKind.u64.wrap (IntKind.u64.wrap 18446744073709551616 - 1) = 18446744073709551615 := by
    rw [IntKind.wrap_u64, IntKind.wrap_u64]
    decide
  go_enter Tryd.func39, Tryd.ntmps39
  go_wp2
  go_loop [12, 13, 101] (fun vu vn vi => ∃ (k acc : Nat) (a : Int), vu = .bool false ∧ vn = .int .u64 a ∧ vi = .int .i64 k ∧ k ≤ t.size ∧ Hid (a = (acc : Int) ∧ acc ≤ 18446744073709551615 ∧ pv 18446744073709551615 0 l = pv 18446744073709551615 acc (l.drop k)))
    (fun _ _ vi => t.size - (intOf vi).toNat)
  case atStart => exact ⟨0, 0, 0, rfl, rfl, rfl, by omega, rfl, by omega, rfl⟩
  case round =>
    obtain ⟨k, acc, a, rfl, rfl, rfl, hk, hh⟩ := hrel
    obtain ⟨ha, hacc, hdec⟩ := hh.out
    clear hh
    have a0 : 0 ≤ a := by omega
    have a1 : a ≤ 18446744073709551615 := by omega
    by_cases hkn : k < t.size
    · have hc := hB k hkn
      have hdrop : l.drop k = l[k]'(by omega) :: l.drop (k + 1) := List.drop_eq_getElem_cons (by omega)
      have hget : l.getD k 0 = l[k]'(by omega) := by simp [List.getD, List.getElem?_eq_getElem (show k < l.length by omega)]
      rw [hdrop] at hdec
      rw [hget] at hc
      generalize l[k]'(by omega) = c at hc hdec
      have hc256 : c.toNat < 256 := c.toNat_lt
      clear hB hdrop hget
      have hlow := lower_any c
      have hy256 := lw_lt c
      by_cases hdig : 48 ≤ c.toNat ∧ c.toNat ≤ 57
      · have hvd : hv c = some (c.toNat - 48) := by unfold hv; rw [if_pos hdig]
        obtain ⟨hd0, hd1⟩ := hdig
        clear hlow hy256
        by_cases hcut : 1152921504606846976 ≤ acc
        · rw [pv_big 18446744073709551615 acc (c.toNat - 48) c _ hvd (.inl hcut)] at hdec
          have icut : 1152921504606846976 ≤ a := by omega
          clear hcut hacc ha hvd
          go_wp2
          all_goals go_ret2
          all_goals exact pend HP.out hdec rfl hBW.out
        have icut : ¬ 1152921504606846976 ≤ a := by omega
        by_cases hov : 18446744073709551615 < acc * 16 + (c.toNat - 48)
        · rw [pv_big 18446744073709551615 acc (c.toNat - 48) c _ hvd (.inr hov)] at hdec
          have iov : 18446744073709551615 < a * 16 + ((c.toNat : Int) - 48) := by omega
          clear hcut hacc hov ha hvd
          go_wp2
          all_goals go_ret2
          all_goals exact pend HP.out hdec rfl hBW.out
        · rw [pv_go 18446744073709551615 acc (c.toNat - 48) c _ hvd (by omega)] at hdec
          have HN : Hid (a * 16 + ((c.toNat : Int) - 48) = ((acc * 16 + (c.toNat - 48) : Nat) : Int) ∧ acc * 16 + (c.toNat - 48) ≤ 18446744073709551615 ∧ pv 18446744073709551615 0 l = pv 18446744073709551615 (acc * 16 + (c.toNat - 48)) (l.drop (k + 1))) := ⟨by omega, by omega, hdec⟩
          have iov : a * 16 + ((c.toNat : Int) - 48) ≤ 18446744073709551615 := by omega
          clear hcut hacc hov hdec ha hvd
          go_wp2
          refine ⟨⟨k + 1, acc * 16 + (c.toNat - 48), a * 16 + ((c.toNat : Int) - 48), rfl, (by first | rfl | (congr 1; omega)), (by first | rfl | (congr 1; omega)), by omega, HN⟩, by simp [intOf]; omega⟩
      · by_cases hlet : 97 ≤ lw c ∧ lw c ≤ 102
        · have hvd : hv c = some (lw c - 87) := by unfold hv; rw [if_neg hdig, if_pos hlet]
          have hlet65 := lw_letter c hlet.1
          have hl95 := lw_95 c hlet.2
          generalize lw c = y at *
          obtain ⟨hd0, hd1⟩ := hlet
          have hn : 57 < c.toNat := hlet65
          have h95 : ¬ (c.toNat : Int) = 95 := by omega
          clear hdig hlet65 hl95
          by_cases hcut : 1152921504606846976 ≤ acc
          · rw [pv_big 18446744073709551615 acc (y - 87) c _ hvd (.inl hcut)] at hdec
            have icut : 1152921504606846976 ≤ a := by omega
            clear hcut hacc ha hvd
            go_wp2_with (go_at_call 57; refine (hlow _).mono ?_; rintro e w8 ⟨rfl, hw8⟩; subst w8)
            all_goals go_ret2
            all_goals exact pend HP.out hdec rfl hBW.out
          have icut : ¬ 1152921504606846976 ≤ a := by omega
          by_cases hov : 18446744073709551615 < acc * 16 + (y - 87)
          · rw [pv_big 18446744073709551615 acc (y - 87) c _ hvd (.inr hov)] at hdec
            have iov : 18446744073709551615 < a * 16 + ((y : Int) - 87) := by omega
            clear hcut hacc hov ha hvd
            go_wp2_with (go_at_call 57; refine (hlow _).mono ?_; rintro e w8 ⟨rfl, hw8⟩; subst w8)
            all_goals go_ret2
            all_goals exact pend HP.out hdec rfl hBW.out
          · rw [pv_go 18446744073709551615 acc (y - 87) c _ hvd (by omega)] at hdec
            have HN : Hid (a * 16 + ((y : Int) - 87) = ((acc * 16 + (y - 87) : Nat) : Int) ∧ acc * 16 + (y - 87) ≤ 18446744073709551615 ∧ pv 18446744073709551615 0 l = pv 18446744073709551615 (acc * 16 + (y - 87)) (l.drop (k + 1))) := ⟨by omega, by omega, hdec⟩
            have iov : a * 16 + ((y : Int) - 87) ≤ 18446744073709551615 := by omega
            clear hcut hacc hov hdec ha hvd
            go_wp2_with (go_at_call 57; refine (hlow _).mono ?_; rintro e w8 ⟨rfl, hw8⟩; subst w8)
            refine ⟨⟨k + 1, acc * 16 + (y - 87), a * 16 + ((y : Int) - 87), rfl, (by first | rfl | (congr 1; omega)), (by first | rfl | (congr 1; omega)), by omega, HN⟩, by simp [intOf]; omega⟩
        · have hvd : hv c = none := by unfold hv; rw [if_neg hdig, if_neg hlet]
          rw [pv_none 18446744073709551615 acc c _ hvd] at hdec
          generalize lw c = y at *
          clear hacc ha hvd
          go_wp2_with (go_at_call 57; (first | refine (hlow _).mono ?_ | refine (low95 _).mono ?_); rintro e w8 ⟨rfl, hw8⟩; subst w8)
          all_goals go_ret2
          all_goals exact pend HP.out hdec rfl hBW.out
    · have hkk : k = t.size := by omega
      subst hkk
      rw [List.drop_eq_nil_of_le (by omega)] at hdec
      subst ha
      clear hacc a0 a1
      go_wp2
      go_ret2
      exact pend HP.out hdec rfl hBW.out
set_option maxHeartbeats 32000000 in
set_option maxRecDepth 100000 in
theorem ip23 (l : List UInt8) (v r : Nat) (hp : pv 8388607 0 l = (v, r)) (h0 : l ≠ []) (hl : l.length ≤ 140737488355328) (w : World) :
    Calls Tryd.prog 39 #[.string (bs l), .int .i64 16, .int .i64 23] w fun e w' => e = .returned (.tuple #[.int .u64 v, ev r]) ∧ Below w.heap.size w w' := by
  have HP : Hid (pv 8388607 0 l = (v, r)) := hp
  clear hp
  have hsz := bs_size l
  have hdt := bs_data l
  generalize bs l = t at hsz hdt ⊢
  have hne : t.size ≠ 0 := by rw [hsz]; intro h; exact h0 (List.length_eq_zero_iff.1 h)
  have hemp : t.toList.isEmpty = false := by
    rw [← decide_eq_emptyBytes]
    exact decide_eq_false (fun h => hne (by rw [h]; rfl))
  have hcv := Lib.run_convert_string_bytes (P := Tryd.prog) w 9 80 5 t (u := .string) Tryd.underlying9 Tryd.underlying80 Tryd.underlying5
  have hB : ∀ j, j < t.size → (Lib.bytesWorld w 5 t).cell? ⟨w.heap.size, j, none⟩ = some (.int .u8 (t.data.toList.getD j 0).toNat) := fun j hj => Lib.bytesWorld_cell w 5 t j hj
  have hBW : Hid (Below w.heap.size w (Lib.bytesWorld w 5 t)) := bw_below w t
  obtain ⟨W1, hW1⟩ : ∃ W1, W1 = Lib.bytesWorld w 5 t := ⟨_, rfl⟩
  rw [← hW1] at hcv hB hBW
  clear hW1
  rw [hdt] at hB
  have hLn : l.length = t.size := hsz.symm
  have hmax : t.size ≤ 140737488355328 := by omega
  clear hdt hsz h0 hl
  have hmv : IntKind.u64.wrap (IntKind.u64.wrap 8388608 - 1) = 8388607 := by
    rw [IntKind.wrap_u64, IntKind.wrap_u64]
    decide
  go_enter Tryd.func39, Tryd.ntmps39
  go_wp2
  go_loop [12, 13, 101] (fun vu vn vi => ∃ (k acc : Nat) (a : Int), vu = .bool false ∧ vn = .int .u64 a ∧ vi = .int .i64 k ∧ k ≤ t.size ∧ Hid (a = (acc : Int) ∧ acc ≤ 8388607 ∧ pv 8388607 0 l = pv 8388607 acc (l.drop k)))
    (fun _ _ vi => t.size - (intOf vi).toNat)
  case atStart => exact ⟨0, 0, 0, rfl, rfl, rfl, by omega, rfl, by omega, rfl⟩
  case round =>
    obtain ⟨k, acc, a, rfl, rfl, rfl, hk, hh⟩ := hrel
    obtain ⟨ha, hacc, hdec⟩ := hh.out
    clear hh
    have a0 : 0 ≤ a := by omega
    have a1 : a ≤ 8388607 := by omega
    by_cases hkn : k < t.size
    · have hc := hB k hkn
      have hdrop : l.drop k = l[k]'(by omega) :: l.drop (k + 1) := List.drop_eq_getElem_cons (by omega)
      have hget : l.getD k 0 = l[k]'(by omega) := by simp [List.getD, List.getElem?_eq_getElem (show k < l.length by omega)]
      rw [hdrop] at hdec
      rw [hget] at hc
      generalize l[k]'(by omega) = c at hc hdec
      have hc256 : c.toNat < 256 := c.toNat_lt
      clear hB hdrop hget
      have hlow := lower_any c
      have hy256 := lw_lt c
      by_cases hdig : 48 ≤ c.toNat ∧ c.toNat ≤ 57
      · have hvd : hv c = some (c.toNat - 48) := by unfold hv; rw [if_pos hdig]
        obtain ⟨hd0, hd1⟩ := hdig
        clear hlow hy256
        have hcut : ¬ 1152921504606846976 ≤ acc := by omega
        have icut : ¬ 1152921504606846976 ≤ a := by omega
        by_cases hov : 8388607 < acc * 16 + (c.toNat - 48)
        · rw [pv_big 8388607 acc (c.toNat - 48) c _ hvd (.inr hov)] at hdec
          have iov : 8388607 < a * 16 + ((c.toNat : Int) - 48) := by omega
          clear hcut hacc hov ha hvd
          go_wp2
          all_goals go_ret2
          all_goals exact pend HP.out hdec rfl hBW.out
        · rw [pv_go 8388607 acc (c.toNat - 48) c _ hvd (by omega)] at hdec
          have HN : Hid (a * 16 + ((c.toNat : Int) - 48) = ((acc * 16 + (c.toNat - 48) : Nat) : Int) ∧ acc * 16 + (c.toNat - 48) ≤ 8388607 ∧ pv 8388607 0 l = pv 8388607 (acc * 16 + (c.toNat - 48)) (l.drop (k + 1))) := ⟨by omega, by omega, hdec⟩
          have iov : a * 16 + ((c.toNat : Int) - 48) ≤ 8388607 := by omega
          clear hcut hacc hov hdec ha hvd
          go_wp2
          refine ⟨⟨k + 1, acc * 16 + (c.toNat - 48), a * 16 + ((c.toNat : Int) - 48), rfl, (by first | rfl | (congr 1; omega)), (by first | rfl | (congr 1; omega)), by omega, HN⟩, by simp [intOf]; omega⟩
      · by_cases hlet : 97 ≤ lw c ∧ lw c ≤ 102
        · have hvd : hv c = some (lw c - 87) := by unfold hv; rw [if_neg hdig, if_pos hlet]
          have hlet65 := lw_letter c hlet.1
          have hl95 := lw_95 c hlet.2
          generalize lw c = y at *
          obtain ⟨hd0, hd1⟩ := hlet
          have hn : 57 < c.toNat := hlet65
          have h95 : ¬ (c.toNat : Int) = 95 := by omega
          clear hdig hlet65 hl95
          have hcut : ¬ 1152921504606846976 ≤ acc := by omega
          have icut : ¬ 1152921504606846976 ≤ a := by omega
          by_cases hov : 8388607 < acc * 16 + (y - 87)
          · rw [pv_big 8388607 acc (y - 87) c _ hvd (.inr hov)] at hdec
            have iov : 8388607 < a * 16 + ((y : Int) - 87) := by omega
            clear hcut hacc hov ha hvd
            go_wp2_with (go_at_call 57; refine (hlow _).mono ?_; rintro e w8 ⟨rfl, hw8⟩; subst w8)
            all_goals go_ret2
            all_goals exact pend HP.out hdec rfl hBW.out
          · rw [pv_go 8388607 acc (y - 87) c _ hvd (by omega)] at hdec
            have HN : Hid (a * 16 + ((y : Int) - 87) = ((acc * 16 + (y - 87) : Nat) : Int) ∧ acc * 16 + (y - 87) ≤ 8388607 ∧ pv 8388607 0 l = pv 8388607 (acc * 16 + (y - 87)) (l.drop (k + 1))) := ⟨by omega, by omega, hdec⟩
            have iov : a * 16 + ((y : Int) - 87) ≤ 8388607 := by omega
            clear hcut hacc hov hdec ha hvd
            go_wp2_with (go_at_call 57; refine (hlow _).mono ?_; rintro e w8 ⟨rfl, hw8⟩; subst w8)
            refine ⟨⟨k + 1, acc * 16 + (y - 87), a * 16 + ((y : Int) - 87), rfl, (by first | rfl | (congr 1; omega)), (by first | rfl | (congr 1; omega)), by omega, HN⟩, by simp [intOf]; omega⟩
        · have hvd : hv c = none := by unfold hv; rw [if_neg hdig, if_neg hlet]
          rw [pv_none 8388607 acc c _ hvd] at hdec
          generalize lw c = y at *
          clear hacc ha hvd
          go_wp2_with (go_at_call 57; (first | refine (hlow _).mono ?_ | refine (low95 _).mono ?_); rintro e w8 ⟨rfl, hw8⟩; subst w8)
          all_goals go_ret2
          all_goals exact pend HP.out hdec rfl hBW.out
    · have hkk : k = t.size := by omega
      subst hkk
      rw [List.drop_eq_nil_of_le (by omega)] at hdec
      subst ha
      clear hacc a0 a1
      go_wp2
      go_ret2
      exact pend HP.out hdec rfl hBW.out
end Hx
end Go.Proofs.YtbbpnlflihhflaaDoor
