import Derived.Test.YtbbpnlflihhflaaDoorHxB
namespace Go.Proofs.YtbbpnlflihhflaaDoor
namespace Hx
open Go.RowKit
set_option linter.unusedVariables false
theorem and15 (v : Nat) (h : v < 18446744073709551616) : bits .and .u64 (v : Int) 15 = ((v % 16 : Nat) : Int) := by
  rw [u64_and _ _ (by omega) (by omega) (by omega) (by omega)]
  have e : v &&& (2 ^ 4 - 1) = v % 2 ^ 4 := Nat.and_two_pow_sub_one_eq_mod v 4
  simp only [Int.toNat_natCast]
  rw [show (15 : Int).toNat = 2 ^ 4 - 1 from rfl, e]
theorem zc : Tryd.zeroCells100 = (vals (List.replicate 65 0)).toArray := by kernel_rfl
theorem drop_set (L : List UInt8) (i : Nat) (x : UInt8) (h : i < L.length) : (L.set i x).drop i = x :: L.drop (i + 1) := by
  rw [List.drop_set, if_neg (by omega), Nat.sub_self, List.drop_eq_getElem_cons h, List.set_cons_zero]
theorem dgu (d : Nat) (h : d < digs.size) : (digs[d]'h).toNat = (digs[d]'h).toNat := rfl
theorem al100 : Tryd.prog.arrayLen 100 = 65 := by kernel_rfl
theorem el100 : Tryd.prog.elem 100 = 5 := by kernel_rfl
theorem slice65 (g j : Nat) (h : j < 65) (W : World) : (Instr.sliceAt 100 (.pointer (some ⟨g, 0, none⟩)) (some (.int .i64 (j : Int))) none none).run Tryd.prog W = .ok (.slice (some ⟨g, j, none⟩) (65 - j) (65 - j)) W := by
  rw [run_sliceAt_array_l W 100 ⟨g, 0, none⟩ (by rw [al100, el100]; exact Tryd.underlying100) .i64 j (by omega) (by rw [al100]; omega), al100, el100]
  have e : (sizeOf 5).run Tryd.prog W = .ok 1 W := Tryd.sizeOf5 W
  rw [e]
  simp only [Result.andThen, slicedAt, Int.toNat_natCast]
  have ha : (⟨g, 0, none⟩ : Addr).add j = ⟨g, j, none⟩ := by unfold Addr.add; split <;> simp_all
  rw [if_neg (by omega), Nat.mul_one, ha]
theorem bits_any (u : Nat) (hu : u < 18446744073709551616) (w : World) (ht : T64 w) :
    Calls Tryd.prog 55 #[.slice none 0 0, .int .u64 u, .int .i64 16, .bool false, .bool false] w fun e w' => e = .returned (.tuple #[.slice none 0 0, .string (bs (hx u))]) ∧ Below w.heap.size w w' := by
  have HB : Hid (Below w.heap.size w (w.alloc (.cells Tryd.zeroCells100 100))) := (Below.refl _ _).alloc (Nat.le_refl _) _
  have HN : Hid (Ar (w.alloc (.cells Tryd.zeroCells100 100)) w.heap.size (List.replicate 65 0)) := by rw [zc]; exact Ar.new w _
  have hT := ht.on HB.out (Nat.le_refl _)
  clear ht
  go_enter Tryd.func55, Tryd.ntmps55
  go_wp2_with (first | (go_at_call 70; refine (pow_any _).mono ?_; rintro e w9 ⟨rfl, hw9⟩; subst w9) | (go_at_call 71; refine (tz_16 _ hT).mono ?_; rintro e w9 ⟨rfl, hw9⟩; subst w9))
  go_loopw [1, 13] (fun x y wr => ∃ v i L, 50 ≤ i ∧ i ≤ 65 ∧ v < 16 ^ (i - 49) ∧ x = .int .u64 (v : Nat) ∧ y = .int .i64 (i : Nat) ∧ List.length L = 65 ∧ Hid (hx u = hx v ++ L.drop i) ∧ Ar wr w.heap.size L ∧ Below w.heap.size w wr) (fun x _ _ => (intOf x).toNat)
  case atStart => exact ⟨u, 65, List.replicate 65 0, by omega, by omega, by simpa using hu, rfl, rfl, by simp, (show Hid _ from (by simp : hx u = hx u ++ (List.replicate 65 (0 : UInt8)).drop 65)), HN.out, HB.out⟩
  case round =>
    obtain ⟨v, i, L, hi0, hi1, hv, rfl, rfl, hL, heq, hA, hb⟩ := hrel
    clear hT HB HN
    have hvb : v < 18446744073709551616 := Nat.lt_of_lt_of_le hv (Nat.pow_le_pow_right (n := 16) (by omega) (show i - 49 ≤ 16 by omega))
    obtain ⟨j, rfl⟩ : ∃ j, i = j + 1 := ⟨i - 1, by omega⟩
    have hc := hA.cell (j := j) (by omega)
    have hf := hA.frozen j
    by_cases h16 : 16 ≤ v
    · have hj : 50 ≤ j := by
        rcases Nat.lt_or_ge j 50 with h | h
        · have : j = 49 := by omega
          subst this; simp at hv; omega
        · exact h
      have hand := and15 v hvb
      have hd : v % 16 < digs.size := by rw [digs_size]; omega
      generalize (L[j]'(by omega)).toNat = old at *
      have hset := hA.set j (digs[v % 16]'hd)
      have hbs : Below w.heap.size w (wr.setCell ⟨w.heap.size, j, none⟩ (.int .u8 (digs[v % 16]'hd).toNat)) := hb.setCell (Nat.le_refl _) _
      clear hA hb
      go_wp2
      refine ⟨⟨v / 16, j, L.set j (digs[v % 16]'hd), hj, by omega, ?_, by simp, rfl, by simpa using hL, ?_, hset, hbs⟩, by simp [intOf]; omega⟩
      · have e : 16 ^ (j + 1 - 49) = 16 ^ (j - 49) * 16 := by rw [← Nat.pow_succ]; congr 1; omega
        rw [e] at hv
        omega
      · show hx u = _
        rw [drop_set L j _ (by omega), digs_get (v % 16) (by omega), heq.out, hx_ge v (by omega), List.append_assoc]; rfl
    · have HA : Hid (Ar wr w.heap.size L ∧ Below w.heap.size w wr ∧ v < 16 ∧ j < 65 ∧ L.length = 65 ∧ hx u = hx v ++ L.drop (j + 1)) := ⟨hA, hb, by omega, by omega, hL, heq.out⟩
      have htx : ∀ c : UInt8, (convert 80 9 (.slice (some ⟨w.heap.size, j, none⟩) (65 - j) (65 - j))).run Tryd.prog (wr.setCell ⟨w.heap.size, j, none⟩ (.int .u8 (c.toNat : Int))) = .ok (.string (bs (c :: L.drop (j + 1)))) (wr.setCell ⟨w.heap.size, j, none⟩ (.int .u8 (c.toNat : Int))) := fun c => by
        rw [run_text _ w.heap.size j (65 - j) (65 - j) _ (hA.set j c) (by simp [hL]; omega), List.take_of_length_le (by simp [hL]), drop_set L j _ (by omega)]
      generalize (L[j]'(by omega)).toNat = old at *
      have hsl := slice65 w.heap.size j (by omega)
      have h36 : v < 36 := by omega
      have h16' : ¬ (16 : Int) ≤ (v : Int) := by omega
      have hwj : wrap64 (j : Int) = j := IntWalk.wrap64_in _ ⟨by omega, by omega⟩
      have hj64 : j ≤ 64 := by omega
      clear hA hb heq hi0 hi1 hv hvb hu h16 hL
      generalize 65 - j = n at *
      go_wp2
      go_ret2
      obtain ⟨hA, hb, hv16, hj65, hL, heq⟩ := HA.out
      refine ⟨?_, hb.setCell (Nat.le_refl _) _⟩
      have e : (digs[v]'(by rw [digs_size]; omega)) = dg v := digs_get v hv16 _
      rw [heq, hx_lt v hv16, ← e]; rfl
theorem ifmt_any (u : Nat) (hu : u < 18446744073709551616) (w : World) (ht : T64 w) :
    Calls Tryd.prog 37 #[.int .u64 u, .int .i64 16] w fun e w' => e = .returned (.string (bs (hx u))) ∧ Below w.heap.size w w' := by
  have H := bits_any u hu w ht
  clear hu
  go_enter Tryd.func37, Tryd.ntmps37
  go_wp2_with (go_at_call 55; refine H.mono ?_; rintro e w9 ⟨rfl, hb⟩)
  go_ret
  exact ⟨rfl, hb⟩
theorem fmt_any (u : Nat) (hu : u < 18446744073709551616) (w : World) (ht : T64 w) :
    Calls Tryd.prog 21 #[.int .u64 u, .int .i64 16] w fun e w' => e = .returned (.string (bs (hx u))) ∧ Below w.heap.size w w' := by
  have H := ifmt_any u hu w ht
  clear hu
  go_enter Tryd.func21, Tryd.ntmps21
  go_wp2_with (go_at_call 37; refine H.mono ?_; rintro e w9 ⟨rfl, hb⟩)
  go_ret
  exact ⟨rfl, hb⟩
end Hx
end Go.Proofs.YtbbpnlflihhflaaDoor
