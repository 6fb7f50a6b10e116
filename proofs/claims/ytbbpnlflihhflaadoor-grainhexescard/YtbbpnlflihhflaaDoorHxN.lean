import Derived.Test.YtbbpnlflihhflaaDoorHxM
namespace Go.Proofs.YtbbpnlflihhflaaDoor
namespace Hx
open Go.RowKit
set_option linter.unusedVariables false
/-- The six digits of 24 bits. -/
def six (f : Nat) : List UInt8 := [dg (f / 1048576 % 16), dg (f / 65536 % 16), dg (f / 4096 % 16), dg (f / 256 % 16), dg (f / 16 % 16), dg (f % 16)]
theorem hx_seven (f : Nat) (h : f < 16777216) : (hx (16777216 + f)).drop 1 = six f := by
  rw [hx_ge _ (by omega), hx_ge _ (by omega), hx_ge _ (by omega), hx_ge _ (by omega), hx_ge _ (by omega), hx_ge _ (by omega), hx_lt _ (by omega)]
  simp only [List.cons_append, List.nil_append, List.drop_succ_cons, List.drop_zero]
  unfold six
  congr 1
  · congr 1; omega
  congr 1
  · congr 1; omega
  congr 1
  · congr 1; omega
  congr 1
  · congr 1; omega
  congr 1
  · congr 1; omega
  congr 1
  · congr 1; omega
theorem trim_snoc (l : List UInt8) (c : UInt8) : Lib.trimRightB (l ++ [c]) c = Lib.trimRightB l c := by
  unfold Lib.trimRightB; simp
theorem trim_keep (l : List UInt8) (b c : UInt8) (h : b ≠ c) : Lib.trimRightB (l ++ [b]) c = l ++ [b] := by
  unfold Lib.trimRightB; simp [h]
theorem trim_nil (c : UInt8) : Lib.trimRightB [] c = [] := rfl
theorem ba_get (l : List UInt8) (b : UInt8) (n : Nat) (hn : n = l.length) (h : n < (bs (l ++ [b])).size) : (bs (l ++ [b]))[n]'h = b := by
  subst hn
  rw [ByteArray.getElem_eq_getElem_data]
  simp [bs]
def szOf : Value → Nat
  | .string b => b.size
  | _ => 0
theorem six_take (f k : Nat) : ((six f).take k).length ≤ 6 := by rw [List.length_take]; simp [six]; omega
set_option maxHeartbeats 1600000 in
theorem rhex_fin (u : Int) (h0 : 0 ≤ u) (h1 : u < 4294967296) (hf : u % 2147483648 < 2139095040) (hz : ¬ u % 2147483648 = 0) (w : World) (ht : Tb w) :
    Calls Tryd.prog 7 #[.int .u32 u] w fun r w' => r = .returned (.string (bs (hexL u))) ∧ Below w.heap.size w w' := by
  have HC : Hid (∀ W, Calls Tryd.prog 17 #[.int .u32 u] W fun r W' => r = .returned (.int .i64 (Cl.cls u)) ∧ W' = W) := fun W => Cl.rclass_any u h0 h1 W
  have hc := Cl.cls_fin u hf
  have hc0 : ¬ Cl.cls u = 0 := by unfold Cl.cls; rw [if_neg hz]; split <;> (try split) <;> (try split) <;> omega
  have HM : Hid (∀ W, Calls Tryd.prog 18 #[.int .u32 u] W fun r W' => r = .returned (.string (bs (sgn u))) ∧ W' = W) := fun W => minus_any u h0 h1 W
  obtain ⟨m0, m1, p0, p1⟩ := Cl_pm_b u h0 h1 hf hz
  obtain ⟨g0, g1, f0, f1, hF⟩ := lead_b _ m0 m1
  obtain ⟨f, hfl⟩ : ∃ f : Nat, lead (Cl.pm u) = 16777216 + f := ⟨lead (Cl.pm u) - 16777216, by omega⟩
  have hf24 : f < 16777216 := by omega
  have hx2 : Cl.pm u * 2 ^ (24 - Rd.lg (Cl.pm u)).toNat = 2 * (Cl.pm u * 2 ^ (23 - Rd.lg (Cl.pm u)).toNat) := by
    rw [show (24 - Rd.lg (Cl.pm u)).toNat = (23 - Rd.lg (Cl.pm u)).toNat + 1 by omega, Int.pow_succ]
    rw [Int.mul_comm (2 ^ _) 2, ← Int.mul_assoc, Int.mul_comm (Cl.pm u) 2, Int.mul_assoc]
  have HFU : Hid (∀ W, Calls Tryd.prog 20 #[.int .u32 u] W fun r W' => r = .returned (.tuple #[.bool (Cl.pn u), .int .u64 (Cl.pm u * 2 ^ (23 - Rd.lg (Cl.pm u)).toNat), .int .i64 (Cl.pe u - (23 - Rd.lg (Cl.pm u)))]) ∧ Below W.heap.size W W') := fun W => full_any u h0 h1 hf hz W
  have HPL : Hid (∀ W, Tb W → Calls Tryd.prog 22 #[.int .i64 (Cl.pe u + Rd.lg (Cl.pm u)), .int .i64 1] W fun r W' => r = .returned (.string (bs (px (Cl.pe u + Rd.lg (Cl.pm u))))) ∧ Below W.heap.size W W') := fun W hW => plus_any _ (by omega) (by omega) W hW
  have HE : Hid (hexL u = sgn u ++ (48 :: 120 :: 49 :: dot (Lib.trimRightB (six f) 48) ++ [112] ++ px (Cl.pe u + Rd.lg (Cl.pm u)))) := by
    show hexL u = _
    unfold hexL
    rw [if_neg (by omega), if_neg hz, frac, hfl, hx_seven f hf24]
  have hpl : (px (Cl.pe u + Rd.lg (Cl.pm u))).length ≤ 22 := by
    have := itoa_len (Cl.pe u + Rd.lg (Cl.pm u)) (by omega) (by omega)
    unfold px; split <;> simp <;> omega
  have hsl : (sgn u).length ≤ 1 := by unfold sgn; split <;> simp
  obtain ⟨a, ha⟩ : ∃ a : Int, a = (f : Int) := ⟨_, rfl⟩
  have ha0 : 0 ≤ a := by omega
  have ha1 : a < 16777216 := by omega
  have hX : 2 * (Cl.pm u * 2 ^ (23 - Rd.lg (Cl.pm u)).toNat) = 16777216 + a := by rw [← hx2, ← hF, hfl]; omega
  have eE : Cl.pe u - (23 - Rd.lg (Cl.pm u)) + 23 = Cl.pe u + Rd.lg (Cl.pm u) := by omega
  have eE0 : -1000 ≤ Cl.pe u - (23 - Rd.lg (Cl.pm u)) := by omega
  have eE1 : Cl.pe u - (23 - Rd.lg (Cl.pm u)) ≤ 1000 := by omega
  clear hx2 hF hfl f0 f1 p0 p1 m0 m1 g0 g1 hz hf
  rw [HE.out]
  clear HE
  generalize Cl.pm u * 2 ^ (23 - Rd.lg (Cl.pm u)).toNat = X at *
  generalize Cl.pe u - (23 - Rd.lg (Cl.pm u)) = E at *
  generalize Cl.pe u + Rd.lg (Cl.pm u) = E2 at *
  generalize Cl.cls u = c at *
  generalize Cl.pn u = neg at *
  have s1 := bs_size (px E2)
  have s2 := bs_size (sgn u)
  generalize px E2 = PX at *
  generalize sgn u = SG at *
  have hXX : X = 8388608 + a / 2 ∧ a % 2 = 0 := by omega
  have hX0 : 8388608 ≤ X := by omega
  have hX1 : X < 16777216 := by omega
  have hXa : 2 * (X - 8388608) = a := by omega
  have hc3 : (c == 3) = false := by simpa using hc.1
  have hc4 : (c == 4) = false := by simpa using hc.2
  have hc00 : (c == 0) = false := by simpa using hc0
  clear hc hc0
  clear hX hXX
  have z1 : (bs PX).size ≤ 22 := by omega
  have z2 : (bs SG).size ≤ 1 := by omega
  clear s1 s2 hpl hsl h0 h1
  have HD : Hid (∀ (d : Nat) (x : Int), x = (d : Int) → d < 16 → ∀ W, Tb W → Calls Tryd.prog 21 #[.int .u64 x, .int .i64 16] W fun r W' => r = .returned (.string (bs [dg d])) ∧ Below W.heap.size W W') := fun d x hx hd W hW => by
    subst hx
    have := fmt_any d (by omega) W hW.t64
    rwa [hx_lt d hd] at this
  obtain ⟨R, hR⟩ : ∃ R, Lib.trimRightB (six f) 48 = R := ⟨_, rfl⟩
  rw [hR]
  have HR0 : Hid (Lib.trimRightB (six f) 48 = R) := hR
  clear hR
  have HA : Hid (a = (f : Int)) := ha
  have HF24 : Hid (f < 16777216) := hf24
  clear ha hf24
  go_enter Tryd.func7, Tryd.ntmps7
  go_wp2_with (first | (go_at_call 17; refine (HC.out _).mono ?_; rintro e9 w9 ⟨rfl, hw9⟩; subst w9) | (go_at_call 20; refine (HFU.out _).mono ?_; rintro e9 w1 ⟨rfl, hb1⟩))
  go_loopw [8, 9] (fun x i wr => ∃ k : Nat, k ≤ 6 ∧ i = .int .i64 (20 - 4 * (k : Int)) ∧ x = .string (bs ((six f).take k)) ∧ Tb wr ∧ Below w.heap.size w wr) (fun _ i _ => (intOf i + 4).toNat)
  case atStart => exact ⟨0, by omega, rfl, rfl, ht.on hb1 (Nat.le_refl _), hb1⟩
  case round =>
    obtain ⟨k, hk, rfl, rfl, htr, hbr⟩ := hrel
    clear HC HFU hb1 hX0 hX1 hXa
    by_cases h6 : k = 6
    · subst h6
      have e6 : (six f).take 6 = six f := List.take_of_length_le (by simp [six])
      rw [e6]
      have l6 : (six f).length = 6 := rfl
      clear HD e6
      clear HA HF24 ha0 ha1
      go_wp2
      go_loop [8] (fun x => ∃ t, x = .string (bs t) ∧ Hid (Lib.trimRightB t 48 = R ∧ t.length ≤ 6)) (fun x => szOf x)
      case atStart => exact ⟨six f, rfl, HR0.out, by omega⟩
      case round =>
        obtain ⟨t, rfl, hh⟩ := hrel
        obtain ⟨htr2, htl⟩ := hh.out
        clear hh
        rcases List.eq_nil_or_concat t with rfl | ⟨l, b, hlb⟩
        · have HR : Hid (R = []) := htr2.symm
          have e0 : bs [] = ⟨#[]⟩ := rfl
          rw [e0]
          clear htr2 e0 htl l6
          go_wp2_with (first | (go_at_call 18; refine (HM.out _).mono ?_; rintro e9 w9 ⟨rfl, hw9⟩; subst w9) | (go_at_call 22; refine (HPL.out _ htr).mono ?_; rintro e9 w3 ⟨rfl, hb3⟩))
          go_ret
          refine ⟨?_, hbr.trans (hb3.mono hbr.size)⟩
          have e1 : ({ data := #[48, 120, 49] } : ByteArray) = bs [48, 120, 49] := rfl
          have e2 : ({ data := #[] } : ByteArray) = bs [] := rfl
          have e3 : ({ data := #[112] } : ByteArray) = bs [112] := rfl
          rw [HR.out, e1, e2, e3, bs_append, bs_append, bs_append, bs_append]
          simp [dot]
        · rw [List.concat_eq_append] at hlb
          subst hlb
          have hsz : (bs (l ++ [b])).size = l.length + 1 := by rw [bs_size]; simp
          have hget := ba_get l b l.length rfl
          have hext : (bs (l ++ [b])).extract 0 l.length = bs l := by rw [bs_ext]; simp
          have hl6 : l.length ≤ 6 := by simp at htl; omega
          by_cases h48 : b = 48
          · subst h48
            have HN : Hid (Lib.trimRightB l 48 = R ∧ l.length ≤ 6) := ⟨by rw [← htr2, trim_snoc], hl6⟩
            have hbl := bs_size l
            clear htr2 htl l6
            have hslice : ∀ W : World, (Instr.slice 9 (.string (bs (l ++ [48]))) (some (.int .i64 0)) (some (.int .i64 (l.length : Int))) none).run Tryd.prog W = .ok (.string (bs l)) W := fun W => by
              rw [run_slice_string W 9 _ .i64 .i64 0 (l.length : Int) Tryd.underlying9 (by omega) (by omega) (by rw [hsz]; omega)]
              simp only [Int.toNat_natCast, Int.toNat_zero]
              rw [hext]
            have hbl1 : (bs l).size < l.length + 1 := by omega
            clear hext
            generalize bs (l ++ [48]) = Y at *
            obtain ⟨n, hn⟩ : ∃ n, n = l.length := ⟨_, rfl⟩
            rw [← hn] at hsz hget hslice hl6 hbl1
            have HBL : Hid ((bs l).size < n + 1) := hbl1
            clear hbl hbl1 hn
            go_wp2
            refine ⟨⟨l, rfl, HN⟩, ?_⟩
            have := HBL.out
            simp [szOf, hsz]; omega
          · have hbn : ¬ b.toNat = 48 := fun h => h48 (by apply UInt8.toNat.inj; rw [h]; rfl)
            have HR : Hid (R = l ++ [b]) := by show R = _; rw [← htr2, trim_keep l b 48 h48]
            have hem := empty_iff (l ++ [b])
            rw [show decide (l ++ [b] = []) = false by simp] at hem
            have hbi : ¬ (b.toNat : Int) = 48 := by omega
            clear htr2 htl l6 hext h48 hbn
            obtain ⟨Y, hY⟩ : ∃ Y, Y = bs (l ++ [b]) := ⟨_, rfl⟩
            rw [← hY] at hsz hget hem ⊢
            have HY : Hid (Y = bs (l ++ [b])) := hY
            clear hY
            generalize l.length = n at *
            have hs7 : Y.size ≤ 7 := by omega
            go_wp2_with (first | (go_at_call 18; refine (HM.out _).mono ?_; rintro e9 w9 ⟨rfl, hw9⟩; subst w9) | (go_at_call 22; refine (HPL.out _ htr).mono ?_; rintro e9 w3 ⟨rfl, hb3⟩))
            go_ret
            refine ⟨?_, hbr.trans (hb3.mono hbr.size)⟩
            have e1 : ({ data := #[48, 120, 49] } : ByteArray) = bs [48, 120, 49] := rfl
            have e2 : ({ data := #[46] } : ByteArray) = bs [46] := rfl
            have e3 : ({ data := #[112] } : ByteArray) = bs [112] := rfl
            rw [HY.out, HR.out, e1, e2, e3, bs_append, bs_append, bs_append, bs_append, bs_append]
            simp [dot]
    · rcases (by omega : k = 0 ∨ k = 1 ∨ k = 2 ∨ k = 3 ∨ k = 4 ∨ k = 5) with rfl | rfl | rfl | rfl | rfl | rfl
      · have hd := HD.out (f / 1048576 % 16) (a / 1048576 % 16) (by rw [HA.out]; omega) (by omega)
        have HT : Hid (bs ((six f).take 0) ++ bs [dg (f / 1048576 % 16)] = bs ((six f).take 1)) := by rw [Hid, bs_append]; rfl
        have hz6 : (bs ((six f).take 0)).size ≤ 6 := by rw [bs_size]; exact six_take f 0
        have hz1 : (bs [dg (f / 1048576 % 16)]).size = 1 := rfl
        generalize bs [dg (f / 1048576 % 16)] = D at *
        generalize bs ((six f).take 0) = P at *
        clear HD HF24 HA
        go_wp2_with (go_at_call 21; refine (hd _ htr).mono ?_; rintro e9 w2 ⟨rfl, hb2⟩)
        have hbb := hbr.trans (hb2.mono hbr.size)
        exact ⟨⟨1, by omega, by simp, by rw [HT.out], htr.on hb2 (Nat.le_refl _), hbb⟩, by simp [intOf]⟩
      · have hd := HD.out (f / 65536 % 16) (a / 65536 % 16) (by rw [HA.out]; omega) (by omega)
        have HT : Hid (bs ((six f).take 1) ++ bs [dg (f / 65536 % 16)] = bs ((six f).take 2)) := by rw [Hid, bs_append]; rfl
        have hz6 : (bs ((six f).take 1)).size ≤ 6 := by rw [bs_size]; exact six_take f 1
        have hz1 : (bs [dg (f / 65536 % 16)]).size = 1 := rfl
        generalize bs [dg (f / 65536 % 16)] = D at *
        generalize bs ((six f).take 1) = P at *
        clear HD HF24 HA
        go_wp2_with (go_at_call 21; refine (hd _ htr).mono ?_; rintro e9 w2 ⟨rfl, hb2⟩)
        have hbb := hbr.trans (hb2.mono hbr.size)
        exact ⟨⟨2, by omega, by simp, by rw [HT.out], htr.on hb2 (Nat.le_refl _), hbb⟩, by simp [intOf]⟩
      · have hd := HD.out (f / 4096 % 16) (a / 4096 % 16) (by rw [HA.out]; omega) (by omega)
        have HT : Hid (bs ((six f).take 2) ++ bs [dg (f / 4096 % 16)] = bs ((six f).take 3)) := by rw [Hid, bs_append]; rfl
        have hz6 : (bs ((six f).take 2)).size ≤ 6 := by rw [bs_size]; exact six_take f 2
        have hz1 : (bs [dg (f / 4096 % 16)]).size = 1 := rfl
        generalize bs [dg (f / 4096 % 16)] = D at *
        generalize bs ((six f).take 2) = P at *
        clear HD HF24 HA
        go_wp2_with (go_at_call 21; refine (hd _ htr).mono ?_; rintro e9 w2 ⟨rfl, hb2⟩)
        have hbb := hbr.trans (hb2.mono hbr.size)
        exact ⟨⟨3, by omega, by simp, by rw [HT.out], htr.on hb2 (Nat.le_refl _), hbb⟩, by simp [intOf]⟩
      · have hd := HD.out (f / 256 % 16) (a / 256 % 16) (by rw [HA.out]; omega) (by omega)
        have HT : Hid (bs ((six f).take 3) ++ bs [dg (f / 256 % 16)] = bs ((six f).take 4)) := by rw [Hid, bs_append]; rfl
        have hz6 : (bs ((six f).take 3)).size ≤ 6 := by rw [bs_size]; exact six_take f 3
        have hz1 : (bs [dg (f / 256 % 16)]).size = 1 := rfl
        generalize bs [dg (f / 256 % 16)] = D at *
        generalize bs ((six f).take 3) = P at *
        clear HD HF24 HA
        go_wp2_with (go_at_call 21; refine (hd _ htr).mono ?_; rintro e9 w2 ⟨rfl, hb2⟩)
        have hbb := hbr.trans (hb2.mono hbr.size)
        exact ⟨⟨4, by omega, by simp, by rw [HT.out], htr.on hb2 (Nat.le_refl _), hbb⟩, by simp [intOf]⟩
      · have hd := HD.out (f / 16 % 16) (a / 16 % 16) (by rw [HA.out]; omega) (by omega)
        have HT : Hid (bs ((six f).take 4) ++ bs [dg (f / 16 % 16)] = bs ((six f).take 5)) := by rw [Hid, bs_append]; rfl
        have hz6 : (bs ((six f).take 4)).size ≤ 6 := by rw [bs_size]; exact six_take f 4
        have hz1 : (bs [dg (f / 16 % 16)]).size = 1 := rfl
        generalize bs [dg (f / 16 % 16)] = D at *
        generalize bs ((six f).take 4) = P at *
        clear HD HF24 HA
        go_wp2_with (go_at_call 21; refine (hd _ htr).mono ?_; rintro e9 w2 ⟨rfl, hb2⟩)
        have hbb := hbr.trans (hb2.mono hbr.size)
        exact ⟨⟨5, by omega, by simp, by rw [HT.out], htr.on hb2 (Nat.le_refl _), hbb⟩, by simp [intOf]⟩
      · have hd := HD.out (f % 16) (a % 16) (by rw [HA.out]; omega) (by omega)
        have HT : Hid (bs ((six f).take 5) ++ bs [dg (f % 16)] = bs ((six f).take 6)) := by rw [Hid, bs_append]; rfl
        have hz6 : (bs ((six f).take 5)).size ≤ 6 := by rw [bs_size]; exact six_take f 5
        have hz1 : (bs [dg (f % 16)]).size = 1 := rfl
        generalize bs [dg (f % 16)] = D at *
        generalize bs ((six f).take 5) = P at *
        clear HD HF24 HA
        go_wp2_with (go_at_call 21; refine (hd _ htr).mono ?_; rintro e9 w2 ⟨rfl, hb2⟩)
        have hbb := hbr.trans (hb2.mono hbr.size)
        exact ⟨⟨6, by omega, by simp, by rw [HT.out], htr.on hb2 (Nat.le_refl _), hbb⟩, by simp [intOf]⟩
end Hx
end Go.Proofs.YtbbpnlflihhflaaDoor
