import Derived.Test.YtdphfhpohlodcabOrLex
namespace Go.Proofs.Ytdphfhpohlodcab
namespace Od
open Go.RowKit Rd Cl
set_option linter.unusedVariables false
/-- A number that is no zero, with this sign. -/
def Res (r : Int) (n : Bool) : Prop := ∃ q, r = sg n + q ∧ 0 < q ∧ q < 2147483648
/-- What AddF answers where the first one is not the smaller. -/
def AddsTo (w : World) (a b : Int) (e : Ending) (w' : World) : Prop := ∃ r, e = .returned (.int .u32 r) ∧ w' = w ∧
  (decide (2147483648 ≤ a) = decide (2147483648 ≤ b) → Res r (decide (2147483648 ≤ a))) ∧
  (¬ decide (2147483648 ≤ a) = decide (2147483648 ≤ b) → a % 2147483648 = b % 2147483648 → r = 0) ∧
  (¬ decide (2147483648 ≤ a) = decide (2147483648 ≤ b) → ¬ a % 2147483648 = b % 2147483648 → Res r (decide (2147483648 ≤ a)))
theorem fin_same {w : World} {a b r : Int} {n : Bool} (hn : decide (2147483648 ≤ a) = n) (ho : decide (2147483648 ≤ b) = n) (hr : Res r n) : AddsTo w a b (.returned (.int .u32 r)) w := by
  refine ⟨r, rfl, rfl, ?_, ?_, ?_⟩ <;> rw [hn, ho]
  · exact fun _ => hr
  · exact fun h => absurd rfl h
  · exact fun h => absurd rfl h
theorem fin_zero {w : World} {a b : Int} {n o : Bool} (hn : decide (2147483648 ≤ a) = n) (ho : decide (2147483648 ≤ b) = o) (hno : ¬ n = o) (hs : a % 2147483648 = b % 2147483648) : AddsTo w a b (.returned (.int .u32 0)) w := by
  refine ⟨0, rfl, rfl, ?_, ?_, ?_⟩ <;> rw [hn, ho]
  · exact fun h => absurd h hno
  · exact fun _ _ => rfl
  · exact fun _ h => absurd hs h
theorem fin_diff {w : World} {a b r : Int} {n o : Bool} (hn : decide (2147483648 ≤ a) = n) (ho : decide (2147483648 ≤ b) = o) (hno : ¬ n = o) (hs : ¬ a % 2147483648 = b % 2147483648) (hr : Res r n) : AddsTo w a b (.returned (.int .u32 r)) w := by
  refine ⟨r, rfl, rfl, ?_, ?_, ?_⟩ <;> rw [hn, ho]
  · exact fun h => absurd h hno
  · exact fun _ h => absurd h hs
  · exact fun _ _ => hr
theorem res_of (n : Bool) (m e : Int) (h : 0 < m ∧ m < 18446744073709551616 ∧ (e - 39 < -149 → (2 : Int) ^ (-149 - (e - 39)).toNat ≤ m)) (h1 : -172 ≤ e) (h2 : e ≤ 104) : Res (rnd n m (e - 39)) n := by
  obtain ⟨r, q1, q2, q3⟩ := rnd_pos n m (e - 39) h.1 h.2.1 (by omega) (by omega) h.2.2
  exact ⟨r, q1, q2, q3⟩
set_option maxHeartbeats 2000000 in
theorem addF_ge (a b : Int) (a0 : 0 ≤ a) (a1 : a < 4294967296) (b0 : 0 ≤ b) (b1 : b < 4294967296) (ai : a % 2147483648 < 2139095040) (bi : b % 2147483648 < 2139095040) (az : ¬ a % 2147483648 = 0) (bz : ¬ b % 2147483648 = 0)
    (hle : b % 2147483648 ≤ a % 2147483648) (w : World) : Calls Try.prog 36 #[.int .u32 a, .int .u32 b] w (AddsTo w a b) := by
  go_enter Try.func36, Try.ntmps36
  go_wp2_with fail
  refine (full_any a a0 a1 ai az _).mono ?_
  rintro e9 w9 ⟨x, e, rfl, fa, hw9⟩
  subst w9
  go_wp2_with fail
  refine (full_any b b0 b1 bi bz _).mono ?_
  rintro e9 w9 ⟨y, f, rfl, fb, hw9⟩
  subst w9
  have na := nm_of _ x e (by omega) ai fa
  have nb := nm_of _ y f (by omega) bi fb
  have hord : f < e ∨ (f = e ∧ y ≤ x) := by
    by_cases hq : b % 2147483648 = a % 2147483648
    · rw [hq] at fb
      have := same _ x e y f (by omega) fa fb
      omega
    · rcases lex _ _ x e y f (by omega) ai (by omega) bi fa fb (by omega) with h | h
      · exact Or.inl h
      · exact Or.inr ⟨h.1, by omega⟩
  have hne : ¬ a % 2147483648 = b % 2147483648 → (e = f → y < x) := by
    intro hq he
    rcases lex _ _ x e y f (by omega) ai (by omega) bi fa fb (by omega) with h | h <;> omega
  have heq : a % 2147483648 = b % 2147483648 → x = y ∧ e = f := by
    intro hq
    rw [← hq] at fb
    exact same _ x e y f (by omega) fa fb
  have HNE : Hid (¬ a % 2147483648 = b % 2147483648 → (e = f → y < x)) := hne
  have HEQ : Hid (a % 2147483648 = b % 2147483648 → x = y ∧ e = f) := heq
  have HA : Hid (Nm x e) := na
  have HB : Hid (Nm y f) := nb
  obtain ⟨x1, x2, e1, e2, _⟩ := na
  obtain ⟨y1, y2, f1, f2, _⟩ := nb
  obtain ⟨d, hd⟩ := Int.eq_ofNat_of_zero_le (show 0 ≤ e - f by omega)
  have hdn : (e - f).toNat = d := by omega
  have HD : Hid ((d : Int) = e - f) := hd.symm
  have x0' : (x == 0) = false := by simp; omega
  have y0' : (y == 0) = false := by simp; omega
  have hfe : ¬ e < f := by omega
  have hfe' : f ≤ e := by omega
  have htest : ((e == f) && decide (x < y)) = false := by simp; omega
  clear hne heq fa fb hle hd
  generalize hN : decide (2147483648 ≤ a) = n at *
  generalize hO : decide (2147483648 ≤ b) = o at *
  have hcut := cut_b y d y1 y2
  by_cases h63 : 63 ≤ d
  · have h63' : 63 ≤ e - f := by have := HD.out; omega
    cases n <;> cases o
    · have hok := sum_ok x e 1 HA.out (by omega) (by omega)
      have k0 := hok.1
      have k1 := hok.2.1
      have HR := res_of false _ e hok e1 e2
      clear hok
      go_wp2_with fail
      refine (ref_any false _ (e - 39) (by omega) (by omega) (by omega) (by omega) _).mono ?_
      rintro e9 w9 ⟨rfl, hw9⟩
      subst w9
      go_wp2
      go_ret
      exact fin_same hN hO HR
    · by_cases hs : a % 2147483648 = b % 2147483648
      · exfalso; have := HEQ.out hs; omega
      · have hok := far_ok x e f 1 HA.out f1 (by omega) (by omega) (by omega)
        have k0 := hok.1
        have k1 := hok.2.1
        have HR := res_of false _ e hok e1 e2
        clear hok
        have hbs : (x * 549755813888 == 1) = false := by simp; omega
        go_wp2_with fail
        refine (ref_any false _ (e - 39) (by omega) (by omega) (by omega) (by omega) _).mono ?_
        rintro e9 w9 ⟨rfl, hw9⟩
        subst w9
        go_wp2
        go_ret
        exact fin_diff hN hO (by decide) hs HR
    · by_cases hs : a % 2147483648 = b % 2147483648
      · exfalso; have := HEQ.out hs; omega
      · have hok := far_ok x e f 1 HA.out f1 (by omega) (by omega) (by omega)
        have k0 := hok.1
        have k1 := hok.2.1
        have HR := res_of true _ e hok e1 e2
        clear hok
        have hbs : (x * 549755813888 == 1) = false := by simp; omega
        go_wp2_with fail
        refine (ref_any true _ (e - 39) (by omega) (by omega) (by omega) (by omega) _).mono ?_
        rintro e9 w9 ⟨rfl, hw9⟩
        subst w9
        go_wp2
        go_ret
        exact fin_diff hN hO (by decide) hs HR
    · have hok := sum_ok x e 1 HA.out (by omega) (by omega)
      have k0 := hok.1
      have k1 := hok.2.1
      have HR := res_of true _ e hok e1 e2
      clear hok
      go_wp2_with fail
      refine (ref_any true _ (e - 39) (by omega) (by omega) (by omega) (by omega) _).mono ?_
      rintro e9 w9 ⟨rfl, hw9⟩
      subst w9
      go_wp2
      go_ret
      exact fin_same hN hO HR
  have h63' : e - f < 63 := by have := HD.out; omega
  have hcf : 40 ≤ d → cutv y d ≤ 8388607 := fun h => cut_far y d h y1 y2
  have hce : d ≤ 39 → cutv y d * 2 ^ d = y * 549755813888 := fun h => (cut_exact y d h).2
  have HND : Hid (d ≤ 39 → ¬ a % 2147483648 = b % 2147483648 → 0 < x * 549755813888 - cutv y d ∧ x * 549755813888 - cutv y d < 18446744073709551616 ∧ (e - 39 < -149 → (2 : Int) ^ (-149 - (e - 39)).toNat ≤ x * 549755813888 - cutv y d)) := fun h hs => near_dif x e y f HA.out HB.out d HD.out h (HNE.out hs)
  have HZ : Hid (d = 0 → cutv y d = y * 549755813888) := fun h => by rw [(cut_exact y d (by omega)).1, h]; rfl
  have hct : y * 549755813888 / 2 ^ d = cutv y d := rfl
  generalize cutv y d = ct at *
  have hw : IntKind.u64.wrap (ct * 2 ^ d) = ct * 2 ^ d := by
    have := Int.mul_nonneg hcut.1 (show (0 : Int) ≤ 2 ^ d by have := p2 d; omega)
    rw [IntKind.wrap_u64]; omega
  obtain ⟨c0, c1, c2⟩ := hcut
  by_cases hex : ct * 2 ^ d = y * 549755813888
  · have hex' : (ct * 2 ^ d != y * 549755813888) = false := by simpa using hex
    clear hex hce c2
    by_cases hef : e = f
    · have hefb : (e == f) = true := by simpa using hef
      have hxy : y ≤ x := by omega
      have HEF : Hid (e = f) := hef
      clear hef htest hord hfe
      cases n <;> cases o
      · have hok := sum_ok x e ct HA.out c0 (by omega)
        have k0 := hok.1
        have k1 := hok.2.1
        have HR := res_of false _ e hok e1 e2
        clear hok
        go_wp2_with fail
        refine (ref_any false _ (e - 39) (by omega) (by omega) (by omega) (by omega) _).mono ?_
        rintro e9 w9 ⟨rfl, hw9⟩
        subst w9
        go_wp2
        go_ret
        exact fin_same hN hO HR
      · by_cases hs : a % 2147483648 = b % 2147483648
        · have HXE : Hid (x = y ∧ e = f) := HEQ.out hs
          have hbs : (x * 549755813888 == ct) = true := by have := HZ.out (by have := HD.out; have := HEF.out; omega); have := HXE.out; simp; omega
          go_wp2
          go_ret
          exact fin_zero hN hO (by decide) hs
        · have hok := (show 0 < x * 549755813888 - ct ∧ x * 549755813888 - ct < 18446744073709551616 ∧ (e - 39 < -149 → (2 : Int) ^ (-149 - (e - 39)).toNat ≤ x * 549755813888 - ct) from by
              by_cases h39 : d ≤ 39
              · exact HND.out h39 hs
              · exact far_ok x e f ct HA.out f1 (by have := HD.out; omega) c0 (by have := hcf (by omega); omega))
          have k0 := hok.1
          have k1 := hok.2.1
          have HR := res_of false _ e hok e1 e2
          clear hok
          have hbs : (x * 549755813888 == ct) = false := by simp; omega
          go_wp2_with fail
          refine (ref_any false _ (e - 39) (by omega) (by omega) (by omega) (by omega) _).mono ?_
          rintro e9 w9 ⟨rfl, hw9⟩
          subst w9
          go_wp2
          go_ret
          exact fin_diff hN hO (by decide) hs HR
      · by_cases hs : a % 2147483648 = b % 2147483648
        · have HXE : Hid (x = y ∧ e = f) := HEQ.out hs
          have hbs : (x * 549755813888 == ct) = true := by have := HZ.out (by have := HD.out; have := HEF.out; omega); have := HXE.out; simp; omega
          go_wp2
          go_ret
          exact fin_zero hN hO (by decide) hs
        · have hok := (show 0 < x * 549755813888 - ct ∧ x * 549755813888 - ct < 18446744073709551616 ∧ (e - 39 < -149 → (2 : Int) ^ (-149 - (e - 39)).toNat ≤ x * 549755813888 - ct) from by
              by_cases h39 : d ≤ 39
              · exact HND.out h39 hs
              · exact far_ok x e f ct HA.out f1 (by have := HD.out; omega) c0 (by have := hcf (by omega); omega))
          have k0 := hok.1
          have k1 := hok.2.1
          have HR := res_of true _ e hok e1 e2
          clear hok
          have hbs : (x * 549755813888 == ct) = false := by simp; omega
          go_wp2_with fail
          refine (ref_any true _ (e - 39) (by omega) (by omega) (by omega) (by omega) _).mono ?_
          rintro e9 w9 ⟨rfl, hw9⟩
          subst w9
          go_wp2
          go_ret
          exact fin_diff hN hO (by decide) hs HR
      · have hok := sum_ok x e ct HA.out c0 (by omega)
        have k0 := hok.1
        have k1 := hok.2.1
        have HR := res_of true _ e hok e1 e2
        clear hok
        go_wp2_with fail
        refine (ref_any true _ (e - 39) (by omega) (by omega) (by omega) (by omega) _).mono ?_
        rintro e9 w9 ⟨rfl, hw9⟩
        subst w9
        go_wp2
        go_ret
        exact fin_same hN hO HR
    · have hefb : (e == f) = false := by simpa using hef
      have hfl : f < e := by omega
      clear htest hord hfe hef
      cases n <;> cases o
      · have hok := sum_ok x e ct HA.out c0 (by omega)
        have k0 := hok.1
        have k1 := hok.2.1
        have HR := res_of false _ e hok e1 e2
        clear hok
        go_wp2_with fail
        refine (ref_any false _ (e - 39) (by omega) (by omega) (by omega) (by omega) _).mono ?_
        rintro e9 w9 ⟨rfl, hw9⟩
        subst w9
        go_wp2
        go_ret
        exact fin_same hN hO HR
      · by_cases hs : a % 2147483648 = b % 2147483648
        · exfalso; have hxe := HEQ.out hs; omega
        · have hok := (show 0 < x * 549755813888 - ct ∧ x * 549755813888 - ct < 18446744073709551616 ∧ (e - 39 < -149 → (2 : Int) ^ (-149 - (e - 39)).toNat ≤ x * 549755813888 - ct) from by
              by_cases h39 : d ≤ 39
              · exact HND.out h39 hs
              · exact far_ok x e f ct HA.out f1 (by have := HD.out; omega) c0 (by have := hcf (by omega); omega))
          have k0 := hok.1
          have k1 := hok.2.1
          have HR := res_of false _ e hok e1 e2
          clear hok
          have hbs : (x * 549755813888 == ct) = false := by simp; omega
          go_wp2_with fail
          refine (ref_any false _ (e - 39) (by omega) (by omega) (by omega) (by omega) _).mono ?_
          rintro e9 w9 ⟨rfl, hw9⟩
          subst w9
          go_wp2
          go_ret
          exact fin_diff hN hO (by decide) hs HR
      · by_cases hs : a % 2147483648 = b % 2147483648
        · exfalso; have hxe := HEQ.out hs; omega
        · have hok := (show 0 < x * 549755813888 - ct ∧ x * 549755813888 - ct < 18446744073709551616 ∧ (e - 39 < -149 → (2 : Int) ^ (-149 - (e - 39)).toNat ≤ x * 549755813888 - ct) from by
              by_cases h39 : d ≤ 39
              · exact HND.out h39 hs
              · exact far_ok x e f ct HA.out f1 (by have := HD.out; omega) c0 (by have := hcf (by omega); omega))
          have k0 := hok.1
          have k1 := hok.2.1
          have HR := res_of true _ e hok e1 e2
          clear hok
          have hbs : (x * 549755813888 == ct) = false := by simp; omega
          go_wp2_with fail
          refine (ref_any true _ (e - 39) (by omega) (by omega) (by omega) (by omega) _).mono ?_
          rintro e9 w9 ⟨rfl, hw9⟩
          subst w9
          go_wp2
          go_ret
          exact fin_diff hN hO (by decide) hs HR
      · have hok := sum_ok x e ct HA.out c0 (by omega)
        have k0 := hok.1
        have k1 := hok.2.1
        have HR := res_of true _ e hok e1 e2
        clear hok
        go_wp2_with fail
        refine (ref_any true _ (e - 39) (by omega) (by omega) (by omega) (by omega) _).mono ?_
        rintro e9 w9 ⟨rfl, hw9⟩
        subst w9
        go_wp2
        go_ret
        exact fin_same hN hO HR
  · have hex' : (ct * 2 ^ d != y * 549755813888) = true := by simpa using hex
    have h40 : 40 ≤ d := by
      apply Nat.le_of_not_lt; intro hc
      exact hex (hce (by omega))
    have hc8 := hcf h40
    have hefb : (e == f) = false := by have := HD.out; simp; omega
    have hfl : f < e := by have := HD.out; omega
    clear htest hord hfe
    have hor := or_one ct c0 (by omega)
    clear hex hce c2 hcf
    obtain ⟨so, hso⟩ : ∃ so, bits .or .u64 ct 1 = so := ⟨_, rfl⟩
    rw [hso] at hor
    cases n <;> cases o
    · have hok := sum_ok x e so HA.out (by omega) (by omega)
      have k0 := hok.1
      have k1 := hok.2.1
      have HR := res_of false _ e hok e1 e2
      clear hok
      go_wp2_with fail
      refine (ref_any false _ (e - 39) (by omega) (by omega) (by omega) (by omega) _).mono ?_
      rintro e9 w9 ⟨rfl, hw9⟩
      subst w9
      go_wp2
      go_ret
      exact fin_same hN hO HR
    · by_cases hs : a % 2147483648 = b % 2147483648
      · exfalso; have := HEQ.out hs; have := HD.out; omega
      · have hok := far_ok x e f so HA.out f1 (by have := HD.out; omega) (by omega) (by omega)
        have k0 := hok.1
        have k1 := hok.2.1
        have HR := res_of false _ e hok e1 e2
        clear hok
        have hbs : (x * 549755813888 == so) = false := by simp; omega
        go_wp2_with fail
        refine (ref_any false _ (e - 39) (by omega) (by omega) (by omega) (by omega) _).mono ?_
        rintro e9 w9 ⟨rfl, hw9⟩
        subst w9
        go_wp2
        go_ret
        exact fin_diff hN hO (by decide) hs HR
    · by_cases hs : a % 2147483648 = b % 2147483648
      · exfalso; have := HEQ.out hs; have := HD.out; omega
      · have hok := far_ok x e f so HA.out f1 (by have := HD.out; omega) (by omega) (by omega)
        have k0 := hok.1
        have k1 := hok.2.1
        have HR := res_of true _ e hok e1 e2
        clear hok
        have hbs : (x * 549755813888 == so) = false := by simp; omega
        go_wp2_with fail
        refine (ref_any true _ (e - 39) (by omega) (by omega) (by omega) (by omega) _).mono ?_
        rintro e9 w9 ⟨rfl, hw9⟩
        subst w9
        go_wp2
        go_ret
        exact fin_diff hN hO (by decide) hs HR
    · have hok := sum_ok x e so HA.out (by omega) (by omega)
      have k0 := hok.1
      have k1 := hok.2.1
      have HR := res_of true _ e hok e1 e2
      clear hok
      go_wp2_with fail
      refine (ref_any true _ (e - 39) (by omega) (by omega) (by omega) (by omega) _).mono ?_
      rintro e9 w9 ⟨rfl, hw9⟩
      subst w9
      go_wp2
      go_ret
      exact fin_same hN hO HR
end Od
end Go.Proofs.Ytdphfhpohlodcab
